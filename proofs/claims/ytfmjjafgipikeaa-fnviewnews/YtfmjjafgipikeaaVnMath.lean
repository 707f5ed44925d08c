/- What is new, put into a table, gives what both tables say together. -/
import Derived.Test.YtfmjjafgipikeaaSView
namespace Go.Proofs.Ytfmjjafgipikeaa.W
open Go.ChangeShapes Go.WideShapes Go.ChangeAt Go.RowKit
/-- a fact of the news -/
def fc (x : It) : Fc := ⟨x.n, x.i, x.s, x.g⟩
theorem ovr_self (f : Fc) : ovr f f = false := by
  unfold ovr l3B
  simp
theorem fc_ext {f g : Fc} (h0 : f.n = g.n) (h1 : f.i = g.i) (h2 : f.s = g.s) (h3 : f.g = g.g) : f = g := by
  cases f
  cases g
  simp_all
/-- what a table says of a node that none of the facts put names -/
theorem tget_join {k : Int} : ∀ {U T : List Fc}, Asc T → (∀ g ∈ U, g.n ≠ k) → tget (tjoin T U) k = tget T k
  | [], _, _, _ => rfl
  | g :: r, T, hA, h => by
    have e : tjoin T (g :: r) = tjoin (tput T g) r := rfl
    rw [e, tget_join (tput_asc hA) (fun x hx => h x (by simp [hx])), tget_tput hA, if_neg (fun z => h g (by simp) z.1.symm)]
theorem nw_node {T : List Fc} {g : Fc} {x : It} (h : nw T g = some x) : fc x = g := by
  unfold nw at h
  split at h
  · simp at h
    subst h
    rfl
  · split at h
    · cases h
    · simp at h
      subst h
      rfl
theorem nw_none {T : List Fc} {g : Fc} (h : nw T g = none) : tget T g.n = some g := by
  unfold nw at h
  split at h
  · cases h
  · rename_i f hf
    split at h
    · rename_i e
      rw [hf, fc_ext (tget_mem hf).2 e.1 e.2.1 e.2.2]
    · cases h
/-- putting in what is new is putting in all -/
theorem join_news {T0 : List Fc} : ∀ {U T : List Fc}, Asc T → Asc U → (∀ g ∈ U, tget T g.n = tget T0 g.n) → tjoin T ((newsL T0 U).map fc) = tjoin T U
  | [], _, _, _, _ => rfl
  | g :: r, T, hA, hU, h => by
    obtain ⟨hg, hr⟩ := asc_cons.1 hU
    have hrest : ∀ x ∈ r, tget (tput T g) x.n = tget T0 x.n := fun x hx => by
      rw [tget_tput hA, if_neg (fun z => by have := hg x hx; omega)]
      exact h x (by simp [hx])
    have e : tjoin T (g :: r) = tjoin (tput T g) r := rfl
    rw [e]
    cases hn : nw T0 g with
    | none =>
      have e1 : newsL T0 (g :: r) = newsL T0 r := by unfold newsL; rw [List.filterMap_cons, hn]
      have e2 : tget T g.n = some g := (h g (by simp)).trans (nw_none hn)
      have e3 : tput T g = T := tput_no hA e2 (ovr_self g)
      rw [e1, e3]
      exact join_news hA hr (fun x hx => h x (by simp [hx]))
    | some x =>
      have e1 : newsL T0 (g :: r) = x :: newsL T0 r := by unfold newsL; rw [List.filterMap_cons, hn]
      have e2 : tjoin T (List.map fc (x :: newsL T0 r)) = tjoin (tput T (fc x)) ((newsL T0 r).map fc) := rfl
      rw [e1, e2, nw_node hn]
      exact join_news (tput_asc hA) hr hrest
/-- of one and itself there is nothing new -/
theorem news_self {T : List Fc} (hA : Asc T) : newsL T T = [] := by
  unfold newsL
  rw [List.filterMap_eq_nil_iff]
  intro g hg
  obtain ⟨k, hk, rfl⟩ : ∃ k, k < T.length ∧ T.getD k Fc.zero = g := by
    obtain ⟨k, hk, e⟩ := List.getElem_of_mem hg
    exact ⟨k, hk, by simp [List.getD, hk, e]⟩
  unfold nw
  rw [tget_at k hA hk]
  simp
/-- what each of the news says -/
theorem news_mem {T U : List Fc} {x : It} (h : x ∈ newsL T U) : fc x ∈ U ∧ ((tget T x.n = none ∧ x.l = 0) ∨ ∃ f, tget T x.n = some f ∧ x.l = f.s ∧ f.n = x.n ∧ ¬ (f.i = x.i ∧ f.s = x.s ∧ f.g = x.g)) := by
  unfold newsL at h
  obtain ⟨g, hg, hn⟩ := List.mem_filterMap.1 h
  have e := nw_node hn
  refine ⟨e ▸ hg, ?_⟩
  subst e
  unfold nw at hn
  split at hn
  · rename_i hN
    simp at hn
    refine .inl ⟨hN, ?_⟩
    rw [← hn]
  · rename_i f hf
    split at hn
    · cases hn
    · rename_i hne
      simp at hn
      refine .inr ⟨f, hf, ?_, (tget_mem hf).2, hne⟩
      rw [← hn]
theorem tok_of {T : List Fc} (hA : Asc T) (hT : ∀ g ∈ T, fok g = true) : tokB T.length (fun k => T.getD k Fc.zero) = true := by
  unfold tokB allB ascB
  rw [Bool.and_eq_true, decide_eq_true_iff, decide_eq_true_iff]
  refine ⟨fun k hk => hT _ (by simp [List.getD, hk]), fun k hk h0 => getD_asc hA (k - 1) k (by omega) hk⟩
theorem join_asc : ∀ {U T : List Fc}, Asc T → Asc (tjoin T U)
  | [], _, h => h
  | g :: r, _, h => join_asc (U := r) (tput_asc (f := g) h)
theorem join_ok : ∀ {U T : List Fc}, (∀ g ∈ T, fok g = true) → (∀ g ∈ U, fok g = true) → ∀ g ∈ tjoin T U, fok g = true
  | [], _, h, _ => h
  | x :: r, T, h, hU => join_ok (U := r) (T := tput T x) (fun g hg => by
      rcases tput_mem hg with rfl | hg
      · exact hU _ (by simp)
      · exact h g hg) (fun g hg => hU g (by simp [hg]))
/-- the table with the first k of the news put in -/
def xl (n : Nat) (F : Nat → Fc) (m : Nat) (G : Nat → Fc) (k : Nat) : List Fc := tjoin (Go.Proofs.Ytfmjjafgipikeaa.seqF F n) (((nv n F m G).take k).map fc)
theorem xl_zero (n : Nat) (F : Nat → Fc) (m : Nat) (G : Nat → Fc) : xl n F m G 0 = Go.Proofs.Ytfmjjafgipikeaa.seqF F n := rfl
theorem nv_ok {n : Nat} {F : Nat → Fc} {m : Nat} {G : Nat → Fc} {k : Nat} (hk : k < (nv n F m G).length) : tokB n F = true ∧ tokB m G = true := by
  unfold nv at hk
  split at hk
  · rename_i h
    rwa [Bool.and_eq_true] at h
  · simp at hk
theorem nv_eq {n : Nat} {F : Nat → Fc} {m : Nat} {G : Nat → Fc} (h1 : tokB n F = true) (h2 : tokB m G = true) : nv n F m G = newsL (Go.Proofs.Ytfmjjafgipikeaa.seqF F n) (Go.Proofs.Ytfmjjafgipikeaa.seqF G m) := by
  unfold nv
  rw [h1, h2]
  rfl
theorem nv_self (n : Nat) (F : Nat → Fc) : nv n F n F = [] := by
  cases h : tokB n F
  · unfold nv
    rw [h]
    rfl
  · rw [nv_eq h h]
    exact news_self (seqF_asc (tok_all h).2 n (Nat.le_refl _))
theorem getD_mem' {T : List It} {k : Nat} (h : k < T.length) : T.getD k It.zero ∈ T := by
  rw [List.getD_eq_getElem?_getD, List.getElem?_eq_getElem h]
  exact List.getElem_mem h
theorem xl_succ {n : Nat} {F : Nat → Fc} {m : Nat} {G : Nat → Fc} {k : Nat} (hk : k < (nv n F m G).length) : xl n F m G (k + 1) = tput (xl n F m G k) (fc ((nv n F m G).getD k It.zero)) := by
  unfold xl
  rw [List.take_succ_eq_append_getElem hk, List.map_append]
  unfold tjoin
  rw [List.foldl_append]
  simp [List.getD, hk]
theorem nv_fok {n : Nat} {F : Nat → Fc} {m : Nat} {G : Nat → Fc} : ∀ x ∈ nv n F m G, fok (fc x) = true := fun x hx => by
  obtain ⟨k, hk, _⟩ := List.getElem_of_mem hx
  obtain ⟨h1, h2⟩ := nv_ok hk
  rw [nv_eq h1 h2] at hx
  exact seqF_ok (tok_all h2).1 _ (news_mem hx).1
theorem xl_tok {n : Nat} {F : Nat → Fc} {m : Nat} {G : Nat → Fc} (h : tokB n F = true) (k : Nat) : tokB (xl n F m G k).length (fun j => (xl n F m G k).getD j Fc.zero) = true :=
  tok_of (join_asc (seqF_asc (tok_all h).2 n (Nat.le_refl _))) (join_ok (seqF_ok (tok_all h).1) (fun g hg => by
    obtain ⟨x, hx, rfl⟩ := List.mem_map.1 hg
    exact nv_fok x (List.mem_of_mem_take hx)))
/-- one round of the law, numbers alone -/
theorem vn_round {n : Nat} {F : Nat → Fc} {m : Nat} {G : Nat → Fc} {k : Nat} (hk : k < (nv n F m G).length) {x : It} (hx : (nv n F m G).getD k It.zero = x) :
    (Lit.int .i64 x.n).wf = true ∧ (xl n F m G k).length ≤ 8 ∧ tpT (xl n F m G k).length (fun j => (xl n F m G k).getD j Fc.zero) (fc x) = xl n F m G (k + 1) ∧
    ((tof n F x.n = none ∧ x.l = 0) ∨ ∃ f, tof n F x.n = some f ∧ x.l = f.s ∧ f.n = x.n ∧ ¬ (f.i = x.i ∧ f.s = x.s ∧ f.g = x.g)) := by
  obtain ⟨h1, h2⟩ := nv_ok hk
  have hm : x ∈ nv n F m G := hx ▸ getD_mem' hk
  have hf := nv_fok x hm
  have ht := xl_tok (n := n) (F := F) (m := m) (G := G) h1 k
  refine ⟨fok_wf hf, tok_len ht, ?_, ?_⟩
  · unfold tpT
    rw [ht, hf, seqF_getD_self, xl_succ hk, hx]
    rfl
  · rw [nv_eq h1 h2] at hm
    have := (news_mem hm).2
    unfold tof
    rw [if_pos h1]
    exact this
/-- in the end there is what both say together -/
theorem vn_end {n : Nat} {F : Nat → Fc} {m : Nat} {G : Nat → Fc} (h1 : tokB n F = true) (h2 : tokB m G = true) : xl n F m G (nv n F m G).length = tj n F m G := by
  unfold xl tj
  rw [List.take_length, nv_eq h1 h2, h1, h2]
  exact join_news (seqF_asc (tok_all h1).2 n (Nat.le_refl _)) (seqF_asc (tok_all h2).2 m (Nat.le_refl _)) (fun _ _ => rfl)
theorem xl_len {n : Nat} {F : Nat → Fc} {m : Nat} {G : Nat → Fc} (hn : n ≤ 8) : (xl n F m G (nv n F m G).length).length ≤ 8 := by
  cases h : tokB n F
  · have e : nv n F m G = [] := by unfold nv; rw [h]; rfl
    unfold xl
    rw [e]
    show (Go.Proofs.Ytfmjjafgipikeaa.seqF F n).length ≤ 8
    rw [Go.Proofs.Ytfmjjafgipikeaa.seqF_len]
    exact hn
  · exact tok_len (xl_tok h _)
theorem fsl_get {w : World} {a : Option Addr} {n : Nat} {F : Nat → Fc} (h : FSl w a n F) : FSl w a (Go.Proofs.Ytfmjjafgipikeaa.seqF F n).length (fun j => (Go.Proofs.Ytfmjjafgipikeaa.seqF F n).getD j Fc.zero) := by
  rw [Go.Proofs.Ytfmjjafgipikeaa.seqF_len]
  intro hl
  obtain ⟨b, off, e, hb, hf⟩ := h hl
  refine ⟨b, off, e, hb, fun k hk => ?_⟩
  dsimp only
  rw [Go.Proofs.Ytfmjjafgipikeaa.seqF_getD F hk]
  exact hf k hk
end Go.Proofs.Ytfmjjafgipikeaa.W
