/- Tables told to each other: what they say of each node; the order does not matter. Lists alone, no program. -/
import Derived.Test.YtogoehaagdldnaaGreatDoorJoin
namespace Go.Proofs.YtogoehaagdldnaaGreatDoor
theorem fc_ext {f g : Fc} (h0 : f.n = g.n) (h1 : f.i = g.i) (h2 : f.s = g.s) (h3 : f.g = g.g) : f = g := by
  cases f
  cases g
  simp_all
theorem ok_bd {f : Fc} (h : fok f = true) : 0 ≤ f.i ∧ f.i ≤ 999 ∧ 1 ≤ f.s ∧ f.s ≤ 4 := by
  unfold fok fokB inb at h
  simp at h
  omega
def wgt (f : Fc) : Int := f.i * 16 + f.s * 2 + if f.g = true then 1 else 0
theorem ovr_wgt {f g : Fc} (hf : fok f = true) (hg : fok g = true) : ovr f g = true ↔ wgt g < wgt f := by
  have := ok_bd hf
  have := ok_bd hg
  unfold ovr l3B wgt
  by_cases h1 : f.i = g.i
  · by_cases h2 : f.s = g.s
    · rw [if_neg (fun z => z h1), if_neg (fun z => z h2), h1, h2]
      cases f.g <;> cases g.g <;> simp <;> omega
    · rw [if_neg (fun z => z h1), if_pos h2]
      cases f.g <;> cases g.g <;> simp <;> omega
  · rw [if_pos h1]
    cases f.g <;> cases g.g <;> simp <;> omega
theorem wgt_inj {f g : Fc} (hf : fok f = true) (hg : fok g = true) (hn : f.n = g.n) (h : wgt f = wgt g) : f = g := by
  have := ok_bd hf
  have := ok_bd hg
  unfold wgt at h
  have hs : f.i = g.i ∧ f.s = g.s ∧ f.g = g.g := by
    cases e1 : f.g <;> cases e2 : g.g <;> simp [e1, e2] at h ⊢ <;> omega
  exact fc_ext hn hs.1 hs.2.1 hs.2.2
def mrg : Option Fc → Option Fc → Option Fc
  | none, y => y
  | some g, none => some g
  | some g, some f => if ovr f g = true then some f else some g
theorem mrg_none (x : Option Fc) : mrg x none = x := by cases x <;> rfl
/-- what both say of a node -/
theorem tget_tjoin (k : Int) : ∀ {U T : List Fc}, Asc T → Asc U → tget (tjoin T U) k = mrg (tget T k) (tget U k)
  | [], T, _, _ => by
    show tget T k = _
    have e : tget [] k = none := rfl
    rw [e, mrg_none]
  | g :: r, T, hT, hU => by
    obtain ⟨hg, hr⟩ := asc_cons.1 hU
    have e : tjoin T (g :: r) = tjoin (tput T g) r := rfl
    rw [e, tget_tjoin k (tput_asc hT) hr, tget_tput hT, tget_cons]
    by_cases hk : g.n = k
    · subst hk
      have e1 : tget r g.n = none := tget_low hg
      rw [if_pos rfl, e1, mrg_none]
      cases ht : tget T g.n with
      | none =>
        have e2 : tnew T g = true := by unfold tnew; rw [ht]
        rw [if_pos ⟨rfl, e2⟩]
        rfl
      | some h =>
        have e2 : tnew T g = ovr g h := by unfold tnew; rw [ht]
        rw [e2]
        show _ = if ovr g h = true then some g else some h
        by_cases ho : ovr g h = true
        · rw [if_pos ⟨rfl, ho⟩, if_pos ho]
        · rw [if_neg (fun z => ho z.2), if_neg ho]
    · rw [if_neg hk, if_neg (fun z => hk z.1.symm)]
theorem asc_ext : ∀ {T U : List Fc}, Asc T → Asc U → (∀ k, tget T k = tget U k) → T = U
  | [], [], _, _, _ => rfl
  | [], u :: r, _, _, h => by
    have := h u.n
    rw [tget_cons, if_pos rfl] at this
    cases this
  | t :: s, [], _, _, h => by
    have := h t.n
    rw [tget_cons, if_pos rfl] at this
    cases this
  | t :: s, u :: r, hT, hU, h => by
    obtain ⟨h1, h2⟩ := asc_cons.1 hT
    obtain ⟨h3, h4⟩ := asc_cons.1 hU
    have a1 : tget s t.n = none := tget_low h1
    have a2 : tget r u.n = none := tget_low h3
    have hn : t.n = u.n := by
      rcases Int.lt_trichotomy t.n u.n with hl | he | hl
      · have := h t.n
        rw [tget_cons, if_pos rfl, tget_cons, if_neg (by omega), tget_low (fun g hg => by have := h3 g hg; omega)] at this
        cases this
      · exact he
      · have := h u.n
        rw [tget_cons, if_neg (by omega), tget_low (fun g hg => by have := h1 g hg; omega), tget_cons, if_pos rfl] at this
        cases this
    have htu : t = u := by
      have := h t.n
      rw [tget_cons, if_pos rfl, tget_cons, if_pos hn.symm] at this
      exact Option.some.inj this
    subst htu
    have : s = r := asc_ext h2 h4 (fun k => by
      by_cases hk : t.n = k
      · rw [← hk, a1, a2]
      · have := h k
        rwa [tget_cons, if_neg hk, tget_cons, if_neg hk] at this)
    rw [this]
/-- what a table says of a node is of that node, and ok -/
def Says (k : Int) (x : Option Fc) : Prop := ∀ f, x = some f → fok f = true ∧ f.n = k
theorem says_get {T : List Fc} (h : ∀ g ∈ T, fok g = true) (k : Int) : Says k (tget T k) := fun f hf => ⟨h f (tget_mem hf).1, (tget_mem hf).2⟩
theorem mrg_comm {k : Int} {x y : Option Fc} (hx : Says k x) (hy : Says k y) : mrg x y = mrg y x := by
  cases x with
  | none => exact (mrg_none y).symm
  | some g =>
    cases y with
    | none => rfl
    | some f =>
      obtain ⟨g1, g2⟩ := hx g rfl
      obtain ⟨f1, f2⟩ := hy f rfl
      have i1 := ovr_wgt f1 g1
      have i2 := ovr_wgt g1 f1
      show (if ovr f g = true then some f else some g) = if ovr g f = true then some g else some f
      by_cases h1 : ovr f g = true
      · have h2 : ¬ ovr g f = true := fun z => by have := i1.1 h1; have := i2.1 z; omega
        rw [if_pos h1, if_neg h2]
      · by_cases h2 : ovr g f = true
        · rw [if_neg h1, if_pos h2]
        · rw [if_neg h1, if_neg h2]
          rw [i1] at h1
          rw [i2] at h2
          rw [wgt_inj f1 g1 (f2.trans g2.symm) (by omega)]
theorem mrg_says {k : Int} {x y : Option Fc} (hx : Says k x) (hy : Says k y) : Says k (mrg x y) := by
  intro f hf
  cases x with
  | none => exact hy f hf
  | some g =>
    cases y with
    | none => exact hx f hf
    | some h =>
      change (if ovr h g = true then some h else some g) = some f at hf
      split at hf
      · exact hy f hf
      · exact hx f hf
theorem mrg_assoc {k : Int} {x y z : Option Fc} (hx : Says k x) (hy : Says k y) (hz : Says k z) : mrg (mrg x y) z = mrg x (mrg y z) := by
  cases x with
  | none => rfl
  | some a =>
    cases y with
    | none => rfl
    | some b =>
      cases z with
      | none => rw [mrg_none, mrg_none]
      | some c =>
        have oa := (hx a rfl).1
        have ob := (hy b rfl).1
        have oc := (hz c rfl).1
        have i1 := ovr_wgt ob oa
        have i2 := ovr_wgt oc ob
        have i3 := ovr_wgt oc oa
        show mrg (if ovr b a = true then some b else some a) (some c) = mrg (some a) (if ovr c b = true then some c else some b)
        by_cases h1 : ovr b a = true <;> by_cases h2 : ovr c b = true <;> by_cases h3 : ovr c a = true <;> first
          | (simp [mrg, h1, h2, h3]; done)
          | (exfalso
             rw [i1] at h1
             rw [i2] at h2
             rw [i3] at h3
             omega)
theorem mrg_self (x : Option Fc) : mrg x x = x := by
  cases x with
  | none => rfl
  | some f =>
    show (if ovr f f = true then some f else some f) = _
    split <;> rfl
theorem join_asc : ∀ {U T : List Fc}, Asc T → Asc (tjoin T U)
  | [], _, h => h
  | g :: r, _, h => join_asc (U := r) (tput_asc (f := g) h)
theorem join_ok : ∀ {U T : List Fc}, (∀ g ∈ T, fok g = true) → (∀ g ∈ U, fok g = true) → ∀ g ∈ tjoin T U, fok g = true
  | [], _, h, _ => h
  | x :: r, T, h, hU => join_ok (U := r) (T := tput T x) (fun g hg => by
      rcases tput_mem hg with rfl | hg
      · exact hU _ (by simp)
      · exact h g hg) (fun g hg => hU g (by simp [hg]))
/-- a table -/
def Tbl (T : List Fc) : Prop := Asc T ∧ ∀ g ∈ T, fok g = true
theorem Tbl.join {T U : List Fc} (h : Tbl T) (k : Tbl U) : Tbl (tjoin T U) := ⟨join_asc h.1, join_ok h.2 k.2⟩
theorem join_comm {T U : List Fc} (h : Tbl T) (k : Tbl U) : tjoin T U = tjoin U T :=
  asc_ext (join_asc h.1) (join_asc k.1) (fun x => by rw [tget_tjoin x h.1 k.1, tget_tjoin x k.1 h.1, mrg_comm (says_get h.2 x) (says_get k.2 x)])
theorem join_assoc {T U V : List Fc} (h : Tbl T) (k : Tbl U) (l : Tbl V) : tjoin (tjoin T U) V = tjoin T (tjoin U V) :=
  asc_ext (join_asc (join_asc h.1)) (join_asc h.1) (fun x => by rw [tget_tjoin x (join_asc h.1) l.1, tget_tjoin x h.1 k.1, tget_tjoin x h.1 (join_asc k.1), tget_tjoin x k.1 l.1, mrg_assoc (says_get h.2 x) (says_get k.2 x) (says_get l.2 x)])
theorem join_self {T : List Fc} (h : Tbl T) : tjoin T T = T :=
  asc_ext (join_asc h.1) h.1 (fun x => by rw [tget_tjoin x h.1 h.1, mrg_self])
theorem join_again {T U : List Fc} (h : Tbl T) (k : Tbl U) : tjoin (tjoin T U) T = tjoin T U := by
  rw [join_comm (h.join k) h, ← join_assoc h h k, join_self h]
theorem join_again' {T U : List Fc} (h : Tbl T) (k : Tbl U) : tjoin U (tjoin T U) = tjoin T U := by
  rw [join_comm h k, ← join_assoc k k h, join_self k]
theorem tget_own {T : List Fc} (hA : Asc T) {f : Fc} (hf : f ∈ T) : tget T f.n = some f := by
  obtain ⟨k, hk, e⟩ := List.getElem_of_mem hf
  have := tget_at k hA hk
  simpa [List.getD, hk, e] using this
/-- nothing that one says is lost in the other -/
def Kp (T X : List Fc) : Prop := ∀ f ∈ T, ∃ g, tget X f.n = some g ∧ g.n = f.n ∧ fok g = true ∧ (g = f ∨ ovr g f = true)
theorem kp_right {T U : List Fc} (h : Tbl T) (k : Tbl U) : Kp U (tjoin T U) := fun f hf => by
  rw [tget_tjoin f.n h.1 k.1, tget_own k.1 hf]
  cases ht : tget T f.n with
  | none => exact ⟨f, rfl, rfl, k.2 f hf, .inl rfl⟩
  | some g =>
    obtain ⟨g1, g2⟩ := says_get h.2 f.n g ht
    have of := k.2 f hf
    have i1 := ovr_wgt of g1
    have i2 := ovr_wgt g1 of
    by_cases ho : ovr f g = true
    · exact ⟨f, if_pos ho, rfl, of, .inl rfl⟩
    · refine ⟨g, if_neg ho, g2, g1, ?_⟩
      rw [i1] at ho
      by_cases he : wgt f = wgt g
      · exact .inl (wgt_inj g1 of g2 he.symm)
      · exact .inr (i2.2 (by omega))
theorem kp_left {T U : List Fc} (h : Tbl T) (k : Tbl U) : Kp T (tjoin T U) := by
  rw [join_comm h k]
  exact kp_right k h
end Go.Proofs.YtogoehaagdldnaaGreatDoor
