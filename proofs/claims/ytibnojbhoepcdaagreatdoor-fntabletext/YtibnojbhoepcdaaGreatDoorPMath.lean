/- How facts are read: the program's way and the model's answer alike (no program in this text). -/
import Derived.Test.YtibnojbhoepcdaaGreatDoorTxt2
import Derived.Test.YtibnojbhoepcdaaGreatDoorPStr
namespace Go.Proofs.YtibnojbhoepcdaaGreatDoor
/-- the place of a word, 0 if it is none -/
def wnum (s : List UInt8) : Int := if s = wa1 then 1 else if s = wa2 then 2 else if s = wa3 then 3 else if s = wa4 then 4 else 0
theorem word_wnum {s : List UInt8} (h : wnum s ≠ 0) : wordL (wnum s) = s := by
  unfold wnum at h ⊢
  split
  · next e => exact e ▸ rfl
  · split
    · next e => exact e ▸ rfl
    · split
      · next e => exact e ▸ rfl
      · split
        · next e => exact e ▸ rfl
        · next h1 h2 h3 h4 => rw [if_neg h1, if_neg h2, if_neg h3, if_neg h4] at h; exact absurd rfl h
/-- what the program reads in a text of a fact -/
def pf (s : List UInt8) : Option Fc := match cutL 58 s with
  | [a, b, c] => if (pnum a).2 = true ∧ (pnum b).2 = true ∧ wnum (Lib.trimSuffix c [42]) ≠ 0 then some ⟨(pnum a).1, (pnum b).1, wnum (Lib.trimSuffix c [42]), Lib.hasSuffix c [42]⟩ else none
  | _ => none
/-- what the model reads in it -/
def mst (s : List UInt8) : Bool := s.getLast? == some 42
def mf (s : List UInt8) : Option Fc := match cutL 58 (if mst s = true then s.dropLast else s) with
  | [a, b, c] => if fok ⟨mnum a, mnum b, wnum c, mst s⟩ = true then some ⟨mnum a, mnum b, wnum c, mst s⟩ else none
  | _ => none
theorem star_back (c : List UInt8) : Lib.trimSuffix c [42] ++ (if Lib.hasSuffix c [42] = true then [42] else []) = c := by
  unfold Lib.trimSuffix
  by_cases h : Lib.hasSuffix c [42] = true
  · rw [if_pos h, if_pos h]
    obtain ⟨t, e⟩ := List.isSuffixOf_iff_suffix.1 h
    subst e
    simp
  · rw [if_neg h, if_neg h]
    simp
theorem pf_say {s : List UInt8} {f : Fc} (h : pf s = some f) : ftx f = s := by
  unfold pf at h
  split at h
  · next a b c e =>
    split at h
    · next hq =>
      injection h with h
      subst h
      have j := join_cutL 58 s.length s (Nat.le_refl _)
      rw [e, join_two _ _ _ (by simp), join_two _ _ _ (by simp), Lib.join_one] at j
      unfold ftx
      simp only
      rw [pnum_say hq.1, pnum_say hq.2.1, word_wnum hq.2.2, List.append_assoc (_ ++ [58]), star_back]
      rw [← j]
      simp
    · cases h
  · cases h
theorem word_miss (s : Int) (c : UInt8) (hc : c.toNat < 97) : c ∉ wordL s := by
  have key : ∀ x ∈ wordL s, 97 ≤ x.toNat := by
    unfold wordL
    split
    · decide
    · split
      · decide
      · split
        · decide
        · decide
  exact fun hm => by have := key c hm; omega
theorem star_miss (g : Bool) (c : UInt8) (hc : c ≠ 42) : c ∉ (if g = true then [42] else [] : List UInt8) := by
  cases g <;> simp [hc]
theorem ftx_form (f : Fc) : ftx f = Lib.itoa f.n ++ 58 :: (Lib.itoa f.i ++ 58 :: (wordL f.s ++ (if f.g = true then [42] else []))) := by
  simp [ftx]
theorem ftx_miss {f : Fc} (h : fok f = true) : (44 : UInt8) ∉ ftx f := by
  obtain ⟨a, b, c, d, -, -⟩ := fok_all h
  rw [ftx_form]
  intro hm
  simp only [List.mem_append, List.mem_cons] at hm
  rcases hm with hm | hm | hm | hm | hm | hm
  · exact itoa_miss a (by omega) 44 (by decide) hm
  · exact absurd hm (by decide)
  · exact itoa_miss c d 44 (by decide) hm
  · exact absurd hm (by decide)
  · exact word_miss _ 44 (by decide) hm
  · exact star_miss _ 44 (by decide) hm
theorem cut3 {f : Fc} (h : fok f = true) (e : List UInt8) (he : (58 : UInt8) ∉ e) : cutL 58 (Lib.itoa f.n ++ 58 :: (Lib.itoa f.i ++ 58 :: e)) = [Lib.itoa f.n, Lib.itoa f.i, e] := by
  obtain ⟨a, b, c, d, -, -⟩ := fok_all h
  rw [cutL_hit 58 _ _ (itoa_miss a (by omega) 58 (by decide)), cutL_hit 58 _ _ (itoa_miss c d 58 (by decide)), cutL_free 58 e he]
theorem pf_ftx {f : Fc} (h : fok f = true) : pf (ftx f) = some f := by
  obtain ⟨a, b, c, d, s1, s4⟩ := fok_all h
  have e58 : (58 : UInt8) ∉ wordL f.s ++ (if f.g = true then [42] else []) := by
    intro hm
    rcases List.mem_append.1 hm with hm | hm
    · exact word_miss _ 58 (by decide) hm
    · exact star_miss _ 58 (by decide) hm
  have hw : wnum (Lib.trimSuffix (wordL f.s ++ (if f.g = true then [42] else [])) [42]) = f.s ∧ Lib.hasSuffix (wordL f.s ++ (if f.g = true then [42] else [])) [42] = f.g := by
    have hs : f.s = 1 ∨ f.s = 2 ∨ f.s = 3 ∨ f.s = 4 := by omega
    rcases hs with e | e | e | e <;> rw [e] <;> cases f.g <;> decide
  unfold pf
  rw [ftx_form, cut3 h _ e58]
  simp only
  rw [pnum_itoa a (by omega), pnum_itoa c d, hw.1, hw.2, if_pos ⟨rfl, rfl, by omega⟩]
theorem mf_ok {s : List UInt8} {f : Fc} (h : mf s = some f) : fok f = true := by
  unfold mf at h
  split at h
  · split at h
    · next hq => injection h with h; subst h; exact hq
    · cases h
  · cases h
theorem mf_nil : mf [] = none := rfl
theorem mf_ftx {f : Fc} (h : fok f = true) : mf (ftx f) = some f := by
  obtain ⟨a, b, c, d, s1, s4⟩ := fok_all h
  have hm : mst (ftx f) = f.g := by
    have hs : f.s = 1 ∨ f.s = 2 ∨ f.s = 3 ∨ f.s = 4 := by omega
    have : (ftx f).getLast? = (wordL f.s ++ (if f.g = true then [42] else [])).getLast? := by
      have hn : wordL f.s ++ (if f.g = true then [42] else []) ≠ [] := by
        rcases hs with e | e | e | e <;> rw [e] <;> cases f.g <;> decide
      have he : ftx f = (Lib.itoa f.n ++ [58] ++ Lib.itoa f.i ++ [58]) ++ (wordL f.s ++ (if f.g = true then [42] else [])) := by simp [ftx]
      rw [he, List.getLast?_append]
      cases hl : (wordL f.s ++ (if f.g = true then [42] else [])).getLast? with
      | none => exact absurd (List.getLast?_eq_none_iff.1 hl) hn
      | some x => rfl
    unfold mst
    rw [this]
    rcases hs with e | e | e | e <;> rw [e] <;> cases f.g <;> decide
  have hd : (if mst (ftx f) = true then (ftx f).dropLast else ftx f) = Lib.itoa f.n ++ 58 :: (Lib.itoa f.i ++ 58 :: wordL f.s) := by
    rw [hm]
    cases hg : f.g
    · simp [ftx_form, hg]
    · rw [if_pos rfl, ftx_form, hg, if_pos rfl]
      have : Lib.itoa f.n ++ 58 :: (Lib.itoa f.i ++ 58 :: (wordL f.s ++ [42])) = (Lib.itoa f.n ++ 58 :: (Lib.itoa f.i ++ 58 :: wordL f.s)) ++ [42] := by simp
      rw [this, List.dropLast_concat]
  have hw : wnum (wordL f.s) = f.s := by
    have hs : f.s = 1 ∨ f.s = 2 ∨ f.s = 3 ∨ f.s = 4 := by omega
    rcases hs with e | e | e | e <;> rw [e] <;> decide
  unfold mf
  rw [hd, cut3 h _ (word_miss _ 58 (by decide))]
  simp only
  rw [mnum_itoa a (by omega), mnum_itoa c d, hw, hm, if_pos (show fok ⟨f.n, f.i, f.s, f.g⟩ = true from h)]
/-- all pieces read; none if one is none -/
def alls (r : List UInt8 → Option Fc) : List (List UInt8) → Option (List Fc)
  | [] => some []
  | p :: ps => match r p with
    | none => none
    | some f => match alls r ps with
      | none => none
      | some T => some (f :: T)
theorem alls_map (r : List UInt8 → Option Fc) : ∀ T : List Fc, (∀ f ∈ T, r (ftx f) = some f) → alls r (T.map ftx) = some T
  | [], _ => rfl
  | f :: T, h => by
    rw [List.map_cons, alls, h f (List.mem_cons_self ..), alls_map r T (fun g hg => h g (List.mem_cons_of_mem _ hg))]
theorem alls_say (r : List UInt8 → Option Fc) (hr : ∀ s f, r s = some f → ftx f = s) : ∀ ps T, alls r ps = some T → T.map ftx = ps
  | [], T, h => by
    injection h with h
    subst h
    rfl
  | p :: ps, T, h => by
    rw [alls] at h
    split at h
    · cases h
    · next f hf =>
      split at h
      · cases h
      · next T' hT =>
        injection h with h
        subst h
        rw [List.map_cons, hr p f hf, alls_say r hr ps T' hT]
theorem alls_ok (r : List UInt8 → Option Fc) (hr : ∀ s f, r s = some f → fok f = true) : ∀ ps T, alls r ps = some T → ∀ f ∈ T, fok f = true
  | [], T, h => by
    injection h with h
    subst h
    simp
  | p :: ps, T, h => by
    rw [alls] at h
    split at h
    · cases h
    · next f hf =>
      split at h
      · cases h
      · next T' hT =>
        injection h with h
        subst h
        intro g hg
        rcases List.mem_cons.1 hg with e | e
        · rw [e]; exact hr p f hf
        · exact alls_ok r hr ps T' hT g e
/-- a list's facts, one by one -/
def atF (T : List Fc) (j : Nat) : Fc := T.getD j ⟨0, 0, 0, false⟩
def tokL (T : List Fc) : Bool := tokB T.length (atF T)
theorem seqF_atF (T : List Fc) : seqF (atF T) T.length = T := by
  unfold seqF atF
  apply List.ext_getElem
  · simp
  · intro i h1 h2
    simp [List.getD_eq_getElem?_getD, List.getElem?_eq_getElem h2]
/-- a table's text -/
def txL (T : List Fc) : List UInt8 := if tokL T = true then (if T = [] then [45] else ttx T) else []
theorem txt_txL (T : List Fc) : txt T.length (atF T) = bs (txL T) := by
  unfold txt txL tokL
  by_cases h : tokB T.length (atF T) = true
  · rw [if_pos h, if_pos h, seqF_atF]
    cases T with
    | nil => rfl
    | cons f T => simp
  · rw [if_neg h, if_neg h]
/-- what the program reads in a table's text -/
def pt (s : List UInt8) : Option (List Fc) := if s = [45] then some [] else match alls pf (cutL 44 s) with
  | none => none
  | some T => if tokL T = true then some T else none
/-- what the model reads in it -/
def mt (s : List UInt8) : Option (List Fc) := if s = [45] then some [] else match alls mf (cutL 44 s) with
  | none => none
  | some T => if txL T = s then some T else none
theorem allB_fok {len : Nat} {F : Nat → Fc} (h : tokB len F = true) : ∀ j, j < len → fok (F j) = true := (tok_all h).1
theorem tokL_fok {T : List Fc} (h : tokL T = true) : ∀ f ∈ T, fok f = true := by
  intro f hf
  obtain ⟨i, hi, e⟩ := List.getElem_of_mem hf
  have := allB_fok h i hi
  rw [atF, List.getD_eq_getElem?_getD, List.getElem?_eq_getElem hi] at this
  rw [← e]
  exact this
theorem cut_ttx {T : List Fc} (hT : ∀ f ∈ T, fok f = true) (hn : T ≠ []) : cutL 44 (ttx T) = T.map ftx := by
  unfold ttx
  refine cutL_join 44 _ (by simpa using hn) (fun p hp => ?_)
  obtain ⟨f, hf, e⟩ := List.mem_map.1 hp
  rw [← e]
  exact ftx_miss (hT f hf)
theorem pt_say {s : List UInt8} {T : List Fc} (h : pt s = some T) : tokL T = true ∧ txL T = s := by
  unfold pt at h
  split at h
  · next e =>
    injection h with h
    subst h
    subst e
    exact ⟨rfl, rfl⟩
  · split at h
    · cases h
    · next T' hT =>
      split at h
      · next ht =>
        injection h with h
        subst h
        have e := alls_say pf (fun s f => pf_say) _ _ hT
        have hn : T' ≠ [] := by
          intro e0
          subst e0
          exact cutL_ne 44 s e.symm
        refine ⟨ht, ?_⟩
        unfold txL
        rw [if_pos ht, if_neg hn, ttx, e, join_cutL 44 s.length s (Nat.le_refl _)]
      · cases h
theorem mt_say {s : List UInt8} {T : List Fc} (h : mt s = some T) : tokL T = true ∧ txL T = s := by
  unfold mt at h
  split at h
  · next e =>
    injection h with h
    subst h
    subst e
    exact ⟨rfl, rfl⟩
  · split at h
    · cases h
    · next T' hT =>
      split at h
      · next ht =>
        injection h with h
        subst h
        refine ⟨?_, ht⟩
        unfold txL at ht
        by_cases hk : tokL T' = true
        · exact hk
        · rw [if_neg hk] at ht
          subst ht
          rw [show cutL 44 [] = [[]] from rfl, alls, mf_nil] at hT
          cases hT
      · cases h
theorem say_pt {s : List UInt8} {T : List Fc} (hk : tokL T = true) (hs : txL T = s) : pt s = some T ∧ mt s = some T := by
  have hs0 := hs
  unfold txL at hs
  rw [if_pos hk] at hs
  by_cases hn : T = []
  · subst hn
    subst hs
    exact ⟨rfl, rfl⟩
  · rw [if_neg hn] at hs
    have hf := tokL_fok hk
    have hc := cut_ttx hf hn
    rw [hs] at hc
    have h45 : ¬ s = [45] := by
      intro e
      rw [e] at hc
      rw [show cutL 44 [45] = [[45]] from rfl] at hc
      cases T with
      | nil => exact hn rfl
      | cons f T =>
        rw [List.map_cons] at hc
        injection hc with h1 h2
        have h3 := ftx_form f
        rw [← h1] at h3
        have : (58 : UInt8) ∈ [(45 : UInt8)] := by rw [h3]; simp
        exact absurd this (by decide)
    constructor
    · unfold pt
      rw [if_neg h45, hc, alls_map pf T (fun f h => pf_ftx (hf f h))]
      simp only
      rw [if_pos hk]
    · unfold mt
      rw [if_neg h45, hc, alls_map mf T (fun f h => mf_ftx (hf f h))]
      simp only
      rw [if_pos hs0]
/-- both read alike -/
theorem pt_mt (s : List UInt8) : pt s = mt s := by
  cases h : pt s with
  | some T => exact (say_pt (pt_say h).1 (pt_say h).2).2.symm
  | none =>
    cases h' : mt s with
    | none => rfl
    | some T => rw [(say_pt (mt_say h').1 (mt_say h').2).1] at h; cases h
end Go.Proofs.YtibnojbhoepcdaaGreatDoor
