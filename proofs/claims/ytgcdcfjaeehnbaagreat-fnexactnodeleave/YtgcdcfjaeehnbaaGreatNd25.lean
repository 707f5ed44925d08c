/- Nodes: the program's word and the model's are the same. -/
import Derived.Test.YtgcdcfjaeehnbaaGreatNd19
import Derived.Test.YtgcdcfjaeehnbaaGreatNd24
namespace Go.Proofs.YtgcdcfjaeehnbaaGreat
theorem tok_at {tl : Nat} {F : Nat → Fc} (h : tokB tl F = true) {k : Nat} (hk : k < tl) : fokB (F k).n (F k).i (F k).s = true := by
 unfold tokB allB at h
 rw [Bool.and_eq_true, decide_eq_true_iff] at h
 exact h.1 k hk
theorem fok_parts {n i s : Int} (h : fokB n i s = true) : (0 ≤ n ∧ n ≤ 7) ∧ (1 ≤ s ∧ s ≤ 4) := by
 unfold fokB inb at h
 simp only [Bool.and_eq_true, decide_eq_true_eq] at h
 omega
theorem cast_same {tl : Nat} {F : Nat → Fc} (h : tokB tl F = true) (cl : Nat) (GI : Nat → It) : castB tl F cl GI = scastB tl F cl GI := by
 unfold castB scastB
 cases hc : cokB cl GI
 ·rfl
 ·rw [Bool.true_and, Bool.true_and]
  unfold cinA
  have hI : ∀ k, k < cl → fokB (GI k).n (GI k).i (GI k).s = true := by
   intro k hk
   unfold cokB callB at hc
   rw [Bool.and_eq_true, decide_eq_true_iff] at hc
   have := hc.1 k hk
   unfold iokB at this
   rw [Bool.and_eq_true] at this
   exact this.1
  have e : ∀ k, k < cl → cinB tl F (GI k).n (GI k).i (GI k).s (GI k).g = scinB tl F (GI k).n (GI k).i (GI k).s (GI k).g := by
   intro k hk
   unfold cinB scinB
   cases ef : fnd tl F (GI k).n with
   | none => rfl
   | some j =>
    simp only [Option.isSome_some, Bool.true_and, fo]
    unfold overB
    rw [hI k hk, tok_at h (fnd_lt ef), fnd_n ef]
    simp
  congr 1
  exact propext ⟨fun q k hk => by rw [← e k hk]; exact q k hk, fun q k hk => by rw [e k hk]; exact q k hk⟩
theorem probe_same {tl : Nat} {F : Nat → Fc} (h : tokB tl F = true) (me now sq pn ps pq : Int) (pa : Bool) : prbB me now sq tl F pn ps pq pa = sprbB me now sq tl F pn ps pq pa := by
 unfold prbB sprbB peqB stn
 have hs : ∀ key, decide ((fo F (fnd tl F key)).s ≠ 0) = (fnd tl F key).isSome := by
  intro key
  cases ef : fnd tl F key with
  | none => rfl
  | some j =>
   have := fok_parts (tok_at h (fnd_lt ef))
   simp only [fo, Option.isSome_some]
   exact decide_eq_true (by omega)
 by_cases e : pn = -1
 ·subst e
  have hn : fnd tl F (-1) = none := by
   cases ef : fnd tl F (-1) with
   | none => rfl
   | some j =>
    have h1 := fok_parts (tok_at h (fnd_lt ef))
    have h2 := fnd_n ef
    omega
  rw [if_pos rfl, hs, hn]
  simp
 ·rw [if_neg e, hs]
  simp [e]
theorem doubts_same {tl : Nat} {F : Nat → Fc} (h : tokB tl F = true) (me now : Int) (dl : Nat) (GD : Nat → Dt) : dbsB me now tl F dl GD = sdbsB me now tl F dl GD := by
 unfold dbsB sdbsB cntT
 rw [if_pos h]
 have : ((dl : Int) == (cntN F 2 tl : Int)) = ((cntN F 2 tl : Int) == (dl : Int)) := by
  rw [Bool.eq_iff_iff]; simp only [beq_iff_eq]; exact ⟨Eq.symm, Eq.symm⟩
 rw [this]
 cases Dtasc dl GD <;> cases dbA me now tl F dl GD <;> cases ((cntN F 2 tl : Int) == (dl : Int)) <;> rfl
theorem nod_same (me : Int) (up gone gate : Bool) (inc now sq turn : Int) (tl : Nat) (F : Nat → Fc) (cl : Nat) (GI : Nat → It) (pn ps pq : Int) (pa : Bool) (dl : Nat) (GD : Nat → Dt) (cx cy ch ce : Int) (pll : Nat) (GP : Nat → Pl) (ol : Nat) (GO : Nat → Fg) : nodB me up gone gate inc now sq turn tl F cl GI pn ps pq pa dl GD cx cy ch ce pll GP ol GO = snodB me up gone gate inc now sq turn tl F cl GI pn ps pq pa dl GD cx cy ch ce pll GP ol GO := by
 unfold nodB snodB
 cases numB me now sq turn inc
 ·rfl
 rw [Bool.true_and, Bool.true_and]
 cases up
 ·simp
 ·have hd : dwn true gone inc now sq turn tl cl dl pll ol pn ps pq pa cx cy ch ce = false := by simp [dwn]
  rw [hd, Bool.false_or, Bool.true_and, if_pos rfl]
  unfold upB tbB sslfB
  cases ht : tokB tl F
  ·simp
  ·rw [cast_same ht, probe_same ht, doubts_same ht]
   simp only [Bool.true_and]
   generalize cok cx cy ch ce = a1
   generalize sitB tl F (ste me) = a2
   generalize feqB (fo F (fnd tl F me)) (slf me gone gate inc) = a3
   generalize scastB tl F cl GI = a4
   generalize sprbB me now sq tl F pn ps pq pa = a5
   generalize sdbsB me now tl F dl GD = a6
   generalize plsB me pll GP = a7
   generalize othsB me ol GO = a8
   cases a1 <;> cases a2 <;> cases a3 <;> cases a4 <;> cases a5 <;> cases a6 <;> simp
theorem dbs_congr {G G' : Nat → Dt} (h : ∀ j, DtEq (G j) (G' j)) (me now : Int) (tl : Nat) (F : Nat → Fc) (len : Nat) : dbsB me now tl F len G = dbsB me now tl F len G' := by
 have e0 : (fun k => (G k).n) = fun k => (G' k).n := funext fun k => (h k).1
 unfold dbsB Dtasc dbA
 rw [e0]
 have e : ∀ k, dbtB me now tl F (G k).n (G k).i (G k).s (G k).bl (G k).bf = dbtB me now tl F (G' k).n (G' k).i (G' k).s (G' k).bl (G' k).bf := fun k => by
  obtain ⟨h1, h2, h3, h4, h5⟩ := h k
  rw [h1, h2, h3, h4, h5]
 simp only [e]
theorem pls_congr {G G' : Nat → Pl} (h : ∀ j, PlEq (G j) (G' j)) (me : Int) (len : Nat) : plsB me len G = plsB me len G' := by
 have e0 : (fun k => (G k).n) = fun k => (G' k).n := funext fun k => (h k).1
 unfold plsB Plasc plA
 rw [e0]
 have e : ∀ k, plcB me (G k).n (G k).x (G k).y (G k).h (G k).e (G k).bl (G k).bf = plcB me (G' k).n (G' k).x (G' k).y (G' k).h (G' k).e (G' k).bl (G' k).bf := fun k => by
  obtain ⟨h1, h2, h3, h4, h5, h6, h7⟩ := h k
  rw [h1, h2, h3, h4, h5, h6, h7]
 simp only [e]
theorem oths_congr {G G' : Nat → Fg} (h : ∀ j, FgEq (G j) (G' j)) (me : Int) (len : Nat) : othsB me len G = othsB me len G' := by
 have e0 : (fun k => (G k).n) = fun k => (G' k).n := funext fun k => (h k).1
 unfold othsB Fgasc otA
 rw [e0]
 have e : ∀ k, othB me (G k).n (G k).bl (G k).bf = othB me (G' k).n (G' k).bl (G' k).bf := fun k => by
  obtain ⟨h1, h2, h3⟩ := h k
  rw [h1, h2, h3]
 simp only [e]
theorem nod_congr (me : Int) (up gone gate : Bool) (inc now sq turn : Int) (tl : Nat) (F : Nat → Fc) (cl : Nat) (GI : Nat → It) (pn ps pq : Int) (pa : Bool) (dl : Nat) (GD : Nat → Dt) (cx cy ch ce : Int) (pll : Nat) (GP : Nat → Pl) (ol : Nat) (GO : Nat → Fg) (GD' : Nat → Dt) (GP' : Nat → Pl) (GO' : Nat → Fg) (hD : ∀ j, DtEq (GD' j) (GD j)) (hP : ∀ j, PlEq (GP' j) (GP j)) (hO : ∀ j, FgEq (GO' j) (GO j)) : nodB me up gone gate inc now sq turn tl F cl GI pn ps pq pa dl GD' cx cy ch ce pll GP' ol GO' = nodB me up gone gate inc now sq turn tl F cl GI pn ps pq pa dl GD cx cy ch ce pll GP ol GO := by
 unfold nodB upB
 rw [dbs_congr hD, pls_congr hP, oths_congr hO]
end Go.Proofs.YtgcdcfjaeehnbaaGreat
