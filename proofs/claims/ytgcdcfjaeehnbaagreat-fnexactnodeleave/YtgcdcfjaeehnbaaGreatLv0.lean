/- Leaving: what is said, as data. -/
import Derived.Test.YtgcdcfjaeehnbaaGreatLvA
import Derived.Test.YtgcdcfjaeehnbaaGreatIReg
import Derived.Test.YtgcdcfjaeehnbaaGreatIInv
namespace Go.Proofs.YtgcdcfjaeehnbaaGreat
open Go.ChangeShapes Go.WideShapes Go.ChangeAt Go.RowKit
theorem mK {P : Program} {Q : Exit → Act → World → Prop} {R : World → Act → World → Prop} {S : Nat → Prop} {w0 w : World} {d : Option Nat} {t : TypeId} {g : Option (Nat × Bool)} {rs : List Stp} {a a' : Act} {f : FuncId} {args : Array Value} {ys : Array Operand} {tys : Array TypeId} {v : Value} (hc : Calls P f args w (fun r w' => r = .returned v ∧ Below w.heap.size w w')) (hb : Mw S w0 w) (h : ∀ w', Mw S w0 w' → wpM P Q R S w0 rs a' w') (he : (ys.toList.map a.eval).toArray = args := by rfl) (ha : a.put d v = a' := by (simp only [putQ]; try rfl)) (hent : entB P f = true := by kernel_rfl) (hw : wantG g a.tmps = true := by kernel_rfl) : wpM P Q R S w0 (⟨d, .call { callee := .value (.func f), args := ys, argTypes := tys }, t, g, 1⟩ :: rs) a w := by
  have he2 : ys.map a.eval = args := by rw [← he]; apply Array.ext'; simp
  subst he2
  subst ha
  refine mC (fun K hK => opR hent hc (fun r w' q => ⟨v, q.1, ?_⟩)) hw
  exact hK.out _ _ (hb.trans (Mw.of_below q.2)) (.inl (h _ (hb.trans (Mw.of_below q.2))))
theorem mX {P : Program} {Q : Exit → Act → World → Prop} {R : World → Act → World → Prop} {S : Nat → Prop} {w0 w : World} {d : Option Nat} {t : TypeId} {g : Option (Nat × Bool)} {rs : List Stp} {a : Act} {f : FuncId} {args : Array Value} {ys : Array Operand} {tys : Array TypeId} {R' : Ending → World → Prop} (hc : Calls P f args w R') (hb : Mw S w0 w) (h : ∀ r w', R' r w' → ∃ v, r = .returned v ∧ Mw S w w' ∧ (Mw S w0 w' → wpM P Q R S w0 rs (a.put d v) w')) (he : (ys.toList.map a.eval).toArray = args := by rfl) (hent : entB P f = true := by kernel_rfl) (hw : wantG g a.tmps = true := by kernel_rfl) : wpM P Q R S w0 (⟨d, .call { callee := .value (.func f), args := ys, argTypes := tys }, t, g, 1⟩ :: rs) a w := by
  have he2 : ys.map a.eval = args := by rw [← he]; apply Array.ext'; simp
  subst he2
  refine mC (fun K hK => opR hent hc (fun r w' q => ?_)) hw
  obtain ⟨v, e, m, k⟩ := h r w' q
  exact ⟨v, e, hK.out _ _ (hb.trans m) (.inl (k (hb.trans m)))⟩
theorem Mw.no {w w' : World} (h : Mw (fun _ => False) w w') : Below w.heap.size w w' := h.below (Below.refl _ _) (fun _ e => e.elim)
def lvF (n : Nod) : Fc := ⟨n.me, n.inc, 4, n.gate⟩
def lvS (n : Nod) : Nod := { n with T := tput n.T (lvF n), C := I.tput n.C (I.tIt (lvF n)) }
def lvN (n : Nod) : Nod := { n with gone := true, T := tput n.T (lvF n), C := I.tput n.C (I.tIt (lvF n)) }
def lvK (me : Int) (F : Nat → Fc) : Nat → List Int
  | 0 => []
  | k + 1 => if decide ((F k).n ≠ me) && ((F k).s == 1 || (F k).s == 2) then lvK me F k ++ [(F k).n] else lvK me F k
def lvL (me : Int) (T : List Fc) : List Int := lvK me (tF T) T.length
def lvW (m : Nod) : List Int → List Wo := fun l => l.map fun t => wordD m 5 t m.T
theorem lvK_le (me : Int) (F : Nat → Fc) : ∀ k, (lvK me F k).length ≤ k
  | 0 => Nat.le_refl _
  | k + 1 => by
    have := lvK_le me F k
    unfold lvK
    split
    · simp; omega
    · omega
structure LvOk (n : Nod) : Prop where
  tk : tokB n.T.length (tF n.T) = true
  ck : cokB n.C.length (cF n.C) = true
  me : 0 ≤ n.me ∧ n.me ≤ 7
  inc : 0 ≤ n.inc ∧ n.inc ≤ 999
  own : fo (tF n.T) (fnd n.T.length (tF n.T) n.me) = ⟨n.me, n.inc, 1, n.gate⟩
  db : ∀ j, j < n.D.length → (n.D.getD j Dd.zero).n ≠ n.me
theorem lv_ok {n : Nod} (h : nodQ n = true) (hu : n.up = true) (hg : n.gone = false) : LvOk n := by
  unfold nodQ nodB at h
  rw [Bool.and_eq_true, Bool.or_eq_true] at h
  obtain ⟨hn, h2⟩ := h
  unfold numB inb at hn
  simp only [Bool.and_eq_true, decide_eq_true_eq] at hn
  rcases h2 with h2 | h2
  · unfold dwn at h2
    simp [hu] at h2
  · rw [Bool.and_eq_true] at h2
    have h3 := h2.2
    unfold upB at h3
    simp only [Bool.and_eq_true] at h3
    obtain ⟨⟨⟨⟨⟨⟨_, ht⟩, hc⟩, _⟩, hd⟩, _⟩, _⟩ := h3
    unfold tbB at ht
    simp only [Bool.and_eq_true] at ht
    unfold castB at hc
    simp only [Bool.and_eq_true] at hc
    have hw : fo (tF n.T) (fnd n.T.length (tF n.T) n.me) = ⟨n.me, n.inc, 1, n.gate⟩ := by
      have e := ht.2
      rw [hg] at e
      unfold feqB slf at e
      simp only [Bool.and_eq_true, decide_eq_true_eq, beq_iff_eq] at e
      obtain ⟨⟨⟨e1, e2⟩, e3⟩, e4⟩ := e
      generalize fo (tF n.T) (fnd n.T.length (tF n.T) n.me) = f at *
      obtain ⟨a, b, c, d⟩ := f
      simp only at e1 e2 e3 e4
      rw [e1, e2, e4]
      simp at e3
      rw [e3]
    refine ⟨ht.1.1, hc.1, ⟨hn.1.1.1.1.1, hn.1.1.1.1.2⟩, ⟨hn.2.1, hn.2.2⟩, hw, fun j hj e => ?_⟩
    unfold dbsB dbA at hd
    simp only [Bool.and_eq_true, decide_eq_true_eq] at hd
    have q := hd.2 j hj
    unfold dbtB at q
    simp only [Bool.and_eq_true, decide_eq_true_eq] at q
    have q1 := q.1.1.1.1.1
    have e2 : (dF n.D (fun _ => none) (fun _ => 0) j).n = n.me := e
    rw [e2, hw] at q1
    simp at q1
theorem LvOk.asc {n : Nod} (h : LvOk n) : Asc n.T := by
  have e := seqF_getD_self n.T
  have q := seqF_asc (tok_all h.tk).2 n.T.length (Nat.le_refl _)
  have : seqF (tF n.T) n.T.length = n.T := e
  rwa [this] at q
theorem LvOk.fok {n : Nod} (h : LvOk n) : fok (lvF n) = true := by
  obtain ⟨a, b⟩ := h.me
  obtain ⟨c, d⟩ := h.inc
  unfold Go.Proofs.YtgcdcfjaeehnbaaGreat.fok fokB lvF inb
  simp [a, b, c, d]
theorem fnd_get {T : List Fc} {k : Int} {f : Fc} (h : fo (tF T) (fnd T.length (tF T) k) = f) (hz : f.s ≠ 0) : ∃ j, fnd T.length (tF T) k = some j ∧ j < T.length ∧ T.getD j Fc.zero = f := by
  cases e : fnd T.length (tF T) k with
  | none => rw [e] at h; rw [← h] at hz; exact absurd rfl hz
  | some j => rw [e] at h; exact ⟨j, rfl, fnd_lt e, h⟩
theorem LvOk.at {n : Nod} (h : LvOk n) : ∃ j, fnd n.T.length (tF n.T) n.me = some j ∧ j < n.T.length ∧ n.T.getD j Fc.zero = ⟨n.me, n.inc, 1, n.gate⟩ := fnd_get (T := n.T) (k := n.me) h.own (by simp)
theorem lv_get {T : List Fc} (h : Asc T) {j : Nat} (hj : j < T.length) : tget T (T.getD j Fc.zero).n = some (T.getD j Fc.zero) := by
  induction T generalizing j with
  | nil => simp at hj
  | cons g r ih =>
    rw [tget_cons]
    cases j with
    | zero => simp
    | succ j =>
      have hj2 : j < r.length := by simpa using hj
      have e : (g :: r).getD (j + 1) Fc.zero = r.getD j Fc.zero := by simp
      rw [e]
      have hm : r.getD j Fc.zero ∈ r := by
        rw [List.getD_eq_getElem?_getD, List.getElem?_eq_getElem hj2]
        exact List.getElem_mem hj2
      have := (asc_cons.1 h).1 _ hm
      rw [if_neg (by omega)]
      exact ih (asc_cons.1 h).2 hj2
theorem LvOk.get {n : Nod} (h : LvOk n) : tget n.T n.me = some ⟨n.me, n.inc, 1, n.gate⟩ := by
  obtain ⟨j, _, hj, e⟩ := h.at
  have q := lv_get h.asc hj
  rwa [e] at q
theorem LvOk.new {n : Nod} (h : LvOk n) : tnew n.T (lvF n) = true := by
  unfold tnew
  have q : tget n.T (lvF n).n = some ⟨n.me, n.inc, 1, n.gate⟩ := h.get
  rw [q]
  show l3B n.inc 4 n.gate n.inc 1 n.gate = true
  unfold l3B
  simp
theorem LvOk.tp {n : Nod} (h : LvOk n) : tpT n.T.length (tF n.T) (lvF n) = tput n.T (lvF n) := by
  unfold tpT
  rw [h.tk, h.fok, show seqF (tF n.T) n.T.length = n.T from seqF_getD_self n.T]
  rfl
theorem LvOk.tq {n : Nod} (h : LvOk n) : tpQ n.T.length (tF n.T) (lvF n) = true := by
  unfold tpQ
  rw [h.tk, h.fok, show seqF (tF n.T) n.T.length = n.T from seqF_getD_self n.T, h.new]
  rfl
theorem seqI_self (T : List It) : I.seqF (cF T) T.length = T := by
  refine List.ext_getElem? fun j => ?_
  unfold I.seqF
  by_cases hj : j < T.length
  · simp [hj, cF, List.getD]
  · rw [List.getElem?_eq_none (by simp; omega), List.getElem?_eq_none (by omega)]
theorem LvOk.cp {n : Nod} (h : LvOk n) : I.cpT n.C.length (cF n.C) (lvF n) = I.tput n.C (I.tIt (lvF n)) := by
  unfold I.cpT
  have q : fokB (lvF n).n (lvF n).i (lvF n).s = true := h.fok
  rw [h.ck, q, seqI_self]
  rfl
theorem LvOk.len {n : Nod} (h : LvOk n) : (tput n.T (lvF n)).length ≤ 9 := by
  have := tput_len_le n.T (lvF n)
  have := tok_len h.tk
  omega
theorem LvOk.lenC {n : Nod} (h : LvOk n) : (I.tput n.C (I.tIt (lvF n))).length ≤ 9 := by
  have := I.tput_len_le n.C (I.tIt (lvF n))
  have := I.tok_len h.ck
  omega
theorem fl_rv (T : List Fc) : fl T = rv (fv (tF T)) (T.length * 4) := by
  refine rv_ext (fl_len T) fun j hj => ?_
  obtain ⟨e0, e1, e2, e3⟩ := fl_get T (j / 4) (by omega)
  unfold fv tF
  by_cases r0 : j % 4 = 0
  · rw [if_pos r0, show (fl T)[j]? = (fl T)[j / 4 * 4]? by congr 1; omega, e0]
  · rw [if_neg r0]
    by_cases r1 : j % 4 = 1
    · rw [if_pos r1, show (fl T)[j]? = (fl T)[j / 4 * 4 + 1]? by congr 1; omega, e1]
    · rw [if_neg r1]
      by_cases r2 : j % 4 = 2
      · rw [if_pos r2, show (fl T)[j]? = (fl T)[j / 4 * 4 + 2]? by congr 1; omega, e2]
      · rw [if_neg r2, show (fl T)[j]? = (fl T)[j / 4 * 4 + 3]? by congr 1; omega, e3]
theorem il_rv (T : List It) : I.fl T = rv (tv (cF T)) (T.length * 5) := by
  refine rv_ext (I.fl_len T) fun j hj => ?_
  obtain ⟨e0, e1, e2, e3, e4⟩ := I.fl_get T (j / 5) (by omega)
  unfold tv cF
  by_cases r0 : j % 5 = 0
  · rw [if_pos r0, show (I.fl T)[j]? = (I.fl T)[j / 5 * 5]? by congr 1; omega, e0]
  · rw [if_neg r0]
    by_cases r1 : j % 5 = 1
    · rw [if_pos r1, show (I.fl T)[j]? = (I.fl T)[j / 5 * 5 + 1]? by congr 1; omega, e1]
    · rw [if_neg r1]
      by_cases r2 : j % 5 = 2
      · rw [if_pos r2, show (I.fl T)[j]? = (I.fl T)[j / 5 * 5 + 2]? by congr 1; omega, e2]
      · rw [if_neg r2]
        by_cases r3 : j % 5 = 3
        · rw [if_pos r3, show (I.fl T)[j]? = (I.fl T)[j / 5 * 5 + 3]? by congr 1; omega, e3]
        · rw [if_neg r3, show (I.fl T)[j]? = (I.fl T)[j / 5 * 5 + 4]? by congr 1; omega, e4]
def lvA (n : Nod) : Nod := if nodQ n then (if n.up && !n.gone then lvN n else n) else nodZ
def lvB (n : Nod) : List Wo := if nodQ n && (n.up && !n.gone) then lvW (lvN n) (lvL n.me (lvN n).T) else []
end Go.Proofs.YtgcdcfjaeehnbaaGreat
