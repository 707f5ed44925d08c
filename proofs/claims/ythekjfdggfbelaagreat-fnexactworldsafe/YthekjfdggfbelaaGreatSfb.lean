/- What a node sees: one site behind the other is what is joined. -/
import Derived.Test.YthekjfdggfbelaaGreatNd17
import Derived.Test.YthekjfdggfbelaaGreatJn
import Derived.Test.YthekjfdggfbelaaGreatNd25
import Derived.Test.YthekjfdggfbelaaGreatWk
import Derived.Test.YthekjfdggfbelaaGreatSfa
import Derived.Test.YthekjfdggfbelaaGreatWl
namespace Go.Proofs.YthekjfdggfbelaaGreat
open Go.ChangeShapes Go.WideShapes Go.ChangeAt Go.RowKit
/-- what the first k others tell of a site -/
def osg (GO : Nat → Fg) (s : Int) : Nat → List Fc
  | 0 => []
  | k + 1 => osg GO s k ++ (if (GO k).n = s then seqF (GO k).bf (GO k).bl else [])
/-- what is known of a site -/
def seg (me : Int) (tl : Nat) (F : Nat → Fc) (ol : Nat) (GO : Nat → Fg) (s : Int) : List Fc := (if s = ste me then seqF F tl else []) ++ osg GO s ol
/-- all that is seen, site by site -/
def vws (me : Int) (tl : Nat) (F : Nat → Fc) (ol : Nat) (GO : Nat → Fg) : List Fc := seg me tl F ol GO 0 ++ seg me tl F ol GO 1
/-- all that is seen, joined -/
def vjs (tl : Nat) (F : Nat → Fc) (GO : Nat → Fg) : Nat → List Fc
  | 0 => seqF F tl
  | k + 1 => tjoin (vjs tl F GO k) (seqF (GO k).bf (GO k).bl)
theorem tput_mid (f : Fc) (R : List Fc) (hR : ∀ r ∈ R, f.n < r.n) : ∀ P : List Fc, (∀ p ∈ P, p.n < f.n) → tput (P ++ R) f = P ++ f :: R
  | [], _ => by
    cases R with
    | nil => rfl
    | cons g r =>
      have h := hR g (List.mem_cons_self ..)
      rw [List.nil_append, tput, if_neg (by omega), if_neg (by omega)]
      rfl
  | g :: P, hP => by
    have h := hP g (List.mem_cons_self ..)
    rw [List.cons_append, tput, if_pos h, tput_mid f R hR P (fun p hp => hP p (List.mem_cons_of_mem _ hp))]
    rfl
theorem tjoin_hi (T : List Fc) (G : Nat → Fc) (len : Nat) (hG : ∀ j k, j < k → k < len → (G j).n < (G k).n) (h : ∀ p ∈ T, ∀ k, k < len → p.n < (G k).n) : ∀ n, n ≤ len → tjoin T (seqF G n) = T ++ seqF G n
  | 0, _ => by simp [tjoin, seqF]
  | n + 1, hn => by
    rw [tjoin_succ, tjoin_hi T G len hG h n (by omega), seqF_succ, ← List.append_assoc]
    have := tput_mid (G n) [] (by simp) (T ++ seqF G n) (fun p hp => by
      rcases List.mem_append.1 hp with q | q
      · exact h p q n (by omega)
      · obtain ⟨k, hk, rfl⟩ := seqF_mem q
        exact hG k n hk (by omega))
    simpa using this
theorem tjoin_lo (T : List Fc) (G : Nat → Fc) (len : Nat) (hG : ∀ j k, j < k → k < len → (G j).n < (G k).n) (h : ∀ p ∈ T, ∀ k, k < len → (G k).n < p.n) : ∀ n, n ≤ len → tjoin T (seqF G n) = seqF G n ++ T
  | 0, _ => by simp [tjoin, seqF]
  | n + 1, hn => by
    rw [tjoin_succ, tjoin_lo T G len hG h n (by omega), seqF_succ, tput_mid (G n) T (fun r hr => h r hr n (by omega)) (seqF G n) (fun p hp => by
      obtain ⟨k, hk, rfl⟩ := seqF_mem hp
      exact hG k n hk (by omega))]
    simp
theorem ste_cases {n : Int} (h : inb n 0 7 = true) : (ste n = 0 ∧ n ≤ 3) ∨ (ste n = 1 ∧ 4 ≤ n) := by
  unfold inb at h
  simp only [Bool.and_eq_true, decide_eq_true_eq] at h
  have : n = 0 ∨ n = 1 ∨ n = 2 ∨ n = 3 ∨ n = 4 ∨ n = 5 ∨ n = 6 ∨ n = 7 := by omega
  rcases this with rfl | rfl | rfl | rfl | rfl | rfl | rfl | rfl <;> decide +kernel
theorem fok_in {f : Fc} (h : fok f = true) : inb f.n 0 7 = true := by
  unfold fok fokB at h
  simp only [Bool.and_eq_true] at h
  first | exact h.1.1 | exact h.1
structure NdSee (me : Int) (tl : Nat) (F : Nat → Fc) (ol : Nat) (GO : Nat → Fg) : Prop where
  m : inb me 0 7 = true
  t : tokB tl F = true
  ts : ∀ k, k < tl → ste (F k).n = ste me
  oa : ∀ k, k < ol → 0 < k → (GO (k - 1)).n < (GO k).n
  o : ∀ k, k < ol → inb (GO k).n 0 1 = true ∧ (GO k).n ≠ ste me ∧ tokB (GO k).bl (GO k).bf = true ∧ ∀ j, j < (GO k).bl → ste ((GO k).bf j).n = (GO k).n
theorem nod_see (me : Int) (up gone gate : Bool) (inc now sq turn : Int) (tl : Nat) (F : Nat → Fc) (cl : Nat) (GI : Nat → It) (pn ps pq : Int) (pa : Bool) (dl : Nat) (GD : Nat → Dt) (cx cy ch ce : Int) (pll : Nat) (GP : Nat → Pl) (ol : Nat) (GO : Nat → Fg) (h : nodB me up gone gate inc now sq turn tl F cl GI pn ps pq pa dl GD cx cy ch ce pll GP ol GO = true) (hu : up = true) : NdSee me tl F ol GO := by
  unfold nodB at h
  rw [Bool.and_eq_true, Bool.or_eq_true] at h
  obtain ⟨h1, h2⟩ := h
  rcases h2 with h2 | h2
  · unfold dwn at h2
    simp [hu] at h2
  · rw [Bool.and_eq_true] at h2
    have h3 := h2.2
    unfold upB at h3
    simp only [Bool.and_eq_true] at h3
    have h4 := h3.1.1.1.1.1.2
    have h5 := h3.2
    unfold tbB sitB at h4
    simp only [Bool.and_eq_true, decide_eq_true_eq] at h4
    unfold numB at h1
    simp only [Bool.and_eq_true] at h1
    unfold othsB Fgasc risB otA at h5
    rw [Bool.and_eq_true, decide_eq_true_iff, decide_eq_true_iff] at h5
    refine ⟨h1.1.1.1.1, h4.1.1, h4.1.2, h5.1, fun k hk => ?_⟩
    have h6 := h5.2 k hk
    unfold othB sitB at h6
    simp only [Bool.and_eq_true, decide_eq_true_eq] at h6
    exact ⟨h6.1.1.1.1, h6.1.1.1.2, h6.1.2, h6.2⟩
theorem view_same {me : Int} {tl : Nat} {F : Nat → Fc} {ol : Nat} {GO : Nat → Fg} (h : NdSee me tl F ol GO) : vjs tl F GO ol = vws me tl F ol GO := by
  obtain ⟨t1, t2⟩ := tok_all h.t
  have hol : ol ≤ 1 := by
    rcases Nat.lt_or_ge 1 ol with q | q
    · exfalso
      have a0 := h.o 0 (by omega)
      have a1 := h.o 1 (by omega)
      have a2 := h.oa 1 (by omega) (by omega)
      have e0 := a0.1
      have e1 := a1.1
      unfold inb at e0 e1
      simp only [Bool.and_eq_true, decide_eq_true_eq] at e0 e1
      have n0 := a0.2.1
      have n1 := a1.2.1
      simp only [Nat.sub_self] at a2
      rcases ste_cases h.m with ⟨s, _⟩ | ⟨s, _⟩ <;> omega
    · exact q
  have hT : ∀ p ∈ seqF F tl, ∃ k, k < tl ∧ F k = p := fun p hp => seqF_mem hp
  rcases Nat.eq_zero_or_pos ol with e | e
  · subst e
    rcases ste_cases h.m with ⟨s, _⟩ | ⟨s, _⟩ <;> simp [vjs, vws, seg, osg, s]
  · have e1 : ol = 1 := by omega
    subst e1
    obtain ⟨o1, o2, o3, o4⟩ := h.o 0 (by omega)
    obtain ⟨u1, u2⟩ := tok_all o3
    unfold inb at o1
    simp only [Bool.and_eq_true, decide_eq_true_eq] at o1
    have hv : vjs tl F GO 1 = tjoin (seqF F tl) (seqF (GO 0).bf (GO 0).bl) := rfl
    rw [hv]
    rcases ste_cases h.m with ⟨s, _⟩ | ⟨s, _⟩
    · have en : (GO 0).n = 1 := by omega
      rw [tjoin_hi (seqF F tl) (GO 0).bf (GO 0).bl u2 (fun p hp k hk => by
        obtain ⟨j, hj, rfl⟩ := hT p hp
        have c1 := ste_cases (fok_in (t1 j hj))
        have c2 := ste_cases (fok_in (u1 k hk))
        have c3 := h.ts j hj
        have c4 := o4 k hk
        omega) _ (Nat.le_refl _)]
      simp [vws, seg, osg, s, en]
    · have en : (GO 0).n = 0 := by omega
      rw [tjoin_lo (seqF F tl) (GO 0).bf (GO 0).bl u2 (fun p hp k hk => by
        obtain ⟨j, hj, rfl⟩ := hT p hp
        have c1 := ste_cases (fok_in (t1 j hj))
        have c2 := ste_cases (fok_in (u1 k hk))
        have c3 := h.ts j hj
        have c4 := o4 k hk
        omega) _ (Nat.le_refl _)]
      simp [vws, seg, osg, s, en]
end Go.Proofs.YthekjfdggfbelaaGreat
/- Lists of facts as cells. -/
namespace Go.Proofs.YthekjfdggfbelaaGreat
open Go.ChangeShapes Go.WideShapes Go.ChangeAt Go.RowKit
attribute [local go_sem ↓] Go.wp_at_zero Go.wp_at_succ
set_option maxRecDepth 20000 in
theorem facts_cell {w : World} {b off n : Nat} {T : List Fc} (h : FactsIn w b off n (fun k => T.getD k Fc.zero)) (hl : T.length = n) : ∀ j u, (fl T)[j]? = some u → w.cell? ((⟨b, off, none⟩ : Addr).add j) = some u := by
  intro j u hj
  have e : (⟨b, off, none⟩ : Addr).add j = ⟨b, off + j, none⟩ := by unfold Addr.add; split <;> simp_all
  rw [e]
  have hlt : j < n * 4 := by
    have := (List.getElem?_eq_some_iff.1 hj).1
    rw [fl_len] at this
    omega
  obtain ⟨h0, h1, h2, h3⟩ := h (j / 4) (by omega)
  obtain ⟨e0, e1, e2, e3⟩ := fl_get T (j / 4) (by omega)
  have : j % 4 = 0 ∨ j % 4 = 1 ∨ j % 4 = 2 ∨ j % 4 = 3 := by omega
  rcases this with hr | hr | hr | hr
  · rw [show j / 4 * 4 = j by omega] at e0 h0
    rw [e0] at hj
    rw [h0, ← hj]
  · rw [show off + j / 4 * 4 + 1 = off + j by omega] at h1
    rw [show j / 4 * 4 + 1 = j by omega] at e1
    rw [e1] at hj
    rw [h1, ← hj]
  · rw [show off + j / 4 * 4 + 2 = off + j by omega] at h2
    rw [show j / 4 * 4 + 2 = j by omega] at e2
    rw [e2] at hj
    rw [h2, ← hj]
  · rw [show off + j / 4 * 4 + 3 = off + j by omega] at h3
    rw [show j / 4 * 4 + 3 = j by omega] at e3
    rw [e3] at hj
    rw [h3, ← hj]
set_option maxRecDepth 20000 in
theorem fl_one {T : List Fc} : ∀ u ∈ fl T, u.oneCell' = true := by
  intro u hu
  obtain ⟨f, _, hf⟩ := List.mem_flatMap.1 hu
  simp at hf
  rcases hf with rfl | rfl | rfl | rfl <;> rfl
set_option maxRecDepth 20000 in
theorem own_sliceF {w : World} {base n : Nat} {v : Value} {xs : List Value} (h : w.ownsRow base 59 4 v n xs) : (v = .slice none 0 0 ∧ n = 0) ∨ ∃ g cap, v = .slice (some ⟨g, 0, none⟩) n cap ∧ base ≤ g ∧ g < w.heap.size ∧ n ≤ cap := by
  rcases h.2 with ⟨rfl, hn⟩ | ⟨g, cap, cur, rfl, hg, hh, hc, _⟩
  · exact .inl ⟨rfl, hn⟩
  · exact .inr ⟨g, cap, rfl, hg, lt_of_block hh, hc⟩
set_option maxRecDepth 20000 in
theorem fl_set (T : List Fc) : ∀ (j : Nat) (f : Fc), j < T.length → fl (T.set j f) = ((((fl T).set (j * 4) (.int .i64 f.n)).set (j * 4 + 1) (.int .i64 f.i)).set (j * 4 + 2) (.int .i64 f.s)).set (j * 4 + 3) (.bool f.g) := by
  induction T with
  | nil => intro j f h; simp at h
  | cons g r ih =>
    intro j f h
    have e : ∀ (g : Fc) (r : List Fc), fl (g :: r) = .int .i64 g.n :: .int .i64 g.i :: .int .i64 g.s :: .bool g.g :: fl r := fun g r => by simp [fl]
    match j, h with
    | 0, _ => rw [List.set_cons_zero, e, e]; rfl
    | j + 1, h =>
      rw [List.set_cons_succ, e, e, ih j f (by simpa using h), show (j + 1) * 4 = j * 4 + 4 by omega]
      rfl
end Go.Proofs.YthekjfdggfbelaaGreat
/- Nodes: what they see, by the program and by the model. -/
namespace Go.Proofs.YthekjfdggfbelaaGreat
open Go.ChangeShapes Go.WideShapes Go.ChangeAt Go.RowKit
attribute [local go_sem ↓] Go.wp_at_zero Go.wp_at_succ
def s71_1 : List Stp := [⟨some 6, .load 51 (.tmp 1), 51, none, 0⟩, ⟨some 7, .call { callee := .value (.func 56), args := #[.tmp 6], argTypes := #[51] }, 4, none, 1⟩, ⟨some 8, .unOp .not 4 (.tmp 7), 4, none, 0⟩, ⟨some 9, .move (.tmp 8), 4, none, 0⟩, ⟨some 10, .fieldAddr 51 (.tmp 1) 1, 0, some (9, false), 0⟩, ⟨some 11, .load 4 (.tmp 10), 4, some (9, false), 0⟩, ⟨some 12, .unOp .not 4 (.tmp 11), 4, some (9, false), 0⟩, ⟨some 13, .pick (.tmp 9) (.const (.bool true)) (.tmp 12), 4, none, 0⟩]
def t71_1 : List (Nat × Nat) := [(0, 0), (1, 1), (2, 0), (3, 0), (4, 0), (5, 0), (6, 0), (7, 0)]
theorem fsl_cells {w : World} {g o len : Nat} {F : Nat → Fc} (h : FSl w (some ⟨g, o, none⟩) len F) : ∀ j u, (fl (seqF F len))[j]? = some u → w.cell? ((⟨g, o, none⟩ : Addr).add j) = some u := by
  rcases Nat.eq_zero_or_pos len with e | e
  · subst e
    intro j u hj
    simp [seqF, fl] at hj
  · obtain ⟨b, off, e2, _, hf⟩ := h e
    injection e2 with e2
    injection e2 with e3 e4
    subst e3 e4
    exact facts_cell (fun k hk => by
      have := hf k hk
      have e : (seqF F len).getD k Fc.zero = F k := by simp [List.getD, seqF, hk]
      simp only [e]
      exact this) (seqF_len F len)
theorem fsl_congr {w : World} {a : Option Addr} {len : Nat} {F G : Nat → Fc} (h : FSl w a len F) (e : ∀ k, k < len → F k = G k) : FSl w a len G := fun hl => by
  obtain ⟨b, off, rfl, hb, hf⟩ := h hl
  exact ⟨b, off, rfl, hb, fun k hk => by rw [← e k hk]; exact hf k hk⟩
set_option maxHeartbeats 1000000 in
theorem copiedF_any (g o len cap : Nat) (F : Nat → Fc) (w : World) (h : FSl w (some ⟨g, o, none⟩) len F) (hl : len ≤ 1048576) :
    Calls Tryz.prog 109 #[.slice (some ⟨g, o, none⟩) len cap] w fun e w' => ∃ v, e = .returned v ∧ w'.ownsRow w.heap.size 59 4 v len (fl (seqF F len)) ∧ Below w.heap.size w w' := by
  obtain ⟨ti, hi, hz0, hz1, hz2⟩ := info_parts info24
  go_enter Tryz.func109, Tryz.ntmps109
  go_wp2_with (at_builtin; refine wpList_append_own _ rfl _ _ 32 rfl w.heap.size 59 ti (fval Fc.zero) 4 32 Tryz.underlying32 hi hz0 hz1 hz2 rfl (by decide) _ _ _ rfl (World.ownsRow_nil w w.heap.size 59 4) ⟨g, o, none⟩ len cap (fl (seqF F len)) rfl (by rw [fl_len, seqF_len]) (fsl_cells h) fl_one ?c3 ?c4 ?c5 ?_)
  case c3 => unfold maxLen; omega
  case c4 => omega
  case c5 => exact Nat.le_refl _
  · intro v' w2 hown' hgrow _
    have B2 := (Below.refl w.heap.size w).grown hgrow (Nat.le_refl _) (fun k hk => by cases hk)
    go_wp2
    go_ret
    exact ⟨_, rfl, hown', B2⟩
theorem see_one {me : Int} {tl : Nat} {F : Nat → Fc} {ol : Nat} {GO : Nat → Fg} (h : NdSee me tl F ol GO) : ol ≤ 1 := by
  rcases Nat.lt_or_ge 1 ol with q | q
  · exfalso
    have a0 := h.o 0 (by omega)
    have a1 := h.o 1 (by omega)
    have a2 := h.oa 1 (by omega) (by omega)
    have e0 := a0.1
    have e1 := a1.1
    unfold inb at e0 e1
    simp only [Bool.and_eq_true, decide_eq_true_eq] at e0 e1
    have n0 := a0.2.1
    have n1 := a1.2.1
    simp only [Nat.sub_self] at a2
    rcases ste_cases h.m with ⟨s, _⟩ | ⟨s, _⟩ <;> omega
  · exact q
/-- all that a node sees -/
def viewL (q up : Bool) (me : Int) (tl : Nat) (F : Nat → Fc) (ol : Nat) (GO : Nat → Fg) : List Fc := if q && up then vws me tl F ol GO else []
def ViR (e : Ending) (base : Nat) (w' : World) (T : List Fc) : Prop := ∃ v, e = .returned v ∧ w'.ownsRow base 59 4 v T.length (fl T)
theorem nodeOkI_lit (me : Int) (up gone gate : Bool) (inc now sq turn : Int) (ta : Option Addr) (tl tc : Nat) (ca : Option Addr) (cl cc : Nat) (pn ps pq : Int) (pa : Bool) (da : Option Addr) (dl dc : Nat) (cx cy ch ce : Int) (pla : Option Addr) (pll plc : Nat) (oa : Option Addr) (ol oc : Nat) (F : Nat → Fc) (GI : Nat → It) (GD : Nat → Dt) (GP : Nat → Pl) (GO : Nat → Fg) (b : Bool) (hb : nodB me up gone gate inc now sq turn tl F cl GI pn ps pq pa dl GD cx cy ch ce pll GP ol GO = b) (w : World) (h : NdIn w ta tl F ca cl GI da dl GD pla pll GP oa ol GO) :
    Calls Tryz.prog 56 #[.agg #[.int .i64 me, .bool up, .bool gone, .bool gate, .int .i64 inc, .int .i64 now, .int .i64 sq, .int .i64 turn, .slice ta tl tc, .slice ca cl cc, .int .i64 pn, .int .i64 ps, .int .i64 pq, .bool pa, .slice da dl dc, .int .i64 cx, .int .i64 cy, .int .i64 ch, .int .i64 ce, .slice pla pll plc, .slice oa ol oc]] w fun r w' => r = .returned (.bool b) ∧ Below w.heap.size w w' := hb ▸ nodeOk11_any me up gone gate inc now sq turn ta tl tc ca cl cc pn ps pq pa da dl dc cx cy ch ce pla pll plc oa ol oc F GI GD GP GO w h
theorem nod_pos (me : Int) (up gone gate : Bool) (inc now sq turn : Int) (tl : Nat) (F : Nat → Fc) (cl : Nat) (GI : Nat → It) (pn ps pq : Int) (pa : Bool) (dl : Nat) (GD : Nat → Dt) (cx cy ch ce : Int) (pll : Nat) (GP : Nat → Pl) (ol : Nat) (GO : Nat → Fg) (h : nodB me up gone gate inc now sq turn tl F cl GI pn ps pq pa dl GD cx cy ch ce pll GP ol GO = true) (hu : up = true) : 0 < tl := by
  unfold nodB at h
  rw [Bool.and_eq_true, Bool.or_eq_true] at h
  obtain ⟨h1, h2⟩ := h
  rcases h2 with h2 | h2
  · unfold dwn at h2
    simp [hu] at h2
  · rw [Bool.and_eq_true] at h2
    have h3 := h2.2
    unfold upB at h3
    simp only [Bool.and_eq_true] at h3
    have h4 := h3.1.1.1.1.1.2
    unfold tbB at h4
    simp only [Bool.and_eq_true] at h4
    rcases Nat.eq_zero_or_pos tl with e | e
    · subst e
      exfalso
      have h5 := h4.2
      cases gone <;> simp [fnd, fst, fo, slf, feqB] at h5
    · exact e
set_option maxRecDepth 20000 in
set_option maxHeartbeats 4000000 in
theorem view71_any (me : Int) (up gone gate : Bool) (inc now sq turn : Int) (ta : Option Addr) (tl tc : Nat) (ca : Option Addr) (cl cc : Nat) (pn ps pq : Int) (pa : Bool) (da : Option Addr) (dl dc : Nat) (cx cy ch ce : Int) (pla : Option Addr) (pll plc : Nat) (oa : Option Addr) (ol oc : Nat) (F : Nat → Fc) (GI : Nat → It) (GD : Nat → Dt) (GP : Nat → Pl) (GO : Nat → Fg) (w : World) (h : NdIn w ta tl F ca cl GI da dl GD pla pll GP oa ol GO) :
    Calls Tryz.prog 71 #[.agg #[.int .i64 me, .bool up, .bool gone, .bool gate, .int .i64 inc, .int .i64 now, .int .i64 sq, .int .i64 turn, .slice ta tl tc, .slice ca cl cc, .int .i64 pn, .int .i64 ps, .int .i64 pq, .bool pa, .slice da dl dc, .int .i64 cx, .int .i64 cy, .int .i64 ch, .int .i64 ce, .slice pla pll plc, .slice oa ol oc]] w fun e w' => ViR e w.heap.size w' (viewL (nodB me up gone gate inc now sq turn tl F cl GI pn ps pq pa dl GD cx cy ch ce pll GP ol GO) up me tl F ol GO) ∧ Below w.heap.size w w' := by
  have b0 := balloc (.cells #[.int .i64 me, .bool up, .bool gone, .bool gate, .int .i64 inc, .int .i64 now, .int .i64 sq, .int .i64 turn, .slice ta tl tc, .slice ca cl cc, .int .i64 pn, .int .i64 ps, .int .i64 pq, .bool pa, .slice da dl dc, .int .i64 cx, .int .i64 cy, .int .i64 ch, .int .i64 ce, .slice pla pll plc, .slice oa ol oc] 51) (Below.refl w.heap.size w)
  have X := Ws.box (w := w) #[.int .i64 me, .bool up, .bool gone, .bool gate, .int .i64 inc, .int .i64 now, .int .i64 sq, .int .i64 turn, .slice ta tl tc, .slice ca cl cc, .int .i64 pn, .int .i64 ps, .int .i64 pq, .bool pa, .slice da dl dc, .int .i64 cx, .int .i64 cy, .int .i64 ch, .int .i64 ce, .slice pla pll plc, .slice oa ol oc] 51
  go_enter Tryz.func71, Tryz.ntmps71
  go_upto_region 1 with fail
  generalize w.alloc (.cells #[.int .i64 me, .bool up, .bool gone, .bool gate, .int .i64 inc, .int .i64 now, .int .i64 sq, .int .i64 turn, .slice ta tl tc, .slice ca cl cc, .int .i64 pn, .int .i64 ps, .int .i64 pq, .bool pa, .slice da dl dc, .int .i64 cx, .int .i64 cy, .int .i64 ch, .int .i64 ce, .slice pla pll plc, .slice oa ol oc] 51) = u at *
  have h0 := h.below b0
  have r0 : u.rangeAt w.heap.size 0 [.int .i64 me, .bool up, .bool gone, .bool gate, .int .i64 inc, .int .i64 now, .int .i64 sq, .int .i64 turn, .slice ta tl tc, .slice ca cl cc, .int .i64 pn, .int .i64 ps, .int .i64 pq, .bool pa, .slice da dl dc, .int .i64 cx, .int .i64 cy, .int .i64 ch, .int .i64 ce, .slice pla pll plc, .slice oa ol oc] := X.range
  have d1 := X.c 1 (.bool up) rfl
  clear h
  cases zb0 : nodB me up gone gate inc now sq turn tl F cl GI pn ps pq pa dl GD cx cy ch ce pll GP ol GO
  · have yb0 : Hid (nodB me up gone gate inc now sq turn tl F cl GI pn ps pq pa dl GD cx cy ch ce pll GP ol GO = false) := zb0
    clear zb0
    refine wp_region_q0 s71_1 t71_1 (fun hbq => ?_)
    refine qR ?_
    refine qC (fun K hK => ?_)
    go_simp
    refine (nodeOkI_lit me up gone gate inc now sq turn ta tl tc ca cl cc pn ps pq pa da dl dc cx cy ch ce pla pll plc oa ol oc F GI GD GP GO false yb0.out _ (h0.below hbq)).mono ?_; rintro r w5 ⟨rfl, k5⟩
    go_wp2_with fail
    refine hK.out _ _ (btrans hbq k5) (.inl ?_)
    clear hK K
    replace hbq := btrans hbq k5
    clear k5
    try simp only [putQ]
    iterate 2 refine qY ?_
    iterate 3 refine qN ?_
    refine qY ?_
    refine qE ?_
    go_wp2
    try simp only [Exit.inBlock, Exit.then]
    exact bodyPost_ret (v := .slice none 0 0) (by simp [results, Tryz.results71, go_sem]) rfl ⟨⟨_, rfl, by rw [viewL, yb0.out]; exact World.ownsRow_nil _ _ _ _⟩, btrans b0 hbq⟩
  · have yb0 : Hid (nodB me up gone gate inc now sq turn tl F cl GI pn ps pq pa dl GD cx cy ch ce pll GP ol GO = true) := zb0
    clear zb0
    cases up
    · skip
      refine wp_region_q0 s71_1 t71_1 (fun hbq => ?_)
      refine qR ?_
      refine qC (fun K hK => ?_)
      go_simp
      refine (nodeOkI_lit me false gone gate inc now sq turn ta tl tc ca cl cc pn ps pq pa da dl dc cx cy ch ce pla pll plc oa ol oc F GI GD GP GO true yb0.out _ (h0.below hbq)).mono ?_; rintro r w5 ⟨rfl, k5⟩
      go_wp2_with fail
      refine hK.out _ _ (btrans hbq k5) (.inl ?_)
      clear hK K
      replace hbq := btrans hbq k5
      clear k5
      try simp only [putQ]
      iterate 3 refine qY ?_
      refine qL ?_
      iterate 2 refine qY ?_
      refine qE ?_
      go_wp2
      try simp only [Exit.inBlock, Exit.then]
      exact bodyPost_ret (v := .slice none 0 0) (by simp [results, Tryz.results71, go_sem]) rfl ⟨⟨_, rfl, by rw [viewL, yb0.out]; exact World.ownsRow_nil _ _ _ _⟩, btrans b0 hbq⟩
    · skip
      refine wp_region_q0 s71_1 t71_1 (fun hbq => ?_)
      refine qR ?_
      refine qC (fun K hK => ?_)
      go_simp
      refine (nodeOkI_lit me true gone gate inc now sq turn ta tl tc ca cl cc pn ps pq pa da dl dc cx cy ch ce pla pll plc oa ol oc F GI GD GP GO true yb0.out _ (h0.below hbq)).mono ?_; rintro r w5 ⟨rfl, k5⟩
      go_wp2_with fail
      refine hK.out _ _ (btrans hbq k5) (.inl ?_)
      clear hK K
      replace hbq := btrans hbq k5
      clear k5
      try simp only [putQ]
      iterate 3 refine qY ?_
      refine qL ?_
      iterate 2 refine qY ?_
      refine qE ?_
      have b1 := btrans b0 hbq
      have h1 := h0.below hbq
      have d8 := (X.below hbq).c 8 (.slice ta tl tc) rfl
      have d20 := (X.below hbq).c 20 (.slice oa ol oc) rfl
      have hsee := nod_see me true gone gate inc now sq turn tl F cl GI pn ps pq pa dl GD cx cy ch ce pll GP ol GO yb0.out rfl
      have ho1 := see_one hsee
      have hg : Hid (viewL (nodB me true gone gate inc now sq turn tl F cl GI pn ps pq pa dl GD cx cy ch ce pll GP ol GO) true me tl F ol GO = vjs tl F GO ol) := by rw [Hid, viewL, yb0.out, view_same hsee]; rfl
      have hpos := nod_pos me true gone gate inc now sq turn tl F cl GI pn ps pq pa dl GD cx cy ch ce pll GP ol GO yb0.out rfl
      clear hbq h0 b0 r0 X d1
      obtain ⟨tb, tz, rfl, _, _⟩ := h1.f hpos
      clear hpos
      go_wp2_with fail
      refine (copiedF_any tb tz tl tc F _ h1.f h1.hf).mono ?_
      rintro r w6 ⟨v6, rfl, o6, k6⟩
      have b6 := btrans b1 k6
      have h6 := h1.below k6
      have e20 := keep_below k6 d20
      have o6' := own_mono b1.size o6
      clear b1 h1 d8 d20 k6 o6
      go_wp2
      go_loopw [3, 5, 20] (fun v _ i wr => ∃ k : Nat, k ≤ ol ∧ i = .int .i64 k ∧ wr.ownsRow w.heap.size 59 4 v (vjs tl F GO k).length (fl (vjs tl F GO k)) ∧ Below w6.heap.size w6 wr) (fun _ _ i _ => ol - (intOf i).toNat)
      case atStart => exact ⟨0, by omega, rfl, by rw [vjs, seqF_len]; exact o6', Below.refl _ _⟩
      case round =>
        obtain ⟨k, hk, rfl, hown, hb⟩ := hrel
        by_cases hlt : k < ol
        · obtain rfl : k = 0 := by omega
          simp only [vjs, seqF_len] at hown
          obtain ⟨av, cv, rfl, _, _, hS0⟩ := own_facts hown
          have hS := fsl_congr (G := F) hS0 (fun k hk => by simp [List.getD, seqF, hk])
          obtain ⟨b, off, rfl, hbl, hf⟩ := h6.o (by omega)
          obtain ⟨c0, c1⟩ := (hf.below hb hbl) 0 hlt
          have hO := (h6.ob 0 hlt).1.below hb
          have hOl := (h6.ob 0 hlt).2
          have hv1 : Hid (vjs tl F GO (0 + 1) = tj tl F (GO 0).bl (GO 0).bf) := by
            rw [Hid, vjs, vjs, tj, hsee.t, (hsee.o 0 hlt).2.2.1]; rfl
          simp only [Nat.zero_mul, Nat.add_zero] at c0 c1
          generalize GO 0 = x at c0 c1 hO hOl hv1
          obtain ⟨n, ba, bl, bc, bf⟩ := x
          dsimp only at c0 c1 hO hOl hv1
          have i1 : (0 : Int) < (ol : Int) := by omega
          have kk := balloc (.cells #[.int .i64 n, .slice ba bl bc] 75) (Below.refl wr.heap.size wr)
          have hb2 := btrans hb kk
          have hS2 := hS.below kk
          have hO2 := hO.below kk
          clear hown hS0 hS hO hb hf
          go_wp2_with fail
          refine (fjoin_any av tl cv F ba bl bc bf _ hS2 hO2 h6.hf hOl).mono ?_
          rintro r w7 ⟨v7, rfl, o7, k7⟩
          have hsz := hb2.size
          clear c0 c1 kk hS2 hO2
          go_wp2
          go_roundw
          case rel => exact ⟨0 + 1, by omega, by go_num, by rw [hv1.out]; exact own_mono (Nat.le_trans b6.size hsz) o7, btrans hb2 k7⟩
          case measure => simp [intOf]; omega
        · have e : k = ol := by omega
          subst e
          obtain ⟨av, cv, rfl, _, _, _⟩ := own_facts hown
          go_wp2
          try simp only [Exit.inBlock, Exit.then]
          exact bodyPost_ret (v := .slice av (vjs tl F GO k).length cv) (by simp [results, Tryz.results71, go_sem]) rfl ⟨⟨_, rfl, by rw [hg.out]; exact hown⟩, btrans b6 hb⟩
end Go.Proofs.YthekjfdggfbelaaGreat
/- What nodes know was told first by somebody. -/
namespace Go.Proofs.YthekjfdggfbelaaGreat
open Go.ChangeShapes Go.WideShapes Go.ChangeAt Go.RowKit
attribute [local go_sem ↓] Go.wp_at_zero Go.wp_at_succ
theorem osg_oF (l : List Od) (a a' : Nat → Option Addr) (c c' : Nat → Nat) (s : Int) : ∀ k, osg (oF l a c) s k = osg (oF l a' c') s k
  | 0 => rfl
  | k + 1 => by rw [osg, osg, osg_oF l a a' c c' s k]; rfl
/-- all that a node sees -/
def viewN (n : Nod) : List Fc := viewL (nodQ n) n.up n.me n.T.length (tF n.T) n.O.length (oF n.O (fun _ => none) fun _ => 0)
theorem view_nod (n : Nod) (L : Loc) (w : World) (h : NdR w n L) : Calls Tryz.prog 71 #[.agg (ndC n L)] w fun e w' => ViR e w.heap.size w' (viewN n) ∧ Below w.heap.size w w' := by
  have := view71_any n.me n.up n.gone n.gate n.inc n.now n.sq n.turn L.ta n.T.length L.tc L.ca n.C.length L.cc n.pn n.ps n.pq n.pa L.da n.D.length L.dc n.cx n.cy n.ch n.ce L.pla n.P.length L.plc L.oa n.O.length L.oc _ _ _ _ _ w h
  rw [nodQ_at n L] at this
  unfold viewL vws seg at this
  rw [osg_oF n.O L.oA (fun _ => none) L.oC (fun _ => 0), osg_oF n.O L.oA (fun _ => none) L.oC (fun _ => 0)] at this
  exact this
theorem see_len {me : Int} {tl : Nat} {F : Nat → Fc} {ol : Nat} {GO : Nat → Fg} (h : NdSee me tl F ol GO) : (vws me tl F ol GO).length ≤ 8 := by
  rw [← view_same h]
  have ho := see_one h
  obtain ⟨t1, t2⟩ := tok_all h.t
  rcases Nat.eq_zero_or_pos ol with e | e
  · subst e
    exact ok_short (seqF_asc t2 tl (Nat.le_refl _)) (seqF_ok t1)
  · obtain rfl : ol = 1 := by omega
    have := tj_len tl F (GO 0).bl (GO 0).bf
    rw [tj, h.t, (h.o 0 (by omega)).2.2.1] at this
    exact this
theorem nodQ_see {n : Nod} (h : nodQ n = true) (hu : n.up = true) : NdSee n.me n.T.length (tF n.T) n.O.length (oF n.O (fun _ => none) fun _ => 0) := nod_see _ _ _ _ _ _ _ _ _ _ _ _ _ _ _ _ _ _ _ _ _ _ _ _ _ _ h hu
theorem viewN_len (n : Nod) : (viewN n).length ≤ 8 := by
  unfold viewN viewL
  split
  · rename_i h
    rw [Bool.and_eq_true] at h
    exact see_len (nodQ_see h.1 h.2)
  · exact Nat.zero_le _
theorem osg_mem {GO : Nat → Fg} {s : Int} {f : Fc} : ∀ {k : Nat}, f ∈ osg GO s k ↔ ∃ j, j < k ∧ (GO j).n = s ∧ f ∈ seqF (GO j).bf (GO j).bl
  | 0 => ⟨fun h => by simp [osg] at h, fun ⟨j, h, _⟩ => by omega⟩
  | k + 1 => by
    rw [osg, List.mem_append, osg_mem]
    constructor
    · rintro (⟨j, h1, h2⟩ | h)
      · exact ⟨j, by omega, h2⟩
      · by_cases e : (GO k).n = s
        · rw [if_pos e] at h
          exact ⟨k, by omega, e, h⟩
        · rw [if_neg e] at h
          cases h
    · rintro ⟨j, h1, h2, h3⟩
      by_cases e : j = k
      · subst e
        rw [if_pos h2]
        exact .inr h3
      · exact .inl ⟨j, by omega, h2, h3⟩
theorem see_mem {me : Int} {tl : Nat} {F : Nat → Fc} {ol : Nat} {GO : Nat → Fg} (h : NdSee me tl F ol GO) (f : Fc) : f ∈ vws me tl F ol GO ↔ f ∈ seqF F tl ∨ ∃ j, j < ol ∧ f ∈ seqF (GO j).bf (GO j).bl := by
  unfold vws seg
  simp only [List.mem_append, osg_mem]
  constructor
  · rintro ((h1 | ⟨j, a, _, b⟩) | (h1 | ⟨j, a, _, b⟩))
    · split at h1
      · exact .inl h1
      · cases h1
    · exact .inr ⟨j, a, b⟩
    · split at h1
      · exact .inl h1
      · cases h1
    · exact .inr ⟨j, a, b⟩
  · rintro (h1 | ⟨j, a, b⟩)
    · rcases ste_cases h.m with ⟨s, _⟩ | ⟨s, _⟩
      · exact .inl (.inl (by rw [if_pos s.symm]; exact h1))
      · exact .inr (.inl (by rw [if_pos s.symm]; exact h1))
    · have o1 := (h.o j a).1
      unfold inb at o1
      simp only [Bool.and_eq_true, decide_eq_true_eq] at o1
      by_cases e : (GO j).n = 0
      · exact .inl (.inr ⟨j, a, e, b⟩)
      · exact .inr (.inr ⟨j, a, by omega, b⟩)
/-- a list's facts were told first -/
def memB (bl : Nat) (BF : Nat → Fc) (f : Fc) : Bool := hsB bl BF f.n f.i f.s f.g
theorem ib_list (bl : Nat) (BF : Nat → Fc) (T : List Fc) : ibA bl BF T.length (fun k => T.getD k Fc.zero) = true ↔ ∀ f ∈ T, memB bl BF f = true := by
  unfold ibA memB
  rw [decide_eq_true_iff]
  constructor
  · intro h f hf
    obtain ⟨k, hk, rfl⟩ := List.mem_iff_getElem.1 hf
    have := h k hk
    simpa [List.getD, hk] using this
  · intro h k hk
    have := h T[k] (List.getElem_mem hk)
    simpa [List.getD, hk] using this
/-- what a node sees was told first -/
def knB (bl : Nat) (BF : Nat → Fc) (n : Nod) : Bool := ibA bl BF (viewN n).length (fun k => (viewN n).getD k Fc.zero)
/-- what a node knows was told first, as the model asks -/
def tbsB (bl : Nat) (BF : Nat → Fc) (n : Nod) : Bool := ibA bl BF n.T.length (tF n.T) && decide (∀ j, j < n.O.length → ibA bl BF (n.O.getD j Od.zero).fs.length (tF (n.O.getD j Od.zero).fs) = true)
theorem seqF_tF (l : List Fc) : seqF (tF l) l.length = l := by
  apply List.ext_getElem
  · simp [seqF]
  · intro k h1 h2
    simp [seqF, tF, List.getD, h2]
theorem kn_same (bl : Nat) (BF : Nat → Fc) (n : Nod) (h : nodQ n = true) : knB bl BF n = tbsB bl BF n := by
  rw [Bool.eq_iff_iff]
  unfold knB tbsB
  rw [ib_list, Bool.and_eq_true, decide_eq_true_iff]
  have e1 := ib_list bl BF n.T
  have e2 := fun j => ib_list bl BF (n.O.getD j Od.zero).fs
  unfold tF
  rw [e1]
  simp only [e2]
  cases hu : n.up
  · have hd : n.T.length = 0 ∧ n.O.length = 0 := by
      unfold nodQ nodB upB dwn at h
      rw [Bool.and_eq_true, Bool.or_eq_true] at h
      rcases h.2 with q | q
      · simp only [Bool.and_eq_true, decide_eq_true_eq] at q
        omega
      · simp [hu] at q
    have hv : viewN n = [] := by unfold viewN viewL; rw [hu, Bool.and_false]; rfl
    rw [hv]
    constructor
    · intro _
      refine ⟨fun f hf => ?_, fun j hj => by omega⟩
      rw [List.length_eq_zero_iff.1 hd.1] at hf
      cases hf
    · intro _ f hf
      cases hf
  · have hs := nodQ_see h hu
    have hv : viewN n = vws n.me n.T.length (tF n.T) n.O.length (oF n.O (fun _ => none) fun _ => 0) := by unfold viewN viewL; rw [h, hu]; rfl
    rw [hv]
    constructor
    · intro hh
      refine ⟨fun f hf => hh f ((see_mem hs f).2 (.inl (by rw [seqF_tF]; exact hf))), fun j hj f hf => hh f ((see_mem hs f).2 (.inr ⟨j, hj, ?_⟩))⟩
      unfold oF
      dsimp only
      rw [seqF_tF]
      exact hf
    · rintro ⟨h1, h2⟩ f hf
      rcases (see_mem hs f).1 hf with q | ⟨j, hj, q⟩
      · rw [seqF_tF] at q
        exact h1 f q
      · unfold oF at q
        dsimp only at q
        rw [seqF_tF] at q
        exact h2 j hj f q
def s36_1 : List Stp := [⟨some 5, .load 51 (.tmp 3), 51, none, 0⟩, ⟨some 7, .load 34 (.tmp 2), 34, none, 0⟩, ⟨some 8, .makeFunc (.func 72) #[.tmp 7] #[], 57, none, 0⟩, ⟨some 6, .call { callee := .value (.func 71), args := #[.tmp 5], argTypes := #[51] }, 32, none, 1⟩, ⟨some 9, .call { callee := .value (.func 37), args := #[.tmp 6, .tmp 8], argTypes := #[32, 57] }, 4, none, 1⟩, ⟨some 4, .assign (.tmp 9), 4, none, 0⟩]
def t36_1 : List (Nat × Nat) := [(0, 0), (2, 0), (3, 0), (1, 1), (4, 1), (5, 0)]
def s70_1 : List Stp := [⟨some 4, .load 53 (.tmp 1), 53, none, 0⟩, ⟨some 5, .load 51 (.tmp 2), 51, none, 0⟩, ⟨some 6, .call { callee := .value (.tmp 4), args := #[.tmp 5], argTypes := #[51] }, 4, none, 1⟩, ⟨some 7, .unOp .not 4 (.tmp 6), 4, none, 0⟩, ⟨some 3, .assign (.tmp 7), 4, none, 0⟩]
def t70_1 : List (Nat × Nat) := [(0, 0), (1, 0), (2, 1), (3, 0), (4, 0)]
def s108_4 : List Stp := [⟨some 11, .move (.tmp 1), 53, none, 0⟩, ⟨some 12, .move (.tmp 0), 30, none, 0⟩, ⟨some 13, .move (.tmp 5), 3, none, 0⟩, ⟨some 14, .indexAddr 30 (.tmp 12) (.tmp 13), 0, none, 0⟩, ⟨some 15, .load 51 (.tmp 14), 51, none, 0⟩, ⟨some 16, .call { callee := .value (.tmp 11), args := #[.tmp 15], argTypes := #[51] }, 4, none, 1⟩]
def t108_4 : List (Nat × Nat) := [(0, 0), (1, 0), (2, 0), (3, 0), (4, 0), (5, 1)]
set_option maxRecDepth 20000 in
set_option maxHeartbeats 4000000 in
theorem know_any (na : Option Addr) (nl nc : Nat) (ra : Option Addr) (rl rc : Nat) (sa : Option Addr) (sl sc : Nat) (ba : Option Addr) (bl bc : Nat) (BF : Nat → Fc) (n : Nod) (L : Loc) (w : World) (hB : FSl w ba bl BF) (hBl : bl ≤ 1048576) (h : NdR w n L) :
    Calls Tryz.prog 36 #[.agg #[.slice na nl nc, .slice ra rl rc, .slice sa sl sc, .slice ba bl bc], .agg (ndC n L)] w fun e w' => e = .returned (.bool (knB bl BF n)) ∧ Below w.heap.size w w' := by
  have b0 := balloc (.cells (ndC n L) 51) (balloc (.cells #[.slice na nl nc, .slice ra rl rc, .slice sa sl sc, .slice ba bl bc] 34) (Below.refl w.heap.size w))
  have X := (Ws.box (w := w) #[.slice na nl nc, .slice ra rl rc, .slice sa sl sc, .slice ba bl bc] 34).alloc (.cells (ndC n L) 51)
  have Y := Ws.box (w := w.alloc (.cells #[.slice na nl nc, .slice ra rl rc, .slice sa sl sc, .slice ba bl bc] 34)) (ndC n L) 51
  have hs : (w.alloc (.cells #[.slice na nl nc, .slice ra rl rc, .slice sa sl sc, .slice ba bl bc] 34)).heap.size = w.heap.size + 1 := by simp [go_sem]
  rw [hs] at Y
  have ct : ∀ w1, Below w.heap.size w w1 → Calls Tryz.prog 71 #[.agg (ndC n L)] w1 fun e w' => ViR e w1.heap.size w' (viewN n) ∧ Below w1.heap.size w1 w' := fun w1 q => view_nod n L w1 (h.below q)
  obtain ⟨V, hV⟩ : ∃ V, Hid (viewN n = V) := ⟨_, rfl⟩
  have hlen := viewN_len n
  have hk : Hid (knB bl BF n = ibA bl BF V.length (fun k => V.getD k Fc.zero)) := by unfold Hid knB; rw [hV.out]
  rw [hk.out]
  rw [hV.out] at hlen
  rw [hV.out] at ct
  obtain ⟨q, hq⟩ : ∃ q, Hid (ibA bl BF V.length (fun k => V.getD k Fc.zero) = q) := ⟨_, rfl⟩
  rw [hq.out]
  clear hk hV
  have ci : ∀ w1 (a : Option Addr) (cap : Nat), Below w.heap.size w w1 → FSl w1 a V.length (fun k => V.getD k Fc.zero) → Calls Tryz.prog 37 #[.slice a V.length cap, (.func (.func 72) #[.agg #[.slice na nl nc, .slice ra rl rc, .slice sa sl sc, .slice ba bl bc]] #[])] w1 fun e w' => e = .returned (.bool q) ∧ Below w1.heap.size w1 w' := fun w1 a cap q1 q2 => by
    rw [← hq.out]
    exact ibAll_any a V.length cap _ na nl nc ra rl rc sa sl sc ba bl bc BF w1 q2 (by omega) (hB.below q1) hBl
  clear hq
  generalize ndC n L = C at *
  go_enter Tryz.func36, Tryz.ntmps36
  go_upto_region 1 with fail
  generalize (w.alloc (.cells #[.slice na nl nc, .slice ra rl rc, .slice sa sl sc, .slice ba bl bc] 34)).alloc (.cells C 51) = u at *
  have hX := X.range
  have hY := Y.range
  clear X Y hs h hB
  refine wp_region_q s36_1 t36_1 (fun hbq => ?_)
  iterate 2 refine qR ?_
  refine qY ?_
  refine qC (fun K hK => ?_)
  go_simp
  refine (ct _ (btrans b0 hbq)).mono ?_; rintro r w1 ⟨⟨v, rfl, o1⟩, k1⟩; obtain ⟨av, cv, rfl, _, _, hS⟩ := own_facts o1; clear o1
  go_wp2_with fail
  refine hK.out _ _ (btrans hbq k1) (.inl ?_)
  clear hK K
  replace hbq := btrans hbq k1
  clear k1
  try simp only [putQ]
  refine qC (fun K hK => ?_)
  go_simp
  refine (ci _ _ _ (btrans b0 hbq) (hS.below (Below.refl _ _))).mono ?_; rintro r w2 ⟨rfl, k2⟩
  go_wp2_with fail
  refine hK.out _ _ (btrans hbq k2) (.inl ?_)
  clear hK K
  replace hbq := btrans hbq k2
  clear k2
  try simp only [putQ]
  refine qY ?_
  refine qE ?_
  have b1 := btrans b0 hbq
  clear hX hY ct ci
  go_wp2
  go_ret
  exact ⟨rfl, b1⟩
/-- all nodes know only what was told first -/
def knA (bl : Nat) (BF : Nat → Fc) (len : Nat) (nd : Nat → Nod) : Bool := decide (∀ k, k < len → knB bl BF (nd k) = true)
set_option maxRecDepth 20000 in
set_option maxHeartbeats 4000000 in
theorem knClo_any (na : Option Addr) (nl nc : Nat) (ra : Option Addr) (rl rc : Nat) (sa : Option Addr) (sl sc : Nat) (ba : Option Addr) (bl bc : Nat) (BF : Nat → Fc) (n : Nod) (L : Loc) (pb : Nat) (q : Bool) (hq : knB bl BF n = q) (w : World) (hp : w.cell? ⟨pb, 0, none⟩ = some (.func (.func 36) #[.agg #[.slice na nl nc, .slice ra rl rc, .slice sa sl sc, .slice ba bl bc]] #[])) (hB : FSl w ba bl BF) (hBl : bl ≤ 1048576) (h : NdR w n L) :
    Calls Tryz.prog 70 #[.agg (ndC n L), .pointer (some ⟨pb, 0, none⟩)] w fun r w' => r = .returned (.bool (!q)) ∧ Below w.heap.size w w' := by
  have b0 := balloc (.cells (ndC n L) 51) (Below.refl w.heap.size w)
  have Y := Ws.box (w := w) (ndC n L) 51
  have dp := keep_alloc (.cells (ndC n L) 51) hp
  have ct : ∀ w1, Below w.heap.size w w1 → Calls Tryz.prog 36 #[.agg #[.slice na nl nc, .slice ra rl rc, .slice sa sl sc, .slice ba bl bc], .agg (ndC n L)] w1 fun e w' => e = .returned (.bool q) ∧ Below w1.heap.size w1 w' := fun w1 k => by
    rw [← hq]
    exact know_any na nl nc ra rl rc sa sl sc ba bl bc BF n L w1 (hB.below k) hBl (h.below k)
  clear hq hB h hp
  generalize ndC n L = C at *
  go_enter Tryz.func70, Tryz.ntmps70
  go_upto_region 1 with fail
  generalize w.alloc (.cells C 51) = u at *
  have hY := Y.range
  clear Y
  refine wp_region_q0 s70_1 t70_1 (fun hbq => ?_)
  refine qL ?_
  refine qR ?_
  refine qC (fun K hK => ?_)
  go_simp
  refine (ct _ (btrans b0 hbq)).mono ?_; rintro r w1 ⟨rfl, k1⟩
  go_wp2_with fail
  refine hK.out _ _ (btrans hbq k1) (.inl ?_)
  clear hK K
  replace hbq := btrans hbq k1
  clear k1
  try simp only [putQ]
  iterate 2 refine qY ?_
  refine qE ?_
  have b1 := btrans b0 hbq
  clear hY ct dp
  go_wp2
  go_ret
  exact ⟨rfl, b1⟩
set_option maxRecDepth 20000 in
set_option maxHeartbeats 4000000 in
theorem knIdx_any (na : Option Addr) (nl nc : Nat) (ra : Option Addr) (rl rc : Nat) (sa : Option Addr) (sl sc : Nat) (ba : Option Addr) (bl bc : Nat) (BF : Nat → Fc) (a : Option Addr) (len cap : Nat) (nd : Nat → Nod) (pb : Nat) (w : World) (hG : NdL w a len nd) (hl : len ≤ 1048576) (hp : w.cell? ⟨pb, 0, none⟩ = some (.func (.func 36) #[.agg #[.slice na nl nc, .slice ra rl rc, .slice sa sl sc, .slice ba bl bc]] #[])) (hB : FSl w ba bl BF) (hBl : bl ≤ 1048576) :
    Calls Tryz.prog 108 #[.slice a len cap, .func (.func 70) #[] #[.pointer (some ⟨pb, 0, none⟩)]] w fun e w' => ∃ r : Int, e = .returned (.int .i64 r) ∧ ((knA bl BF len nd = true ∧ r = -1) ∨ (knA bl BF len nd = false ∧ 0 ≤ r)) ∧ Below w.heap.size w w' := by
  go_enter Tryz.func108, Tryz.ntmps108
  go_wp2
  go_loopw [5, 8] (fun _ i wr => ∃ k : Nat, k ≤ len ∧ i = .int .i64 k ∧ Below w.heap.size w wr ∧ (∀ j, j < k → knB bl BF (nd j) = true)) (fun _ i _ => len - (intOf i).toNat)
  case atStart => exact ⟨0, by omega, rfl, Below.refl _ _, fun j h1 => by omega⟩
  case round =>
    obtain ⟨k, hk, rfl, hb, hall⟩ := hrel
    by_cases hlt : k < len
    · obtain ⟨b, off, rfl, _, hf⟩ := (hG.below hb) (by omega)
      obtain ⟨L, c1, c2⟩ := hf k hlt
      have i0 : (0 : Int) ≤ (k : Int) := by omega
      have i1 : (k : Int) < (len : Int) := by omega
      have hn : Hid (knB bl BF (nd k) = false → knA bl BF len nd = false) := fun q => decide_eq_false fun hh => by
        rw [hh k hlt] at q
        cases q
      have hy : Hid (knB bl BF (nd k) = true → ∀ j, j < k + 1 → knB bl BF (nd j) = true) := fun q j hj => by
        by_cases e : j = k
        · subst e; exact q
        · exact hall j (by omega)
      clear hall hf hlt
      obtain ⟨x, hx⟩ : ∃ x, Hid (nd k = x) := ⟨_, rfl⟩
      rw [hx.out] at hy hn c1 c2
      clear hx
      obtain ⟨q, hq⟩ : ∃ q, Hid (knB bl BF x = q) := ⟨_, rfl⟩
      rw [hq.out] at hy hn
      have ct : ∀ w1, Below wr.heap.size wr w1 → Calls Tryz.prog 70 #[.agg (ndC x L), .pointer (some ⟨pb, 0, none⟩)] w1 fun e w' => e = .returned (.bool (!q)) ∧ Below w1.heap.size w1 w' := fun w1 z =>
        knClo_any na nl nc ra rl rc sa sl sc ba bl bc BF x L pb q hq.out w1 (keep_below z (keep_below hb hp)) ((hB.below hb).below z) hBl (c2.below z)
      clear hq c2
      generalize ndC x L = C at *
      go_upto_region 4 with fail
      refine wp_region_q0 s108_4 t108_4 (fun hbq => ?_)
      iterate 4 refine qY ?_
      refine qR ?_
      refine qC (fun K hK => ?_)
      go_simp
      refine (ct _ hbq).mono ?_; rintro r w1 ⟨rfl, k1⟩
      go_wp2_with fail
      refine hK.out _ _ (btrans hbq k1) (.inl ?_)
      clear hK K
      replace hbq := btrans hbq k1
      clear k1
      try simp only [putQ]
      refine qE ?_
      have hb1 := btrans hb hbq
      clear c1 ct hbq
      cases q
      · have hn' : Hid (knA bl BF len nd = false) := hn.out rfl
        clear hn hy
        simp only [Bool.not_false]
        go_wp2
        go_ret
        exact ⟨k, rfl, .inr ⟨hn'.out, by omega⟩, hb1⟩
      · have hy' := hy.out rfl
        clear hn hy
        simp only [Bool.not_true]
        go_wp2
        go_roundw
        case rel => exact ⟨k + 1, by omega, by go_num, hb1, hy'⟩
        case measure => simp [intOf]; omega
    · have e : k = len := by omega
      subst e
      have hn2 : Hid (knA bl BF k nd = true) := decide_eq_true hall
      clear hall hlt hk
      go_wp2
      go_ret
      exact ⟨-1, rfl, .inl ⟨hn2.out, rfl⟩, hb⟩
theorem knCont_any (na : Option Addr) (nl nc : Nat) (ra : Option Addr) (rl rc : Nat) (sa : Option Addr) (sl sc : Nat) (ba : Option Addr) (bl bc : Nat) (BF : Nat → Fc) (a : Option Addr) (len cap : Nat) (nd : Nat → Nod) (pb : Nat) (w : World) (hG : NdL w a len nd) (hl : len ≤ 1048576) (hp : w.cell? ⟨pb, 0, none⟩ = some (.func (.func 36) #[.agg #[.slice na nl nc, .slice ra rl rc, .slice sa sl sc, .slice ba bl bc]] #[])) (hB : FSl w ba bl BF) (hBl : bl ≤ 1048576) :
    Calls Tryz.prog 69 #[.slice a len cap, .func (.func 70) #[] #[.pointer (some ⟨pb, 0, none⟩)]] w fun e w' => e = .returned (.bool (!knA bl BF len nd)) ∧ Below w.heap.size w w' := by
  go_enter Tryz.func69, Tryz.ntmps69
  go_wp2_with fail
  refine (knIdx_any na nl nc ra rl rc sa sl sc ba bl bc BF a len cap nd pb _ hG hl hp hB hBl).mono ?_
  rintro e w1 ⟨r, rfl, hr, b1⟩
  rcases hr with ⟨hs, rfl⟩ | ⟨hs, hr⟩
  · have hs' : Hid (knA bl BF len nd = true) := hs
    clear hs
    go_wp2
    go_ret
    exact ⟨ret_bool (by rw [hs'.out]; rfl), b1⟩
  · have hs' : Hid (knA bl BF len nd = false) := hs
    clear hs
    go_wp2
    go_ret
    exact ⟨ret_bool (by rw [hs'.out]; simp <;> omega), b1⟩
theorem knAll_any (na : Option Addr) (nl nc : Nat) (ra : Option Addr) (rl rc : Nat) (sa : Option Addr) (sl sc : Nat) (ba : Option Addr) (bl bc : Nat) (BF : Nat → Fc) (a : Option Addr) (len cap : Nat) (nd : Nat → Nod) (w : World) (hG : NdL w a len nd) (hl : len ≤ 1048576) (hB : FSl w ba bl BF) (hBl : bl ≤ 1048576) :
    Calls Tryz.prog 35 #[.slice a len cap, (.func (.func 36) #[.agg #[.slice na nl nc, .slice ra rl rc, .slice sa sl sc, .slice ba bl bc]] #[])] w fun e w' => e = .returned (.bool (knA bl BF len nd)) ∧ Below w.heap.size w w' := by
  have b0 := balloc (.cells #[(.func (.func 36) #[.agg #[.slice na nl nc, .slice ra rl rc, .slice sa sl sc, .slice ba bl bc]] #[])] 53) (Below.refl w.heap.size w)
  have X := Ws.box (w := w) #[(.func (.func 36) #[.agg #[.slice na nl nc, .slice ra rl rc, .slice sa sl sc, .slice ba bl bc]] #[])] 53
  have dp := X.c 0 (.func (.func 36) #[.agg #[.slice na nl nc, .slice ra rl rc, .slice sa sl sc, .slice ba bl bc]] #[]) rfl
  go_enter Tryz.func35, Tryz.ntmps35
  go_upto_region 1 with fail
  generalize w.alloc (.cells #[(.func (.func 36) #[.agg #[.slice na nl nc, .slice ra rl rc, .slice sa sl sc, .slice ba bl bc]] #[])] 53) = u at *
  clear X
  go_wp2_with fail
  refine (knCont_any na nl nc ra rl rc sa sl sc ba bl bc BF a len cap nd _ _ (hG.below b0) hl dp (hB.below b0) hBl).mono ?_
  rintro e w1 ⟨rfl, b1⟩
  clear dp
  go_wp2
  go_ret
  exact ⟨ret_bool (by simp), btrans b0 b1⟩
end Go.Proofs.YthekjfdggfbelaaGreat
