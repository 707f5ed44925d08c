/- What a node sees: one site behind the other is what is joined. -/
import Derived.Test.YtoimfgfhlbkdcaaGreatDoorNd17
import Derived.Test.YtoimfgfhlbkdcaaGreatDoorTz
import Derived.Test.YtoimfgfhlbkdcaaGreatDoorNz
import Derived.Test.YtoimfgfhlbkdcaaGreatDoorWk
import Derived.Test.YtoimfgfhlbkdcaaGreatDoorNd12
import Derived.Test.YtoimfgfhlbkdcaaGreatDoorWy
import Derived.Maps.OwnSet
import Derived.Maps.OwnOps
import Derived.StringKeys
namespace Go.Proofs.YtoimfgfhlbkdcaaGreatDoor
open Go.ChangeShapes Go.WideShapes Go.ChangeAt Go.RowKit
/-- what the first k others tell of a site -/
def osg (GO : Nat → Fg) (s : Int) : Nat → List Fc
  | 0 => []
  | k + 1 => osg GO s k ++ (if (GO k).n = s then seqF (GO k).bf (GO k).bl else [])
/-- what is known of a site -/
def seg (me : Int) (tl : Nat) (F : Nat → Fc) (ol : Nat) (GO : Nat → Fg) (s : Int) : List Fc := (if s = ste me then seqF F tl else []) ++ osg GO s ol
/-- all that is seen, site by site -/
def vws (me : Int) (tl : Nat) (F : Nat → Fc) (ol : Nat) (GO : Nat → Fg) : List Fc := seg me tl F ol GO 0 ++ seg me tl F ol GO 1
/-- all that is seen, joined -/
def vjs (tl : Nat) (F : Nat → Fc) (GO : Nat → Fg) : Nat → List Fc
  | 0 => seqF F tl
  | k + 1 => tjoin (vjs tl F GO k) (seqF (GO k).bf (GO k).bl)
theorem tput_mid (f : Fc) (R : List Fc) (hR : ∀ r ∈ R, f.n < r.n) : ∀ P : List Fc, (∀ p ∈ P, p.n < f.n) → tput (P ++ R) f = P ++ f :: R
  | [], _ => by
    cases R with
    | nil => rfl
    | cons g r =>
      have h := hR g (List.mem_cons_self ..)
      rw [List.nil_append, tput, if_neg (by omega), if_neg (by omega)]
      rfl
  | g :: P, hP => by
    have h := hP g (List.mem_cons_self ..)
    rw [List.cons_append, tput, if_pos h, tput_mid f R hR P (fun p hp => hP p (List.mem_cons_of_mem _ hp))]
    rfl
theorem tjoin_hi (T : List Fc) (G : Nat → Fc) (len : Nat) (hG : ∀ j k, j < k → k < len → (G j).n < (G k).n) (h : ∀ p ∈ T, ∀ k, k < len → p.n < (G k).n) : ∀ n, n ≤ len → tjoin T (seqF G n) = T ++ seqF G n
  | 0, _ => by simp [tjoin, seqF]
  | n + 1, hn => by
    rw [tjoin_succ, tjoin_hi T G len hG h n (by omega), seqF_succ, ← List.append_assoc]
    have := tput_mid (G n) [] (by simp) (T ++ seqF G n) (fun p hp => by
      rcases List.mem_append.1 hp with q | q
      · exact h p q n (by omega)
      · obtain ⟨k, hk, rfl⟩ := seqF_mem q
        exact hG k n hk (by omega))
    simpa using this
theorem tjoin_lo (T : List Fc) (G : Nat → Fc) (len : Nat) (hG : ∀ j k, j < k → k < len → (G j).n < (G k).n) (h : ∀ p ∈ T, ∀ k, k < len → (G k).n < p.n) : ∀ n, n ≤ len → tjoin T (seqF G n) = seqF G n ++ T
  | 0, _ => by simp [tjoin, seqF]
  | n + 1, hn => by
    rw [tjoin_succ, tjoin_lo T G len hG h n (by omega), seqF_succ, tput_mid (G n) T (fun r hr => h r hr n (by omega)) (seqF G n) (fun p hp => by
      obtain ⟨k, hk, rfl⟩ := seqF_mem hp
      exact hG k n hk (by omega))]
    simp
theorem ste_cases {n : Int} (h : inb n 0 7 = true) : (ste n = 0 ∧ n ≤ 3) ∨ (ste n = 1 ∧ 4 ≤ n) := by
  unfold inb at h
  simp only [Bool.and_eq_true, decide_eq_true_eq] at h
  have : n = 0 ∨ n = 1 ∨ n = 2 ∨ n = 3 ∨ n = 4 ∨ n = 5 ∨ n = 6 ∨ n = 7 := by omega
  rcases this with rfl | rfl | rfl | rfl | rfl | rfl | rfl | rfl <;> decide +kernel
theorem fok_in {f : Fc} (h : fok f = true) : inb f.n 0 7 = true := by
  unfold fok fokB at h
  simp only [Bool.and_eq_true] at h
  first | exact h.1.1 | exact h.1
structure NdSee (me : Int) (tl : Nat) (F : Nat → Fc) (ol : Nat) (GO : Nat → Fg) : Prop where
  m : inb me 0 7 = true
  t : tokB tl F = true
  ts : ∀ k, k < tl → ste (F k).n = ste me
  oa : ∀ k, k < ol → 0 < k → (GO (k - 1)).n < (GO k).n
  o : ∀ k, k < ol → inb (GO k).n 0 1 = true ∧ (GO k).n ≠ ste me ∧ tokB (GO k).bl (GO k).bf = true ∧ ∀ j, j < (GO k).bl → ste ((GO k).bf j).n = (GO k).n
theorem nod_see (me : Int) (up gone gate : Bool) (inc now sq turn : Int) (tl : Nat) (F : Nat → Fc) (cl : Nat) (GI : Nat → It) (pn ps pq : Int) (pa : Bool) (dl : Nat) (GD : Nat → Dt) (cx cy ch ce : Int) (pll : Nat) (GP : Nat → Pl) (ol : Nat) (GO : Nat → Fg) (h : nodB me up gone gate inc now sq turn tl F cl GI pn ps pq pa dl GD cx cy ch ce pll GP ol GO = true) (hu : up = true) : NdSee me tl F ol GO := by
  unfold nodB at h
  rw [Bool.and_eq_true, Bool.or_eq_true] at h
  obtain ⟨h1, h2⟩ := h
  rcases h2 with h2 | h2
  · unfold dwn at h2
    simp [hu] at h2
  · rw [Bool.and_eq_true] at h2
    have h3 := h2.2
    unfold upB at h3
    simp only [Bool.and_eq_true] at h3
    have h4 := h3.1.1.1.1.1.2
    have h5 := h3.2
    unfold tbB sitB at h4
    simp only [Bool.and_eq_true, decide_eq_true_eq] at h4
    unfold numB at h1
    simp only [Bool.and_eq_true] at h1
    unfold othsB Fgasc risB otA at h5
    rw [Bool.and_eq_true, decide_eq_true_iff, decide_eq_true_iff] at h5
    refine ⟨h1.1.1.1.1, h4.1.1, h4.1.2, h5.1, fun k hk => ?_⟩
    have h6 := h5.2 k hk
    unfold othB sitB at h6
    simp only [Bool.and_eq_true, decide_eq_true_eq] at h6
    exact ⟨h6.1.1.1.1, h6.1.1.1.2, h6.1.2, h6.2⟩
theorem view_same {me : Int} {tl : Nat} {F : Nat → Fc} {ol : Nat} {GO : Nat → Fg} (h : NdSee me tl F ol GO) : vjs tl F GO ol = vws me tl F ol GO := by
  obtain ⟨t1, t2⟩ := tok_all h.t
  have hol : ol ≤ 1 := by
    rcases Nat.lt_or_ge 1 ol with q | q
    · exfalso
      have a0 := h.o 0 (by omega)
      have a1 := h.o 1 (by omega)
      have a2 := h.oa 1 (by omega) (by omega)
      have e0 := a0.1
      have e1 := a1.1
      unfold inb at e0 e1
      simp only [Bool.and_eq_true, decide_eq_true_eq] at e0 e1
      have n0 := a0.2.1
      have n1 := a1.2.1
      simp only [Nat.sub_self] at a2
      rcases ste_cases h.m with ⟨s, _⟩ | ⟨s, _⟩ <;> omega
    · exact q
  have hT : ∀ p ∈ seqF F tl, ∃ k, k < tl ∧ F k = p := fun p hp => seqF_mem hp
  rcases Nat.eq_zero_or_pos ol with e | e
  · subst e
    rcases ste_cases h.m with ⟨s, _⟩ | ⟨s, _⟩ <;> simp [vjs, vws, seg, osg, s]
  · have e1 : ol = 1 := by omega
    subst e1
    obtain ⟨o1, o2, o3, o4⟩ := h.o 0 (by omega)
    obtain ⟨u1, u2⟩ := tok_all o3
    unfold inb at o1
    simp only [Bool.and_eq_true, decide_eq_true_eq] at o1
    have hv : vjs tl F GO 1 = tjoin (seqF F tl) (seqF (GO 0).bf (GO 0).bl) := rfl
    rw [hv]
    rcases ste_cases h.m with ⟨s, _⟩ | ⟨s, _⟩
    · have en : (GO 0).n = 1 := by omega
      rw [tjoin_hi (seqF F tl) (GO 0).bf (GO 0).bl u2 (fun p hp k hk => by
        obtain ⟨j, hj, rfl⟩ := hT p hp
        have c1 := ste_cases (fok_in (t1 j hj))
        have c2 := ste_cases (fok_in (u1 k hk))
        have c3 := h.ts j hj
        have c4 := o4 k hk
        omega) _ (Nat.le_refl _)]
      simp [vws, seg, osg, s, en]
    · have en : (GO 0).n = 0 := by omega
      rw [tjoin_lo (seqF F tl) (GO 0).bf (GO 0).bl u2 (fun p hp k hk => by
        obtain ⟨j, hj, rfl⟩ := hT p hp
        have c1 := ste_cases (fok_in (t1 j hj))
        have c2 := ste_cases (fok_in (u1 k hk))
        have c3 := h.ts j hj
        have c4 := o4 k hk
        omega) _ (Nat.le_refl _)]
      simp [vws, seg, osg, s, en]
end Go.Proofs.YtoimfgfhlbkdcaaGreatDoor
/- Lists of facts as cells. -/
namespace Go.Proofs.YtoimfgfhlbkdcaaGreatDoor
open Go.ChangeShapes Go.WideShapes Go.ChangeAt Go.RowKit
attribute [local go_sem ↓] Go.wp_at_zero Go.wp_at_succ
set_option maxRecDepth 20000 in
theorem facts_cell {w : World} {b off n : Nat} {T : List Fc} (h : FactsIn w b off n (fun k => T.getD k Fc.zero)) (hl : T.length = n) : ∀ j u, (fl T)[j]? = some u → w.cell? ((⟨b, off, none⟩ : Addr).add j) = some u := by
  intro j u hj
  have e : (⟨b, off, none⟩ : Addr).add j = ⟨b, off + j, none⟩ := by unfold Addr.add; split <;> simp_all
  rw [e]
  have hlt : j < n * 4 := by
    have := (List.getElem?_eq_some_iff.1 hj).1
    rw [fl_len] at this
    omega
  obtain ⟨h0, h1, h2, h3⟩ := h (j / 4) (by omega)
  obtain ⟨e0, e1, e2, e3⟩ := fl_get T (j / 4) (by omega)
  have : j % 4 = 0 ∨ j % 4 = 1 ∨ j % 4 = 2 ∨ j % 4 = 3 := by omega
  rcases this with hr | hr | hr | hr
  · rw [show j / 4 * 4 = j by omega] at e0 h0
    rw [e0] at hj
    rw [h0, ← hj]
  · rw [show off + j / 4 * 4 + 1 = off + j by omega] at h1
    rw [show j / 4 * 4 + 1 = j by omega] at e1
    rw [e1] at hj
    rw [h1, ← hj]
  · rw [show off + j / 4 * 4 + 2 = off + j by omega] at h2
    rw [show j / 4 * 4 + 2 = j by omega] at e2
    rw [e2] at hj
    rw [h2, ← hj]
  · rw [show off + j / 4 * 4 + 3 = off + j by omega] at h3
    rw [show j / 4 * 4 + 3 = j by omega] at e3
    rw [e3] at hj
    rw [h3, ← hj]
set_option maxRecDepth 20000 in
theorem fl_one {T : List Fc} : ∀ u ∈ fl T, u.oneCell' = true := by
  intro u hu
  obtain ⟨f, _, hf⟩ := List.mem_flatMap.1 hu
  simp at hf
  rcases hf with rfl | rfl | rfl | rfl <;> rfl
set_option maxRecDepth 20000 in
theorem own_sliceF {w : World} {base n : Nat} {v : Value} {xs : List Value} (h : w.ownsRow base 57 4 v n xs) : (v = .slice none 0 0 ∧ n = 0) ∨ ∃ g cap, v = .slice (some ⟨g, 0, none⟩) n cap ∧ base ≤ g ∧ g < w.heap.size ∧ n ≤ cap := by
  rcases h.2 with ⟨rfl, hn⟩ | ⟨g, cap, cur, rfl, hg, hh, hc, _⟩
  · exact .inl ⟨rfl, hn⟩
  · exact .inr ⟨g, cap, rfl, hg, lt_of_block hh, hc⟩
set_option maxRecDepth 20000 in
theorem fl_set (T : List Fc) : ∀ (j : Nat) (f : Fc), j < T.length → fl (T.set j f) = ((((fl T).set (j * 4) (.int .i64 f.n)).set (j * 4 + 1) (.int .i64 f.i)).set (j * 4 + 2) (.int .i64 f.s)).set (j * 4 + 3) (.bool f.g) := by
  induction T with
  | nil => intro j f h; simp at h
  | cons g r ih =>
    intro j f h
    have e : ∀ (g : Fc) (r : List Fc), fl (g :: r) = .int .i64 g.n :: .int .i64 g.i :: .int .i64 g.s :: .bool g.g :: fl r := fun g r => by simp [fl]
    match j, h with
    | 0, _ => rw [List.set_cons_zero, e, e]; rfl
    | j + 1, h =>
      rw [List.set_cons_succ, e, e, ih j f (by simpa using h), show (j + 1) * 4 = j * 4 + 4 by omega]
      rfl
end Go.Proofs.YtoimfgfhlbkdcaaGreatDoor
/- Nodes: what they see, by the program and by the model. -/
namespace Go.Proofs.YtoimfgfhlbkdcaaGreatDoor
open Go.ChangeShapes Go.WideShapes Go.ChangeAt Go.RowKit
attribute [local go_sem ↓] Go.wp_at_zero Go.wp_at_succ
def s71_1 : List Stp := [⟨some 6, .load 52 (.tmp 1), 52, none, 0⟩, ⟨some 7, .call { callee := .value (.func 54), args := #[.tmp 6], argTypes := #[52] }, 4, none, 1⟩, ⟨some 8, .unOp .not 4 (.tmp 7), 4, none, 0⟩, ⟨some 9, .move (.tmp 8), 4, none, 0⟩, ⟨some 10, .fieldAddr 52 (.tmp 1) 1, 0, some (9, false), 0⟩, ⟨some 11, .load 4 (.tmp 10), 4, some (9, false), 0⟩, ⟨some 12, .unOp .not 4 (.tmp 11), 4, some (9, false), 0⟩, ⟨some 13, .pick (.tmp 9) (.const (.bool true)) (.tmp 12), 4, none, 0⟩]
def t71_1 : List (Nat × Nat) := [(0, 0), (1, 1), (2, 0), (3, 0), (4, 0), (5, 0), (6, 0), (7, 0)]
theorem fsl_cells {w : World} {g o len : Nat} {F : Nat → Fc} (h : FSl w (some ⟨g, o, none⟩) len F) : ∀ j u, (fl (seqF F len))[j]? = some u → w.cell? ((⟨g, o, none⟩ : Addr).add j) = some u := by
  rcases Nat.eq_zero_or_pos len with e | e
  · subst e
    intro j u hj
    simp [seqF, fl] at hj
  · obtain ⟨b, off, e2, _, hf⟩ := h e
    injection e2 with e2
    injection e2 with e3 e4
    subst e3 e4
    exact facts_cell (fun k hk => by
      have := hf k hk
      have e : (seqF F len).getD k Fc.zero = F k := by simp [List.getD, seqF, hk]
      simp only [e]
      exact this) (seqF_len F len)
theorem fsl_congr {w : World} {a : Option Addr} {len : Nat} {F G : Nat → Fc} (h : FSl w a len F) (e : ∀ k, k < len → F k = G k) : FSl w a len G := fun hl => by
  obtain ⟨b, off, rfl, hb, hf⟩ := h hl
  exact ⟨b, off, rfl, hb, fun k hk => by rw [← e k hk]; exact hf k hk⟩
set_option maxHeartbeats 1000000 in
theorem copiedF_any (g o len cap : Nat) (F : Nat → Fc) (w : World) (h : FSl w (some ⟨g, o, none⟩) len F) (hl : len ≤ 1048576) :
    Calls Tryz.prog 55 #[.slice (some ⟨g, o, none⟩) len cap] w fun e w' => ∃ v, e = .returned v ∧ w'.ownsRow w.heap.size 57 4 v len (fl (seqF F len)) ∧ Below w.heap.size w w' := by
  obtain ⟨ti, hi, hz0, hz1, hz2⟩ := info_parts info24
  go_enter Tryz.func55, Tryz.ntmps55
  go_wp2_with (at_builtin; refine wpList_append_own _ rfl _ _ 32 rfl w.heap.size 57 ti (fval Fc.zero) 4 32 Tryz.underlying32 hi hz0 hz1 hz2 rfl (by decide) _ _ _ rfl (World.ownsRow_nil w w.heap.size 57 4) ⟨g, o, none⟩ len cap (fl (seqF F len)) rfl (by rw [fl_len, seqF_len]) (fsl_cells h) fl_one ?c3 ?c4 ?c5 ?_)
  case c3 => unfold maxLen; omega
  case c4 => omega
  case c5 => exact Nat.le_refl _
  · intro v' w2 hown' hgrow _
    have B2 := (Below.refl w.heap.size w).grown hgrow (Nat.le_refl _) (fun k hk => by cases hk)
    go_wp2
    go_ret
    exact ⟨_, rfl, hown', B2⟩
theorem see_one {me : Int} {tl : Nat} {F : Nat → Fc} {ol : Nat} {GO : Nat → Fg} (h : NdSee me tl F ol GO) : ol ≤ 1 := by
  rcases Nat.lt_or_ge 1 ol with q | q
  · exfalso
    have a0 := h.o 0 (by omega)
    have a1 := h.o 1 (by omega)
    have a2 := h.oa 1 (by omega) (by omega)
    have e0 := a0.1
    have e1 := a1.1
    unfold inb at e0 e1
    simp only [Bool.and_eq_true, decide_eq_true_eq] at e0 e1
    have n0 := a0.2.1
    have n1 := a1.2.1
    simp only [Nat.sub_self] at a2
    rcases ste_cases h.m with ⟨s, _⟩ | ⟨s, _⟩ <;> omega
  · exact q
/-- all that a node sees -/
def viewL (q up : Bool) (me : Int) (tl : Nat) (F : Nat → Fc) (ol : Nat) (GO : Nat → Fg) : List Fc := if q && up then vws me tl F ol GO else []
def ViR (e : Ending) (base : Nat) (w' : World) (T : List Fc) : Prop := ∃ v, e = .returned v ∧ w'.ownsRow base 57 4 v T.length (fl T)
theorem nodeOkI_lit (me : Int) (up gone gate : Bool) (inc now sq turn : Int) (ta : Option Addr) (tl tc : Nat) (ca : Option Addr) (cl cc : Nat) (pn ps pq : Int) (pa : Bool) (da : Option Addr) (dl dc : Nat) (cx cy ch ce : Int) (pla : Option Addr) (pll plc : Nat) (oa : Option Addr) (ol oc : Nat) (F : Nat → Fc) (GI : Nat → It) (GD : Nat → Dt) (GP : Nat → Pl) (GO : Nat → Fg) (b : Bool) (hb : nodB me up gone gate inc now sq turn tl F cl GI pn ps pq pa dl GD cx cy ch ce pll GP ol GO = b) (w : World) (h : NdIn w ta tl F ca cl GI da dl GD pla pll GP oa ol GO) :
    Calls Tryz.prog 54 #[.agg #[.int .i64 me, .bool up, .bool gone, .bool gate, .int .i64 inc, .int .i64 now, .int .i64 sq, .int .i64 turn, .slice ta tl tc, .slice ca cl cc, .int .i64 pn, .int .i64 ps, .int .i64 pq, .bool pa, .slice da dl dc, .int .i64 cx, .int .i64 cy, .int .i64 ch, .int .i64 ce, .slice pla pll plc, .slice oa ol oc]] w fun r w' => r = .returned (.bool b) ∧ Below w.heap.size w w' := hb ▸ nodeOk11_any me up gone gate inc now sq turn ta tl tc ca cl cc pn ps pq pa da dl dc cx cy ch ce pla pll plc oa ol oc F GI GD GP GO w h
theorem nod_pos (me : Int) (up gone gate : Bool) (inc now sq turn : Int) (tl : Nat) (F : Nat → Fc) (cl : Nat) (GI : Nat → It) (pn ps pq : Int) (pa : Bool) (dl : Nat) (GD : Nat → Dt) (cx cy ch ce : Int) (pll : Nat) (GP : Nat → Pl) (ol : Nat) (GO : Nat → Fg) (h : nodB me up gone gate inc now sq turn tl F cl GI pn ps pq pa dl GD cx cy ch ce pll GP ol GO = true) (hu : up = true) : 0 < tl := by
  unfold nodB at h
  rw [Bool.and_eq_true, Bool.or_eq_true] at h
  obtain ⟨h1, h2⟩ := h
  rcases h2 with h2 | h2
  · unfold dwn at h2
    simp [hu] at h2
  · rw [Bool.and_eq_true] at h2
    have h3 := h2.2
    unfold upB at h3
    simp only [Bool.and_eq_true] at h3
    have h4 := h3.1.1.1.1.1.2
    unfold tbB at h4
    simp only [Bool.and_eq_true] at h4
    rcases Nat.eq_zero_or_pos tl with e | e
    · subst e
      exfalso
      have h5 := h4.2
      cases gone <;> simp [fnd, fst, fo, slf, feqB] at h5
    · exact e
set_option maxRecDepth 20000 in
set_option maxHeartbeats 4000000 in
theorem view71_any (me : Int) (up gone gate : Bool) (inc now sq turn : Int) (ta : Option Addr) (tl tc : Nat) (ca : Option Addr) (cl cc : Nat) (pn ps pq : Int) (pa : Bool) (da : Option Addr) (dl dc : Nat) (cx cy ch ce : Int) (pla : Option Addr) (pll plc : Nat) (oa : Option Addr) (ol oc : Nat) (F : Nat → Fc) (GI : Nat → It) (GD : Nat → Dt) (GP : Nat → Pl) (GO : Nat → Fg) (w : World) (h : NdIn w ta tl F ca cl GI da dl GD pla pll GP oa ol GO) :
    Calls Tryz.prog 26 #[.agg #[.int .i64 me, .bool up, .bool gone, .bool gate, .int .i64 inc, .int .i64 now, .int .i64 sq, .int .i64 turn, .slice ta tl tc, .slice ca cl cc, .int .i64 pn, .int .i64 ps, .int .i64 pq, .bool pa, .slice da dl dc, .int .i64 cx, .int .i64 cy, .int .i64 ch, .int .i64 ce, .slice pla pll plc, .slice oa ol oc]] w fun e w' => ViR e w.heap.size w' (viewL (nodB me up gone gate inc now sq turn tl F cl GI pn ps pq pa dl GD cx cy ch ce pll GP ol GO) up me tl F ol GO) ∧ Below w.heap.size w w' := by
  have b0 := balloc (.cells #[.int .i64 me, .bool up, .bool gone, .bool gate, .int .i64 inc, .int .i64 now, .int .i64 sq, .int .i64 turn, .slice ta tl tc, .slice ca cl cc, .int .i64 pn, .int .i64 ps, .int .i64 pq, .bool pa, .slice da dl dc, .int .i64 cx, .int .i64 cy, .int .i64 ch, .int .i64 ce, .slice pla pll plc, .slice oa ol oc] 52) (Below.refl w.heap.size w)
  have X := Ws.box (w := w) #[.int .i64 me, .bool up, .bool gone, .bool gate, .int .i64 inc, .int .i64 now, .int .i64 sq, .int .i64 turn, .slice ta tl tc, .slice ca cl cc, .int .i64 pn, .int .i64 ps, .int .i64 pq, .bool pa, .slice da dl dc, .int .i64 cx, .int .i64 cy, .int .i64 ch, .int .i64 ce, .slice pla pll plc, .slice oa ol oc] 52
  go_enter Tryz.func26, Tryz.ntmps26
  go_upto_region 1 with fail
  generalize w.alloc (.cells #[.int .i64 me, .bool up, .bool gone, .bool gate, .int .i64 inc, .int .i64 now, .int .i64 sq, .int .i64 turn, .slice ta tl tc, .slice ca cl cc, .int .i64 pn, .int .i64 ps, .int .i64 pq, .bool pa, .slice da dl dc, .int .i64 cx, .int .i64 cy, .int .i64 ch, .int .i64 ce, .slice pla pll plc, .slice oa ol oc] 52) = u at *
  have h0 := h.below b0
  have r0 : u.rangeAt w.heap.size 0 [.int .i64 me, .bool up, .bool gone, .bool gate, .int .i64 inc, .int .i64 now, .int .i64 sq, .int .i64 turn, .slice ta tl tc, .slice ca cl cc, .int .i64 pn, .int .i64 ps, .int .i64 pq, .bool pa, .slice da dl dc, .int .i64 cx, .int .i64 cy, .int .i64 ch, .int .i64 ce, .slice pla pll plc, .slice oa ol oc] := X.range
  have d1 := X.c 1 (.bool up) rfl
  clear h
  cases zb0 : nodB me up gone gate inc now sq turn tl F cl GI pn ps pq pa dl GD cx cy ch ce pll GP ol GO
  · have yb0 : Hid (nodB me up gone gate inc now sq turn tl F cl GI pn ps pq pa dl GD cx cy ch ce pll GP ol GO = false) := zb0
    clear zb0
    refine wp_region_q0 s71_1 t71_1 (fun hbq => ?_)
    refine qR ?_
    refine qC (fun K hK => ?_)
    go_simp
    refine (nodeOkI_lit me up gone gate inc now sq turn ta tl tc ca cl cc pn ps pq pa da dl dc cx cy ch ce pla pll plc oa ol oc F GI GD GP GO false yb0.out _ (h0.below hbq)).mono ?_; rintro r w5 ⟨rfl, k5⟩
    go_wp2_with fail
    refine hK.out _ _ (btrans hbq k5) (.inl ?_)
    clear hK K
    replace hbq := btrans hbq k5
    clear k5
    try simp only [putQ]
    iterate 2 refine qY ?_
    iterate 3 refine qN ?_
    refine qY ?_
    refine qE ?_
    go_wp2
    try simp only [Exit.inBlock, Exit.then]
    exact bodyPost_ret (v := .slice none 0 0) (by simp [results, Tryz.results26, go_sem]) rfl ⟨⟨_, rfl, by rw [viewL, yb0.out]; exact World.ownsRow_nil _ _ _ _⟩, btrans b0 hbq⟩
  · have yb0 : Hid (nodB me up gone gate inc now sq turn tl F cl GI pn ps pq pa dl GD cx cy ch ce pll GP ol GO = true) := zb0
    clear zb0
    cases up
    · skip
      refine wp_region_q0 s71_1 t71_1 (fun hbq => ?_)
      refine qR ?_
      refine qC (fun K hK => ?_)
      go_simp
      refine (nodeOkI_lit me false gone gate inc now sq turn ta tl tc ca cl cc pn ps pq pa da dl dc cx cy ch ce pla pll plc oa ol oc F GI GD GP GO true yb0.out _ (h0.below hbq)).mono ?_; rintro r w5 ⟨rfl, k5⟩
      go_wp2_with fail
      refine hK.out _ _ (btrans hbq k5) (.inl ?_)
      clear hK K
      replace hbq := btrans hbq k5
      clear k5
      try simp only [putQ]
      iterate 3 refine qY ?_
      refine qL ?_
      iterate 2 refine qY ?_
      refine qE ?_
      go_wp2
      try simp only [Exit.inBlock, Exit.then]
      exact bodyPost_ret (v := .slice none 0 0) (by simp [results, Tryz.results26, go_sem]) rfl ⟨⟨_, rfl, by rw [viewL, yb0.out]; exact World.ownsRow_nil _ _ _ _⟩, btrans b0 hbq⟩
    · skip
      refine wp_region_q0 s71_1 t71_1 (fun hbq => ?_)
      refine qR ?_
      refine qC (fun K hK => ?_)
      go_simp
      refine (nodeOkI_lit me true gone gate inc now sq turn ta tl tc ca cl cc pn ps pq pa da dl dc cx cy ch ce pla pll plc oa ol oc F GI GD GP GO true yb0.out _ (h0.below hbq)).mono ?_; rintro r w5 ⟨rfl, k5⟩
      go_wp2_with fail
      refine hK.out _ _ (btrans hbq k5) (.inl ?_)
      clear hK K
      replace hbq := btrans hbq k5
      clear k5
      try simp only [putQ]
      iterate 3 refine qY ?_
      refine qL ?_
      iterate 2 refine qY ?_
      refine qE ?_
      have b1 := btrans b0 hbq
      have h1 := h0.below hbq
      have d8 := (X.below hbq).c 8 (.slice ta tl tc) rfl
      have d20 := (X.below hbq).c 20 (.slice oa ol oc) rfl
      have hsee := nod_see me true gone gate inc now sq turn tl F cl GI pn ps pq pa dl GD cx cy ch ce pll GP ol GO yb0.out rfl
      have ho1 := see_one hsee
      have hg : Hid (viewL (nodB me true gone gate inc now sq turn tl F cl GI pn ps pq pa dl GD cx cy ch ce pll GP ol GO) true me tl F ol GO = vjs tl F GO ol) := by rw [Hid, viewL, yb0.out, view_same hsee]; rfl
      have hpos := nod_pos me true gone gate inc now sq turn tl F cl GI pn ps pq pa dl GD cx cy ch ce pll GP ol GO yb0.out rfl
      clear hbq h0 b0 r0 X d1
      obtain ⟨tb, tz, rfl, _, _⟩ := h1.f hpos
      clear hpos
      go_wp2_with fail
      refine (copiedF_any tb tz tl tc F _ h1.f h1.hf).mono ?_
      rintro r w6 ⟨v6, rfl, o6, k6⟩
      have b6 := btrans b1 k6
      have h6 := h1.below k6
      have e20 := keep_below k6 d20
      have o6' := own_mono b1.size o6
      clear b1 h1 d8 d20 k6 o6
      go_wp2
      go_loopw [3, 5, 20] (fun v _ i wr => ∃ k : Nat, k ≤ ol ∧ i = .int .i64 k ∧ wr.ownsRow w.heap.size 57 4 v (vjs tl F GO k).length (fl (vjs tl F GO k)) ∧ Below w6.heap.size w6 wr) (fun _ _ i _ => ol - (intOf i).toNat)
      case atStart => exact ⟨0, by omega, rfl, by rw [vjs, seqF_len]; exact o6', Below.refl _ _⟩
      case round =>
        obtain ⟨k, hk, rfl, hown, hb⟩ := hrel
        by_cases hlt : k < ol
        · obtain rfl : k = 0 := by omega
          simp only [vjs, seqF_len] at hown
          obtain ⟨av, cv, rfl, _, _, hS0⟩ := own_facts hown
          have hS := fsl_congr (G := F) hS0 (fun k hk => by simp [List.getD, seqF, hk])
          obtain ⟨b, off, rfl, hbl, hf⟩ := h6.o (by omega)
          obtain ⟨c0, c1⟩ := (hf.below hb hbl) 0 hlt
          have hO := (h6.ob 0 hlt).1.below hb
          have hOl := (h6.ob 0 hlt).2
          have hv1 : Hid (vjs tl F GO (0 + 1) = tj tl F (GO 0).bl (GO 0).bf) := by
            rw [Hid, vjs, vjs, tj, hsee.t, (hsee.o 0 hlt).2.2.1]; rfl
          simp only [Nat.zero_mul, Nat.add_zero] at c0 c1
          generalize GO 0 = x at c0 c1 hO hOl hv1
          obtain ⟨n, ba, bl, bc, bf⟩ := x
          dsimp only at c0 c1 hO hOl hv1
          have i1 : (0 : Int) < (ol : Int) := by omega
          have kk := balloc (.cells #[.int .i64 n, .slice ba bl bc] 100) (Below.refl wr.heap.size wr)
          have hb2 := btrans hb kk
          have hS2 := hS.below kk
          have hO2 := hO.below kk
          clear hown hS0 hS hO hb hf
          go_wp2_with fail
          refine (fjoin_any av tl cv F ba bl bc bf _ hS2 hO2 h6.hf hOl).mono ?_
          rintro r w7 ⟨v7, rfl, o7, k7⟩
          have hsz := hb2.size
          clear c0 c1 kk hS2 hO2
          go_wp2
          go_roundw
          case rel => exact ⟨0 + 1, by omega, by go_num, by rw [hv1.out]; exact own_mono (Nat.le_trans b6.size hsz) o7, btrans hb2 k7⟩
          case measure => simp [intOf]; omega
        · have e : k = ol := by omega
          subst e
          obtain ⟨av, cv, rfl, _, _, _⟩ := own_facts hown
          go_wp2
          try simp only [Exit.inBlock, Exit.then]
          exact bodyPost_ret (v := .slice av (vjs tl F GO k).length cv) (by simp [results, Tryz.results26, go_sem]) rfl ⟨⟨_, rfl, by rw [hg.out]; exact hown⟩, btrans b6 hb⟩
end Go.Proofs.YtoimfgfhlbkdcaaGreatDoor
/- Nodes: what they see, by the program and by the model. -/
namespace Go.Proofs.YtoimfgfhlbkdcaaGreatDoor
open Go.ChangeShapes Go.WideShapes Go.ChangeAt Go.RowKit
attribute [local go_sem ↓] Go.wp_at_zero Go.wp_at_succ
def s17_2 : List Stp := [⟨some 7, .load 52 (.tmp 1), 52, none, 0⟩, ⟨some 8, .call { callee := .value (.func 42), args := #[.tmp 7], argTypes := #[52] }, 4, none, 1⟩, ⟨some 9, .unOp .not 4 (.tmp 8), 4, none, 0⟩, ⟨some 10, .move (.tmp 9), 4, none, 0⟩, ⟨some 11, .fieldAddr 52 (.tmp 1) 1, 0, some (10, false), 0⟩, ⟨some 12, .load 4 (.tmp 11), 4, some (10, false), 0⟩, ⟨some 13, .unOp .not 4 (.tmp 12), 4, some (10, false), 0⟩, ⟨some 14, .pick (.tmp 10) (.const (.bool true)) (.tmp 13), 4, none, 0⟩]
def t17_2 : List (Nat × Nat) := [(0, 0), (1, 1), (2, 0), (3, 0), (4, 0), (5, 0), (6, 0), (7, 0)]
theorem nodeOkS_lit (me : Int) (up gone gate : Bool) (inc now sq turn : Int) (ta : Option Addr) (tl tc : Nat) (ca : Option Addr) (cl cc : Nat) (pn ps pq : Int) (pa : Bool) (da : Option Addr) (dl dc : Nat) (cx cy ch ce : Int) (pla : Option Addr) (pll plc : Nat) (oa : Option Addr) (ol oc : Nat) (F : Nat → Fc) (GI : Nat → It) (GD : Nat → Dt) (GP : Nat → Pl) (GO : Nat → Fg) (b : Bool) (hb : snodB me up gone gate inc now sq turn tl F cl GI pn ps pq pa dl GD cx cy ch ce pll GP ol GO = b) (w : World) (h : NdIn w ta tl F ca cl GI da dl GD pla pll GP oa ol GO) :
    Calls Tryz.prog 42 #[.agg #[.int .i64 me, .bool up, .bool gone, .bool gate, .int .i64 inc, .int .i64 now, .int .i64 sq, .int .i64 turn, .slice ta tl tc, .slice ca cl cc, .int .i64 pn, .int .i64 ps, .int .i64 pq, .bool pa, .slice da dl dc, .int .i64 cx, .int .i64 cy, .int .i64 ch, .int .i64 ce, .slice pla pll plc, .slice oa ol oc]] w fun r w' => r = .returned (.bool b) ∧ Below w.heap.size w w' := hb ▸ nodeOk9_any me up gone gate inc now sq turn ta tl tc ca cl cc pn ps pq pa da dl dc cx cy ch ce pla pll plc oa ol oc F GI GD GP GO w h
theorem nod_opos (me : Int) (up gone gate : Bool) (inc now sq turn : Int) (tl : Nat) (F : Nat → Fc) (cl : Nat) (GI : Nat → It) (pn ps pq : Int) (pa : Bool) (dl : Nat) (GD : Nat → Dt) (cx cy ch ce : Int) (pll : Nat) (GP : Nat → Pl) (ol : Nat) (GO : Nat → Fg) (h : nodB me up gone gate inc now sq turn tl F cl GI pn ps pq pa dl GD cx cy ch ce pll GP ol GO = true) (hu : up = true) : ∀ k, k < ol → 0 < (GO k).bl := by
  unfold nodB at h
  rw [Bool.and_eq_true, Bool.or_eq_true] at h
  obtain ⟨h1, h2⟩ := h
  rcases h2 with h2 | h2
  · unfold dwn at h2
    simp [hu] at h2
  · rw [Bool.and_eq_true] at h2
    have h3 := h2.2
    unfold upB at h3
    simp only [Bool.and_eq_true] at h3
    have h5 := h3.2
    unfold othsB Fgasc risB otA at h5
    rw [Bool.and_eq_true, decide_eq_true_iff, decide_eq_true_iff] at h5
    intro k hk
    have h6 := h5.2 k hk
    unfold othB sitB at h6
    simp only [Bool.and_eq_true, decide_eq_true_eq] at h6
    have h7 := h6.1.1.2
    omega
/-- what is told of the first n sites -/
def vpre (me : Int) (tl : Nat) (F : Nat → Fc) (ol : Nat) (GO : Nat → Fg) : Nat → List Fc
  | 0 => []
  | n + 1 => vpre me tl F ol GO n ++ seg me tl F ol GO (n : Int)
theorem vws_pre (me : Int) (tl : Nat) (F : Nat → Fc) (ol : Nat) (GO : Nat → Fg) : vws me tl F ol GO = vpre me tl F ol GO 2 := by simp [vws, vpre]
set_option maxRecDepth 20000 in
theorem osg_le {ol : Nat} {GO : Nat → Fg} (h : ∀ j, j < ol → (GO j).bl ≤ 1048576) (s : Int) : ∀ k, k ≤ ol → (osg GO s k).length ≤ k * 1048576
  | 0, _ => Nat.zero_le _
  | k + 1, hk => by
    have q1 := osg_le h s k (by omega)
    have q2 := h k (by omega)
    rw [osg, List.length_append]
    split
    · rw [seqF_len]; omega
    · rw [List.length_nil]; exact Nat.le_trans q1 (Nat.mul_le_mul_right _ (Nat.le_succ k))
set_option maxRecDepth 20000 in
theorem vpre_le {me : Int} {tl : Nat} {F : Nat → Fc} {ol : Nat} {GO : Nat → Fg} (h1 : tl ≤ 1048576) (h2 : ol ≤ 1) (h : ∀ j, j < ol → (GO j).bl ≤ 1048576) : ∀ n, (vpre me tl F ol GO n).length ≤ n * 2097152
  | 0 => Nat.zero_le _
  | n + 1 => by
    have := vpre_le (me := me) (F := F) h1 h2 h n
    have := osg_le h (n : Int) ol (Nat.le_refl _)
    rw [vpre, seg, List.length_append, List.length_append]
    split
    · rw [seqF_len]; omega
    · rw [List.length_nil]; omega
set_option maxRecDepth 20000 in
set_option maxHeartbeats 8000000 in
theorem view17_any (me : Int) (up gone gate : Bool) (inc now sq turn : Int) (ta : Option Addr) (tl tc : Nat) (ca : Option Addr) (cl cc : Nat) (pn ps pq : Int) (pa : Bool) (da : Option Addr) (dl dc : Nat) (cx cy ch ce : Int) (pla : Option Addr) (pll plc : Nat) (oa : Option Addr) (ol oc : Nat) (F : Nat → Fc) (GI : Nat → It) (GD : Nat → Dt) (GP : Nat → Pl) (GO : Nat → Fg) (w : World) (h : NdIn w ta tl F ca cl GI da dl GD pla pll GP oa ol GO) :
    Calls Tryz.prog 17 #[.agg #[.int .i64 me, .bool up, .bool gone, .bool gate, .int .i64 inc, .int .i64 now, .int .i64 sq, .int .i64 turn, .slice ta tl tc, .slice ca cl cc, .int .i64 pn, .int .i64 ps, .int .i64 pq, .bool pa, .slice da dl dc, .int .i64 cx, .int .i64 cy, .int .i64 ch, .int .i64 ce, .slice pla pll plc, .slice oa ol oc]] w fun e w' => ViR e w.heap.size w' (viewL (snodB me up gone gate inc now sq turn tl F cl GI pn ps pq pa dl GD cx cy ch ce pll GP ol GO) up me tl F ol GO) ∧ Below w.heap.size w w' := by
  obtain ⟨ti, hi, hz0, hz1, hz2⟩ := info_parts info24
  have b00 := balloc (.cells #[.int .i64 me, .bool up, .bool gone, .bool gate, .int .i64 inc, .int .i64 now, .int .i64 sq, .int .i64 turn, .slice ta tl tc, .slice ca cl cc, .int .i64 pn, .int .i64 ps, .int .i64 pq, .bool pa, .slice da dl dc, .int .i64 cx, .int .i64 cy, .int .i64 ch, .int .i64 ce, .slice pla pll plc, .slice oa ol oc] 52) (Below.refl w.heap.size w)
  have X0 := Ws.box (w := w) #[.int .i64 me, .bool up, .bool gone, .bool gate, .int .i64 inc, .int .i64 now, .int .i64 sq, .int .i64 turn, .slice ta tl tc, .slice ca cl cc, .int .i64 pn, .int .i64 ps, .int .i64 pq, .bool pa, .slice da dl dc, .int .i64 cx, .int .i64 cy, .int .i64 ch, .int .i64 ce, .slice pla pll plc, .slice oa ol oc] 52
  go_enter Tryz.func17, Tryz.ntmps17
  go_upto_region 1 with fail
  generalize w.alloc (.cells #[.int .i64 me, .bool up, .bool gone, .bool gate, .int .i64 inc, .int .i64 now, .int .i64 sq, .int .i64 turn, .slice ta tl tc, .slice ca cl cc, .int .i64 pn, .int .i64 ps, .int .i64 pq, .bool pa, .slice da dl dc, .int .i64 cx, .int .i64 cy, .int .i64 ch, .int .i64 ce, .slice pla pll plc, .slice oa ol oc] 52) = u0 at *
  have oL := World.ownsRow_lit (base := u0.heap.size) (e := 57) (size := 4) u0 #[] 0 (Nat.le_refl _) (by unfold maxLen; omega) rfl
  have ka := balloc (.cells #[] 57) (Below.refl u0.heap.size u0)
  have b0 := btrans b00 ka
  have X := X0.below ka
  have h0 := h.below b0
  have hKL : w.heap.size < u0.heap.size := X0.lt
  have hKu : u0.heap.size ≤ (u0.alloc (.cells #[] 57)).heap.size := ka.size
  go_upto_region 2 with fail
  generalize u0.alloc (.cells #[] 57) = u at *
  generalize u0.heap.size = KL at *
  have r0 : u.rangeAt w.heap.size 0 [.int .i64 me, .bool up, .bool gone, .bool gate, .int .i64 inc, .int .i64 now, .int .i64 sq, .int .i64 turn, .slice ta tl tc, .slice ca cl cc, .int .i64 pn, .int .i64 ps, .int .i64 pq, .bool pa, .slice da dl dc, .int .i64 cx, .int .i64 cy, .int .i64 ch, .int .i64 ce, .slice pla pll plc, .slice oa ol oc] := X.range
  have d1 := X.c 1 (.bool up) rfl
  clear X0 ka b00
  cases zb0 : snodB me up gone gate inc now sq turn tl F cl GI pn ps pq pa dl GD cx cy ch ce pll GP ol GO
  · have yb0 : Hid (snodB me up gone gate inc now sq turn tl F cl GI pn ps pq pa dl GD cx cy ch ce pll GP ol GO = false) := zb0
    clear zb0
    refine wp_region_q0 s17_2 t17_2 (fun hbq => ?_)
    refine qR ?_
    refine qC (fun K hK => ?_)
    go_simp
    refine (nodeOkS_lit me up gone gate inc now sq turn ta tl tc ca cl cc pn ps pq pa da dl dc cx cy ch ce pla pll plc oa ol oc F GI GD GP GO false yb0.out _ (h0.below hbq)).mono ?_; rintro r w5 ⟨rfl, k5⟩
    go_wp2_with fail
    refine hK.out _ _ (btrans hbq k5) (.inl ?_)
    clear hK K
    replace hbq := btrans hbq k5
    clear k5
    try simp only [putQ]
    iterate 2 refine qY ?_
    iterate 3 refine qN ?_
    refine qY ?_
    refine qE ?_
    go_wp2
    try simp only [Exit.inBlock, Exit.then]
    exact bodyPost_ret (v := .slice (some ⟨KL, 0, none⟩) 0 0) (by simp [results, Tryz.results17, go_sem]) rfl ⟨⟨_, rfl, by rw [viewL, yb0.out]; exact own_mono (Nat.le_of_lt hKL) (own_below oL hbq)⟩, btrans b0 hbq⟩
  · have yb0 : Hid (snodB me up gone gate inc now sq turn tl F cl GI pn ps pq pa dl GD cx cy ch ce pll GP ol GO = true) := zb0
    clear zb0
    cases up
    · skip
      refine wp_region_q0 s17_2 t17_2 (fun hbq => ?_)
      refine qR ?_
      refine qC (fun K hK => ?_)
      go_simp
      refine (nodeOkS_lit me false gone gate inc now sq turn ta tl tc ca cl cc pn ps pq pa da dl dc cx cy ch ce pla pll plc oa ol oc F GI GD GP GO true yb0.out _ (h0.below hbq)).mono ?_; rintro r w5 ⟨rfl, k5⟩
      go_wp2_with fail
      refine hK.out _ _ (btrans hbq k5) (.inl ?_)
      clear hK K
      replace hbq := btrans hbq k5
      clear k5
      try simp only [putQ]
      iterate 3 refine qY ?_
      refine qL ?_
      iterate 2 refine qY ?_
      refine qE ?_
      go_wp2
      try simp only [Exit.inBlock, Exit.then]
      exact bodyPost_ret (v := .slice (some ⟨KL, 0, none⟩) 0 0) (by simp [results, Tryz.results17, go_sem]) rfl ⟨⟨_, rfl, by rw [viewL, yb0.out]; exact own_mono (Nat.le_of_lt hKL) (own_below oL hbq)⟩, btrans b0 hbq⟩
    · skip
      refine wp_region_q0 s17_2 t17_2 (fun hbq => ?_)
      refine qR ?_
      refine qC (fun K hK => ?_)
      go_simp
      refine (nodeOkS_lit me true gone gate inc now sq turn ta tl tc ca cl cc pn ps pq pa da dl dc cx cy ch ce pla pll plc oa ol oc F GI GD GP GO true yb0.out _ (h0.below hbq)).mono ?_; rintro r w5 ⟨rfl, k5⟩
      go_wp2_with fail
      refine hK.out _ _ (btrans hbq k5) (.inl ?_)
      clear hK K
      replace hbq := btrans hbq k5
      clear k5
      try simp only [putQ]
      iterate 3 refine qY ?_
      refine qL ?_
      iterate 2 refine qY ?_
      refine qE ?_
      have hb0 : Below KL u w5 := hbq.mono hKu
      obtain ⟨tb, tz, rfl, _, _⟩ := h.f (nod_pos me true gone gate inc now sq turn tl F cl GI pn ps pq pa dl GD cx cy ch ce pll GP ol GO ((nod_same me true gone gate inc now sq turn tl F cl GI pn ps pq pa dl GD cx cy ch ce pll GP ol GO).trans yb0.out) rfl)
      have h5 := h
      have d0 := X.c 0 (.int .i64 me) rfl
      have d8 := X.c 8 (.slice (some ⟨tb, tz, none⟩) tl tc) rfl
      have d20 := X.c 20 (.slice oa ol oc) rfl
      have hsee := nod_see me true gone gate inc now sq turn tl F cl GI pn ps pq pa dl GD cx cy ch ce pll GP ol GO ((nod_same me true gone gate inc now sq turn tl F cl GI pn ps pq pa dl GD cx cy ch ce pll GP ol GO).trans yb0.out) rfl
      have hop := nod_opos me true gone gate inc now sq turn tl F cl GI pn ps pq pa dl GD cx cy ch ce pll GP ol GO ((nod_same me true gone gate inc now sq turn tl F cl GI pn ps pq pa dl GD cx cy ch ce pll GP ol GO).trans yb0.out) rfl
      have ho1 := see_one hsee
      have hbo : ∀ j, j < ol → (GO j).bl ≤ 1048576 := fun j hj => (h5.ob j hj).2
      have hg : Hid (viewL (snodB me true gone gate inc now sq turn tl F cl GI pn ps pq pa dl GD cx cy ch ce pll GP ol GO) true me tl F ol GO = vpre me tl F ol GO 2) := by rw [Hid, viewL, yb0.out, ← vws_pre]; rfl
      have oL5 := own_below oL hbq
      obtain ⟨sm, hsm⟩ : ∃ sm, Hid (ste me = sm) := ⟨_, rfl⟩
      clear hbq h0 r0 X d1 oL hsee h
      go_wp2
      go_loopw [3, 4, 5] (fun v s _ wr => ∃ n : Nat, n ≤ 2 ∧ s = .int .i64 n ∧ wr.ownsRow KL 57 4 v (vpre me tl F ol GO n).length (fl (vpre me tl F ol GO n)) ∧ Below KL u wr) (fun _ s _ _ => 2 - (intOf s).toNat)
      case atStart => exact ⟨0, by omega, rfl, oL5, hb0⟩
      case round =>
        obtain ⟨n, hn, rfl, hown, hb⟩ := hrel
        have f0 := (hb.cell (p := ⟨w.heap.size, 0, none⟩) hKL).trans d0
        have f8 := (hb.cell (p := ⟨w.heap.size, 8, none⟩) hKL).trans d8
        have hw := b0.trans (hb.mono (Nat.le_of_lt hKL))
        have hle : (vpre me tl F ol GO n).length ≤ 4194304 := by
          have h1 := vpre_le (me := me) (F := F) h5.hf ho1 hbo n
          omega
        obtain ⟨av, cv, rfl, _, _, _⟩ := own_facts hown
        by_cases hlt : n < 2
        · have j1 : (n : Int) ≤ 1 := by omega
          go_wp2_with fail
          refine (lsite_any me _).mono ?_
          rintro r w6 ⟨rfl, hw6⟩
          obtain rfl := hw6.symm
          clear hw6
          rw [hsm.out]
          have hFt := h5.f.below hw
          have htl := h5.hf
          by_cases es : (n : Int) = sm
          · have zs : ((n : Int) == sm) = true := by simpa using es
            have hes : Hid ((n : Int) = ste me) := by rw [Hid, hsm.out]; exact es
            clear es
            go_wp2_with (at_builtin; refine wpList_append_own _ rfl _ _ 32 rfl KL 57 ti (fval Fc.zero) 4 32 Tryz.underlying32 hi hz0 hz1 hz2 rfl (by decide) _ _ _ rfl hown ⟨tb, tz, none⟩ tl tc (fl (seqF F tl)) rfl (by rw [fl_len, seqF_len]) (fsl_cells hFt) fl_one ?c3 ?c4 ?c5 ?_)
            case c3 => unfold maxLen; omega
            case c4 => omega
            case c5 => exact Nat.le_trans hKu hb.size
            · intro v' w7 hown' hgrow _
              have hown2 : w7.ownsRow KL 57 4 v' (vpre me tl F ol GO n ++ seqF F tl).length (fl (vpre me tl F ol GO n ++ seqF F tl)) := by rw [List.length_append, seqF_len, fl_append]; exact hown'
              have B7 : Below KL u w7 := own_grow hb (Nat.le_trans hKu hb.size) hown hgrow
              clear hgrow hown' hown f0 f8 zs hFt
              go_wp2
              go_loopw [3, 5] (fun v j wt => ∃ k : Nat, k ≤ ol ∧ j = .int .i64 k ∧ wt.ownsRow KL 57 4 v ((vpre me tl F ol GO n ++ seqF F tl) ++ osg GO (n : Int) k).length (fl ((vpre me tl F ol GO n ++ seqF F tl) ++ osg GO (n : Int) k)) ∧ Below KL u wt) (fun _ j _ => ol - (intOf j).toNat)
              case atStart => exact ⟨0, by omega, rfl, by rw [osg, List.append_nil]; exact hown2, B7⟩
              case round =>
                obtain ⟨k, hk, rfl, hown3, hb3⟩ := hrel
                have hbb := b0.trans (hb3.mono (Nat.le_of_lt hKL))
                have f20 := (hb3.cell (p := ⟨w.heap.size, 20, none⟩) hKL).trans d20
                have hle3 : ((vpre me tl F ol GO n ++ seqF F tl) ++ osg GO (n : Int) k).length ≤ 8388608 := by
                  have h1 := vpre_le (me := me) (F := F) h5.hf ho1 hbo n
                  have h2 := osg_le hbo (n : Int) k hk
                  rw [List.length_append, List.length_append, seqF_len]
                  have := h5.hf
                  omega
                obtain ⟨T3, hT3⟩ : ∃ T3, Hid ((vpre me tl F ol GO n ++ seqF F tl) ++ osg GO (n : Int) k = T3) := ⟨_, rfl⟩
                rw [hT3.out] at hown3 hle3
                obtain ⟨av3, cv3, rfl, _, _, _⟩ := own_facts hown3
                by_cases hlt3 : k < ol
                · obtain ⟨b, off, rfl, hbl, hf⟩ := h5.o (by omega)
                  obtain ⟨c0, c1⟩ := (hf.below hbb hbl) k hlt3
                  have hO := (h5.ob k hlt3).1.below hbb
                  have hOl := (h5.ob k hlt3).2
                  obtain ⟨bb, bz, eb, _, _⟩ := hO (hop k hlt3)
                  rw [eb] at c1 hO
                  have i0 : (0 : Int) ≤ (k : Int) := by omega
                  have i1 : (k : Int) < (ol : Int) := by omega
                  have hst : Hid (osg GO (n : Int) (k + 1) = osg GO (n : Int) k ++ (if (GO k).n = (n : Int) then seqF (GO k).bf (GO k).bl else [])) := rfl
                  by_cases en : (GO k).n = (n : Int)
                  · have zn : ((GO k).n == (n : Int)) = true := by simpa using en
                    have hst2 : Hid (osg GO (n : Int) (k + 1) = osg GO (n : Int) k ++ seqF (GO k).bf (GO k).bl) := by rw [Hid, hst.out, if_pos en]
                    clear en hst
                    generalize GO k = x at c0 c1 hO hOl zn hst2
                    obtain ⟨xn, ba, bl, bc, bf⟩ := x
                    dsimp only at c0 c1 hO hOl zn hst2
                    go_wp2_with (at_builtin; refine wpList_append_own _ rfl _ _ 32 rfl KL 57 ti (fval Fc.zero) 4 32 Tryz.underlying32 hi hz0 hz1 hz2 rfl (by decide) _ _ _ rfl hown3 ⟨bb, bz, none⟩ bl bc (fl (seqF bf bl)) rfl (by rw [fl_len, seqF_len]) (fsl_cells hO) fl_one ?c3 ?c4 ?c5 ?_)
                    case c3 => unfold maxLen; omega
                    case c4 => omega
                    case c5 => exact Nat.le_trans hKu hb3.size
                    · intro v' w9 hown' hgrow _
                      have B9 := own_grow hb3 (Nat.le_trans hKu hb3.size) hown3 hgrow
                      clear hgrow c0 c1 f20 zn
                      go_wp2
                      go_roundw
                      case rel => exact ⟨k + 1, by omega, by go_num, by rw [hst2.out, ← List.append_assoc, hT3.out, List.length_append, seqF_len, fl_append]; exact hown', B9⟩
                      case measure => simp [intOf]; omega
                  · have zn : ((GO k).n == (n : Int)) = false := by simpa using en
                    have hst2 : Hid (osg GO (n : Int) (k + 1) = osg GO (n : Int) k) := by rw [Hid, hst.out, if_neg en, List.append_nil]
                    clear en hst c1 hO hOl
                    generalize GO k = x at c0 zn hst2
                    obtain ⟨xn, ba, bl, bc, bf⟩ := x
                    dsimp only at c0 zn hst2
                    go_wp2
                    go_roundw
                    case rel => exact ⟨k + 1, by omega, by go_num, by rw [hst2.out, hT3.out]; exact hown3, hb3⟩
                    case measure => simp [intOf]; omega
                · have e3 : k = ol := by omega
                  subst e3
                  go_wp2
                  go_roundw
                  case rel => exact ⟨n + 1, by omega, by go_num, by rw [vpre, seg, if_pos hes.out, ← List.append_assoc, hT3.out]; exact hown3, hb3⟩
                  case measure => simp [intOf]; omega
          · have zs : ((n : Int) == sm) = false := by simpa using es
            have hes : Hid (¬ (n : Int) = ste me) := by rw [Hid, hsm.out]; exact es
            clear es f0 f8 hFt
            go_wp2
            go_loopw [3, 5] (fun v j wt => ∃ k : Nat, k ≤ ol ∧ j = .int .i64 k ∧ wt.ownsRow KL 57 4 v (vpre me tl F ol GO n ++ osg GO (n : Int) k).length (fl (vpre me tl F ol GO n ++ osg GO (n : Int) k)) ∧ Below KL u wt) (fun _ j _ => ol - (intOf j).toNat)
            case atStart => exact ⟨0, by omega, rfl, by rw [osg, List.append_nil]; exact hown, hb⟩
            case round =>
              obtain ⟨k, hk, rfl, hown3, hb3⟩ := hrel
              have hbb := b0.trans (hb3.mono (Nat.le_of_lt hKL))
              have f20 := (hb3.cell (p := ⟨w.heap.size, 20, none⟩) hKL).trans d20
              have hle3 : (vpre me tl F ol GO n ++ osg GO (n : Int) k).length ≤ 8388608 := by
                have h1 := vpre_le (me := me) (F := F) h5.hf ho1 hbo n
                have h2 := osg_le hbo (n : Int) k hk
                rw [List.length_append]
                have := h5.hf
                omega
              obtain ⟨T3, hT3⟩ : ∃ T3, Hid (vpre me tl F ol GO n ++ osg GO (n : Int) k = T3) := ⟨_, rfl⟩
              rw [hT3.out] at hown3 hle3
              obtain ⟨av3, cv3, rfl, _, _, _⟩ := own_facts hown3
              by_cases hlt3 : k < ol
              · obtain ⟨b, off, rfl, hbl, hf⟩ := h5.o (by omega)
                obtain ⟨c0, c1⟩ := (hf.below hbb hbl) k hlt3
                have hO := (h5.ob k hlt3).1.below hbb
                have hOl := (h5.ob k hlt3).2
                obtain ⟨bb, bz, eb, _, _⟩ := hO (hop k hlt3)
                rw [eb] at c1 hO
                have i0 : (0 : Int) ≤ (k : Int) := by omega
                have i1 : (k : Int) < (ol : Int) := by omega
                have hst : Hid (osg GO (n : Int) (k + 1) = osg GO (n : Int) k ++ (if (GO k).n = (n : Int) then seqF (GO k).bf (GO k).bl else [])) := rfl
                by_cases en : (GO k).n = (n : Int)
                · have zn : ((GO k).n == (n : Int)) = true := by simpa using en
                  have hst2 : Hid (osg GO (n : Int) (k + 1) = osg GO (n : Int) k ++ seqF (GO k).bf (GO k).bl) := by rw [Hid, hst.out, if_pos en]
                  clear en hst
                  generalize GO k = x at c0 c1 hO hOl zn hst2
                  obtain ⟨xn, ba, bl, bc, bf⟩ := x
                  dsimp only at c0 c1 hO hOl zn hst2
                  go_wp2_with (at_builtin; refine wpList_append_own _ rfl _ _ 32 rfl KL 57 ti (fval Fc.zero) 4 32 Tryz.underlying32 hi hz0 hz1 hz2 rfl (by decide) _ _ _ rfl hown3 ⟨bb, bz, none⟩ bl bc (fl (seqF bf bl)) rfl (by rw [fl_len, seqF_len]) (fsl_cells hO) fl_one ?c3 ?c4 ?c5 ?_)
                  case c3 => unfold maxLen; omega
                  case c4 => omega
                  case c5 => exact Nat.le_trans hKu hb3.size
                  · intro v' w9 hown' hgrow _
                    have B9 := own_grow hb3 (Nat.le_trans hKu hb3.size) hown3 hgrow
                    clear hgrow c0 c1 f20 zn
                    go_wp2
                    go_roundw
                    case rel => exact ⟨k + 1, by omega, by go_num, by rw [hst2.out, ← List.append_assoc, hT3.out, List.length_append, seqF_len, fl_append]; exact hown', B9⟩
                    case measure => simp [intOf]; omega
                · have zn : ((GO k).n == (n : Int)) = false := by simpa using en
                  have hst2 : Hid (osg GO (n : Int) (k + 1) = osg GO (n : Int) k) := by rw [Hid, hst.out, if_neg en, List.append_nil]
                  clear en hst c1 hO hOl
                  generalize GO k = x at c0 zn hst2
                  obtain ⟨xn, ba, bl, bc, bf⟩ := x
                  dsimp only at c0 zn hst2
                  go_wp2
                  go_roundw
                  case rel => exact ⟨k + 1, by omega, by go_num, by rw [hst2.out, hT3.out]; exact hown3, hb3⟩
                  case measure => simp [intOf]; omega
              · have e3 : k = ol := by omega
                subst e3
                go_wp2
                go_roundw
                case rel => exact ⟨n + 1, by omega, by go_num, by rw [vpre, seg, if_neg hes.out, List.nil_append, hT3.out]; exact hown3, hb3⟩
                case measure => simp [intOf]; omega
        · have e : n = 2 := by omega
          subst e
          go_wp2
          try simp only [Exit.inBlock, Exit.then]
          exact bodyPost_ret (v := .slice av (vpre me tl F ol GO 2).length cv) (by simp [results, Tryz.results17, go_sem]) rfl ⟨⟨_, rfl, by rw [hg.out]; exact own_mono (Nat.le_of_lt hKL) hown⟩, hw⟩
end Go.Proofs.YtoimfgfhlbkdcaaGreatDoor
/- A table's text tells the table (no program in this text). -/
namespace Go.Proofs.YtoimfgfhlbkdcaaGreatDoor
/-- a text cut at each byte c -/
def cutL (c : UInt8) : List UInt8 → List (List UInt8)
  | [] => [[]]
  | x :: xs => if x = c then [] :: cutL c xs else match cutL c xs with
    | [] => [[x]]
    | p :: ps => (x :: p) :: ps
theorem cutL_free (c : UInt8) : ∀ s, c ∉ s → cutL c s = [s]
  | [], _ => rfl
  | x :: xs, h => by
    have h1 : ¬ x = c := fun e => h (by rw [e]; exact List.mem_cons_self ..)
    have h2 : c ∉ xs := fun e => h (List.mem_cons_of_mem _ e)
    rw [cutL, if_neg h1, cutL_free c xs h2]
theorem cutL_hit (c : UInt8) : ∀ a s, c ∉ a → cutL c (a ++ c :: s) = a :: cutL c s
  | [], s, _ => by simp [cutL]
  | x :: xs, s, h => by
    have h1 : ¬ x = c := fun e => h (by rw [e]; exact List.mem_cons_self ..)
    have h2 : c ∉ xs := fun e => h (List.mem_cons_of_mem _ e)
    rw [List.cons_append, cutL, if_neg h1, cutL_hit c xs s h2]
theorem join_two (a : List UInt8) (r : List (List UInt8)) (sep : List UInt8) (h : r ≠ []) : Lib.join (a :: r) sep = a ++ sep ++ Lib.join r sep := by
  cases r with
  | nil => exact absurd rfl h
  | cons b q => simp [Lib.join, List.intercalate, List.intersperse]
theorem cutL_join (c : UInt8) : ∀ (r : List (List UInt8)), r ≠ [] → (∀ p ∈ r, c ∉ p) → cutL c (Lib.join r [c]) = r
  | [], h, _ => absurd rfl h
  | [a], _, hp => by rw [Lib.join_one, cutL_free c a (hp a (List.mem_cons_self ..))]
  | a :: b :: q, _, hp => by
    rw [join_two _ _ _ (by simp), List.append_assoc, List.singleton_append, cutL_hit c a _ (hp a (List.mem_cons_self ..)), cutL_join c (b :: q) (by simp) (fun p h => hp p (List.mem_cons_of_mem _ h))]
/-- a figure's byte -/
theorem fig {d : Nat} (h : d < 10) : (UInt8.ofNat (48 + d)).toNat = 48 + d := by
  rw [UInt8.toNat_ofNat']
  exact Nat.mod_eq_of_lt (by omega)
theorem dd_cases (u : Nat) (h : u < 1000) : (u < 10 ∧ Lib.decDigits u = [UInt8.ofNat (48 + u)]) ∨ (10 ≤ u ∧ u < 100 ∧ Lib.decDigits u = [UInt8.ofNat (48 + u / 10), UInt8.ofNat (48 + u % 10)]) ∨ (100 ≤ u ∧ Lib.decDigits u = [UInt8.ofNat (48 + u / 100), UInt8.ofNat (48 + u / 10 % 10), UInt8.ofNat (48 + u % 10)]) := by
  by_cases h1 : u < 10
  · left
    refine ⟨h1, ?_⟩
    rw [Lib.decDigits, dif_pos h1]
  · right
    by_cases h2 : u < 100
    · left
      refine ⟨by omega, h2, ?_⟩
      rw [Lib.decDigits, dif_neg h1, Lib.decDigits, dif_pos (by omega)]
      rfl
    · right
      refine ⟨by omega, ?_⟩
      rw [Lib.decDigits, dif_neg h1, Lib.decDigits, dif_neg (by omega), Lib.decDigits, dif_pos (by omega), Nat.div_div_eq_div_mul]
      rfl
theorem itoa_nat {n : Int} (h0 : 0 ≤ n) : Lib.itoa n = Lib.decDigits n.toNat := by
  rw [Lib.itoa, if_neg (by omega)]
theorem itoa_fig {n : Int} (h0 : 0 ≤ n) (h1 : n ≤ 999) : ∀ c ∈ Lib.itoa n, 48 ≤ c.toNat ∧ c.toNat ≤ 57 := by
  rw [itoa_nat h0]
  intro c hc
  rcases dd_cases n.toNat (by omega) with ⟨a, e⟩ | ⟨a, b, e⟩ | ⟨a, e⟩ <;> rw [e] at hc <;> simp only [List.mem_cons, List.not_mem_nil, or_false] at hc
  · subst hc
    rw [fig (by omega)]
    omega
  · rcases hc with rfl | rfl <;> rw [fig (by omega)] <;> omega
  · rcases hc with rfl | rfl | rfl <;> rw [fig (by omega)] <;> omega
theorem itoa_miss {n : Int} (h0 : 0 ≤ n) (h1 : n ≤ 999) (c : UInt8) (hc : c.toNat < 48 ∨ 57 < c.toNat) : c ∉ Lib.itoa n := fun hm => by
  have := itoa_fig h0 h1 c hm
  omega
theorem word_miss (s : Int) (c : UInt8) (hc : c.toNat < 97) : c ∉ wordL s := by
  have key : ∀ x ∈ wordL s, 97 ≤ x.toNat := by
    unfold wordL
    split
    · decide
    · split
      · decide
      · split
        · decide
        · decide
  exact fun hm => by have := key c hm; omega
theorem star_miss (g : Bool) (c : UInt8) (hc : c ≠ 42) : c ∉ (if g = true then [42] else [] : List UInt8) := by
  cases g <;> simp [hc]
theorem ftx_form (f : Fc) : ftx f = Lib.itoa f.n ++ 58 :: (Lib.itoa f.i ++ 58 :: (wordL f.s ++ (if f.g = true then [42] else []))) := by
  simp [ftx]
theorem ftx_miss {f : Fc} (h : fok f = true) : (44 : UInt8) ∉ ftx f := by
  obtain ⟨a, b, c, d, -, -⟩ := fok_all h
  rw [ftx_form]
  intro hm
  simp only [List.mem_append, List.mem_cons] at hm
  rcases hm with hm | hm | hm | hm | hm | hm
  · exact itoa_miss a (by omega) 44 (by decide) hm
  · exact absurd hm (by decide)
  · exact itoa_miss c d 44 (by decide) hm
  · exact absurd hm (by decide)
  · exact word_miss _ 44 (by decide) hm
  · exact star_miss _ 44 (by decide) hm
theorem cut3 {f : Fc} (h : fok f = true) (e : List UInt8) (he : (58 : UInt8) ∉ e) : cutL 58 (Lib.itoa f.n ++ 58 :: (Lib.itoa f.i ++ 58 :: e)) = [Lib.itoa f.n, Lib.itoa f.i, e] := by
  obtain ⟨a, b, c, d, -, -⟩ := fok_all h
  rw [cutL_hit 58 _ _ (itoa_miss a (by omega) 58 (by decide)), cutL_hit 58 _ _ (itoa_miss c d 58 (by decide)), cutL_free 58 e he]
theorem cut_ttx {T : List Fc} (hT : ∀ f ∈ T, fok f = true) (hn : T ≠ []) : cutL 44 (ttx T) = T.map ftx := by
  unfold ttx
  refine cutL_join 44 _ (by simpa using hn) (fun p hp => ?_)
  obtain ⟨f, hf, e⟩ := List.mem_map.1 hp
  rw [← e]
  exact ftx_miss (hT f hf)
theorem ofNat_inj {a b : Nat} (ha : a < 10) (hb : b < 10) (h : UInt8.ofNat (48 + a) = UInt8.ofNat (48 + b)) : a = b := by
  have h1 := fig ha
  rw [h, fig hb] at h1
  omega
theorem itoa_inj {m n : Int} (h0 : 0 ≤ m) (h1 : m ≤ 999) (h2 : 0 ≤ n) (h3 : n ≤ 999) (h : Lib.itoa m = Lib.itoa n) : m = n := by
  rw [itoa_nat h0, itoa_nat h2] at h
  rcases dd_cases m.toNat (by omega) with ⟨a, e⟩ | ⟨a, b, e⟩ | ⟨a, e⟩ <;> rcases dd_cases n.toNat (by omega) with ⟨c, g⟩ | ⟨c, d, g⟩ | ⟨c, g⟩ <;> rw [e, g] at h <;> simp only [List.cons.injEq, and_true, List.cons_ne_nil, and_false, List.nil_eq] at h
  · have := ofNat_inj (by omega) (by omega) h
    omega
  · have := ofNat_inj (by omega) (by omega) h.1
    have := ofNat_inj (by omega) (by omega) h.2
    omega
  · have := ofNat_inj (by omega) (by omega) h.1
    have := ofNat_inj (by omega) (by omega) h.2.1
    have := ofNat_inj (by omega) (by omega) h.2.2
    omega
theorem ws_inj (s t : Int) (g g' : Bool) (hs : s = 1 ∨ s = 2 ∨ s = 3 ∨ s = 4) (ht : t = 1 ∨ t = 2 ∨ t = 3 ∨ t = 4) : wordL s ++ (if g = true then [42] else []) = wordL t ++ (if g' = true then [42] else []) → s = t ∧ g = g' := by
  rcases hs with rfl | rfl | rfl | rfl <;> rcases ht with rfl | rfl | rfl | rfl <;> cases g <;> cases g' <;> first | exact fun _ => ⟨rfl, rfl⟩ | (intro h; exact absurd (congrArg (fun l : List UInt8 => (l.length, l.head?, l.getLast?)) h) (by simp [wordL, wa1, wa2, wa3, wa4]))
theorem ftx_inj {f g : Fc} (hf : fok f = true) (hg : fok g = true) (h : ftx f = ftx g) : f = g := by
  have miss : ∀ x : Fc, (58 : UInt8) ∉ wordL x.s ++ (if x.g = true then [42] else []) := fun x hm => by
    rcases List.mem_append.1 hm with hm | hm
    · exact word_miss _ 58 (by decide) hm
    · exact star_miss _ 58 (by decide) hm
  have h1 := congrArg (cutL 58) h
  rw [ftx_form, ftx_form, cut3 hf _ (miss f), cut3 hg _ (miss g)] at h1
  simp only [List.cons.injEq, and_true] at h1
  obtain ⟨a1, a2, a3⟩ := h1
  obtain ⟨n0, n1, i0, i1, s0, s1⟩ := fok_all hf
  obtain ⟨m0, m1, j0, j1, t0, t1⟩ := fok_all hg
  have e1 := itoa_inj n0 (by omega) m0 (by omega) a1
  have e2 := itoa_inj i0 i1 j0 j1 a2
  obtain ⟨fn, fi, fs, fg⟩ := f
  obtain ⟨gn, gi, gs, gg⟩ := g
  dsimp only at e1 e2 a3 s0 s1 t0 t1
  have c1 : fs = 1 ∨ fs = 2 ∨ fs = 3 ∨ fs = 4 := by omega
  have c2 : gs = 1 ∨ gs = 2 ∨ gs = 3 ∨ gs = 4 := by omega
  have e3 : fs = gs ∧ fg = gg := ws_inj fs gs fg gg c1 c2 a3
  rw [e1, e2, e3.1, e3.2]
theorem map_inj {f : Fc → List UInt8} : ∀ {A B : List Fc}, (∀ x ∈ A, ∀ y ∈ B, f x = f y → x = y) → A.map f = B.map f → A = B
  | [], [], _, _ => rfl
  | [], _ :: _, _, h => by cases h
  | _ :: _, [], _, h => by cases h
  | x :: A, y :: B, hi, h => by
    simp only [List.map_cons, List.cons.injEq] at h
    rw [hi x (List.mem_cons_self ..) y (List.mem_cons_self ..) h.1, map_inj (fun a ha b hb => hi a (List.mem_cons_of_mem _ ha) b (List.mem_cons_of_mem _ hb)) h.2]
theorem ttx_ne {T : List Fc} (hT : ∀ f ∈ T, fok f = true) (hn : T ≠ []) : ttx T ≠ [45] := fun e => by
  have h := cut_ttx hT hn
  rw [e] at h
  cases T with
  | nil => exact hn rfl
  | cons f R =>
    have h2 : cutL 44 [45] = [[45]] := by decide
    rw [h2, List.map_cons, List.cons.injEq] at h
    have h3 := congrArg (fun l : List UInt8 => decide ((58 : UInt8) ∈ l)) h.1
    rw [ftx_form] at h3
    simp at h3
/-- two tables that are ok and have one text are one -/
theorem txt_inj {A B : List Fc} {F G : Nat → Fc} (hA : seqF F A.length = A) (hB : seqF G B.length = B) (kA : tokB A.length F = true) (kB : tokB B.length G = true) (h : txt A.length F = txt B.length G) : A = B := by
  have fA : ∀ f ∈ A, fok f = true := fun f hf => by
    rw [← hA] at hf
    obtain ⟨k, hk, rfl⟩ := seqF_mem hf
    exact (tok_all kA).1 k hk
  have fB : ∀ f ∈ B, fok f = true := fun f hf => by
    rw [← hB] at hf
    obtain ⟨k, hk, rfl⟩ := seqF_mem hf
    exact (tok_all kB).1 k hk
  unfold txt at h
  rw [kA, kB, if_pos rfl, if_pos rfl, hA, hB] at h
  have bs_inj : ∀ {x y : List UInt8}, bs x = bs y → x = y := fun e => by simpa [bs] using e
  by_cases eA : A = []
  · by_cases eB : B = []
    · rw [eA, eB]
    · have l : ¬ B.length = 0 := fun e => eB (List.eq_nil_of_length_eq_zero e)
      rw [eA, if_pos List.length_nil, if_neg l] at h
      exact absurd (bs_inj h).symm (ttx_ne fB eB)
  · have l : ¬ A.length = 0 := fun e => eA (List.eq_nil_of_length_eq_zero e)
    rw [if_neg l] at h
    by_cases eB : B = []
    · rw [eB, if_pos List.length_nil] at h
      exact absurd (bs_inj h) (ttx_ne fA eA)
    · have l' : ¬ B.length = 0 := fun e => eB (List.eq_nil_of_length_eq_zero e)
      rw [if_neg l'] at h
      have h2 := congrArg (cutL 44) (bs_inj h)
      rw [cut_ttx fA eA, cut_ttx fB eB] at h2
      exact map_inj (fun x hx y hy e => ftx_inj (fA x hx) (fB y hy) e) h2
end Go.Proofs.YtoimfgfhlbkdcaaGreatDoor
/- Views of nodes, by the program and by the model; who is awake; two lists of facts held against each other. -/
namespace Go.Proofs.YtoimfgfhlbkdcaaGreatDoor
open Go.ChangeShapes Go.WideShapes Go.ChangeAt Go.RowKit
attribute [local go_sem ↓] Go.wp_at_zero Go.wp_at_succ
theorem osg_oF (l : List Od) (a a' : Nat → Option Addr) (c c' : Nat → Nat) (s : Int) : ∀ k, osg (oF l a c) s k = osg (oF l a' c') s k
  | 0 => rfl
  | k + 1 => by rw [osg, osg, osg_oF l a a' c c' s k]; rfl
/-- all that a node sees -/
def viewN (n : Nod) : List Fc := viewL (nodQ n) n.up n.me n.T.length (tF n.T) n.O.length (oF n.O (fun _ => none) fun _ => 0)
theorem view_nod (n : Nod) (L : Loc) (w : World) (h : NdR w n L) : Calls Tryz.prog 26 #[.agg (ndC n L)] w fun e w' => ViR e w.heap.size w' (viewN n) ∧ Below w.heap.size w w' := by
  have := view71_any n.me n.up n.gone n.gate n.inc n.now n.sq n.turn L.ta n.T.length L.tc L.ca n.C.length L.cc n.pn n.ps n.pq n.pa L.da n.D.length L.dc n.cx n.cy n.ch n.ce L.pla n.P.length L.plc L.oa n.O.length L.oc _ _ _ _ _ w h
  rw [nodQ_at n L] at this
  unfold viewL vws seg at this
  rw [osg_oF n.O L.oA (fun _ => none) L.oC (fun _ => 0), osg_oF n.O L.oA (fun _ => none) L.oC (fun _ => 0)] at this
  exact this
theorem see_len {me : Int} {tl : Nat} {F : Nat → Fc} {ol : Nat} {GO : Nat → Fg} (h : NdSee me tl F ol GO) : (vws me tl F ol GO).length ≤ 8 := by
  rw [← view_same h]
  have ho := see_one h
  obtain ⟨t1, t2⟩ := tok_all h.t
  rcases Nat.eq_zero_or_pos ol with e | e
  · subst e
    exact ok_short (seqF_asc t2 tl (Nat.le_refl _)) (seqF_ok t1)
  · obtain rfl : ol = 1 := by omega
    have := tj_len tl F (GO 0).bl (GO 0).bf
    rw [tj, h.t, (h.o 0 (by omega)).2.2.1] at this
    exact this
theorem nodQ_see {n : Nod} (h : nodQ n = true) (hu : n.up = true) : NdSee n.me n.T.length (tF n.T) n.O.length (oF n.O (fun _ => none) fun _ => 0) := nod_see _ _ _ _ _ _ _ _ _ _ _ _ _ _ _ _ _ _ _ _ _ _ _ _ _ _ h hu
theorem viewN_len (n : Nod) : (viewN n).length ≤ 8 := by
  unfold viewN viewL
  split
  · rename_i h
    rw [Bool.and_eq_true] at h
    exact see_len (nodQ_see h.1 h.2)
  · exact Nat.zero_le _
theorem seqF_tF (l : List Fc) : seqF (tF l) l.length = l := by
  apply List.ext_getElem
  · simp [seqF]
  · intro k h1 h2
    simp [seqF, tF, List.getD, h2]
theorem viewS_nod (n : Nod) (L : Loc) (w : World) (h : NdR w n L) : Calls Tryz.prog 17 #[.agg (ndC n L)] w fun e w' => ViR e w.heap.size w' (viewN n) ∧ Below w.heap.size w w' := by
  have := view17_any n.me n.up n.gone n.gate n.inc n.now n.sq n.turn L.ta n.T.length L.tc L.ca n.C.length L.cc n.pn n.ps n.pq n.pa L.da n.D.length L.dc n.cx n.cy n.ch n.ce L.pla n.P.length L.plc L.oa n.O.length L.oc _ _ _ _ _ w h
  rw [← nod_same, nodQ_at n L] at this
  unfold viewL vws seg at this
  rw [osg_oF n.O L.oA (fun _ => none) L.oC (fun _ => 0), osg_oF n.O L.oA (fun _ => none) L.oC (fun _ => 0)] at this
  exact this
theorem tok_mk {T : List Fc} (ha : Asc T) (ho : ∀ f ∈ T, fok f = true) : tokB T.length (fun k => T.getD k Fc.zero) = true := by
  unfold tokB allB ascB
  rw [Bool.and_eq_true, decide_eq_true_iff, decide_eq_true_iff]
  have e : ∀ k (h : k < T.length), T.getD k Fc.zero = T[k] := fun k h => by simp [List.getD, h]
  refine ⟨fun k hk => ?_, fun k hk h0 => ?_⟩
  · dsimp only
    rw [e k hk]
    exact ho _ (List.getElem_mem hk)
  · dsimp only
    rw [e k hk, e (k - 1) (by omega)]
    exact (List.pairwise_iff_getElem.1 ha) (k - 1) k (by omega) hk (by omega)
theorem view_tok (n : Nod) : tokB (viewN n).length (fun k => (viewN n).getD k Fc.zero) = true := by
  unfold viewN viewL
  cases hq : nodQ n && n.up
  · rfl
  · rw [if_pos rfl]
    rw [Bool.and_eq_true] at hq
    have h := nodQ_see hq.1 hq.2
    have ho := see_one h
    obtain ⟨t1, t2⟩ := tok_all h.t
    have key : Asc (vjs n.T.length (tF n.T) (oF n.O (fun _ => none) fun _ => 0) n.O.length) ∧ ∀ f ∈ vjs n.T.length (tF n.T) (oF n.O (fun _ => none) fun _ => 0) n.O.length, fok f = true := by
      rcases Nat.eq_zero_or_pos n.O.length with e | e
      · rw [e]
        exact ⟨seqF_asc t2 _ (Nat.le_refl _), seqF_ok t1⟩
      · have e1 : n.O.length = 1 := by omega
        obtain ⟨u1, u2⟩ := tok_all (h.o 0 e).2.2.1
        rw [e1]
        exact ⟨tjoin_asc (seqF_asc t2 _ (Nat.le_refl _)) _ _, tjoin_ok (seqF_ok t1) u1 _ (Nat.le_refl _)⟩
    rw [view_same h] at key
    exact tok_mk key.1 key.2
/-- somebody does something at all -/
def aw (n : Nod) : Bool := n.up && !n.gone
set_option maxRecDepth 20000 in
theorem awk_any (n : Nod) (L : Loc) (b : Bool) (hb : aw n = b) (w : World) : Calls Tryz.prog 25 #[.agg (ndC n L)] w fun e w' => e = .returned (.bool b) ∧ Below w.heap.size w w' := by
  have b0 := balloc (.cells (ndC n L) 52) (Below.refl w.heap.size w)
  have X := Ws.box (w := w) (ndC n L) 52
  have c1 := X.c 1 (.bool n.up) rfl
  have c2 := X.c 2 (.bool n.gone) rfl
  unfold aw at hb
  clear X
  generalize ndC n L = C at *
  generalize n.up = p at *
  generalize n.gone = q at *
  go_enter Tryz.func25, Tryz.ntmps25
  go_upto_region 1 with fail
  generalize w.alloc (.cells C 52) = u at *
  subst hb
  cases p
  · go_wp2
    go_ret
    exact ⟨rfl, b0⟩
  · go_wp2
    go_ret
    exact ⟨by cases q <;> rfl, b0⟩
set_option maxRecDepth 20000 in
theorem ne_run (f g : Fc) (w : World) : (binOp BinOp.neq 57 (.agg #[.int .i64 f.n, .int .i64 f.i, .int .i64 f.s, .bool f.g]) (.agg #[.int .i64 g.n, .int .i64 g.i, .int .i64 g.s, .bool g.g])).run Tryz.prog w = .ok (.bool (!decide (f.n = g.n ∧ f.i = g.i ∧ f.s = g.s ∧ f.g = g.g))) w := by
  obtain ⟨a, b, c, d⟩ := f
  obtain ⟨a', b', c', d'⟩ := g
  dsimp only
  by_cases h0 : a = a'
  · by_cases h1 : b = b'
    · by_cases h2 : c = c'
      · by_cases h3 : d = d'
        · subst h0 h1 h2 h3
          simp [go_sem]
        · have z : (d == d') = false := by simpa using h3
          subst h0 h1 h2
          simp [go_sem, z, h3]
      · have z : (c == c') = false := by simpa using h2
        subst h0 h1
        simp [go_sem, z, h2]
    · have z : (b == b') = false := by simpa using h1
      subst h0
      simp [go_sem, z, h1]
  · have z : (a == a') = false := by simpa using h0
    simp [go_sem, z, h0]
theorem ne_grd (x y : Operand) (a b : Array Value) (w : World) : (eqGuard .neq 57 x y (.agg a) (.agg b)).run Tryz.prog w = .ok () w := by kernel_rfl
theorem ne_q {x y : Operand} {a : Act} {A B : Array Value} {v : Value} {d : Option Nat} {w : World} (h : (binOp BinOp.neq 57 (.agg A) (.agg B)).run Tryz.prog w = .ok v w) (hx : a.eval x = .agg A := by rfl) (hy : a.eval y = .agg B := by rfl) : (execOp a.eval { dst := d, op := .binOp .neq 57 x y 57, type := 4, pos := "", after := #[], guard := none }).run Tryz.prog w = .ok (.value v) w := by
  simp only [execOp, Sem.run_bind, Sem.run_pure, hx, hy, ne_grd, h, Result.andThen_ok]
/-- two lists of facts are one -/
def fcB (m : Nat) (F : Nat → Fc) (n : Nat) (G : Nat → Fc) : Bool := decide (m = n ∧ ∀ k, k < m → (F k).n = (G k).n ∧ (F k).i = (G k).i ∧ (F k).s = (G k).s ∧ (F k).g = (G k).g)
theorem fc_no {m : Nat} {F : Nat → Fc} {n : Nat} {G : Nat → Fc} {k : Nat} (hk : k < m) (h : decide ((F k).n = (G k).n ∧ (F k).i = (G k).i ∧ (F k).s = (G k).s ∧ (F k).g = (G k).g) = false) : fcB m F n G = false := decide_eq_false fun ⟨_, q⟩ => of_decide_eq_false h (q k hk)
theorem fc_list {A B : List Fc} : fcB A.length (fun k => A.getD k Fc.zero) B.length (fun k => B.getD k Fc.zero) = true ↔ A = B := by
  unfold fcB
  rw [decide_eq_true_iff]
  constructor
  · rintro ⟨h1, h2⟩
    apply List.ext_getElem h1
    intro k hk hk'
    have := h2 k hk
    simp only [List.getD, List.getElem?_eq_getElem hk, List.getElem?_eq_getElem hk', Option.getD_some] at this
    obtain ⟨a, b, c, d⟩ := this
    cases hA : A[k]
    cases hB : B[k]
    simp_all
  · rintro rfl
    exact ⟨rfl, fun k _ => ⟨rfl, rfl, rfl, rfl⟩⟩
def s18_6 : List Stp := [⟨some 17, .move (.tmp 0), 32, none, 0⟩, ⟨some 18, .move (.tmp 5), 3, none, 0⟩, ⟨some 19, .indexAddr 32 (.tmp 17) (.tmp 18), 0, none, 0⟩, ⟨some 20, .load 57 (.tmp 19), 57, none, 0⟩, ⟨some 21, .move (.tmp 1), 32, none, 0⟩, ⟨some 22, .move (.tmp 5), 3, none, 0⟩, ⟨some 23, .indexAddr 32 (.tmp 21) (.tmp 22), 0, none, 0⟩, ⟨some 24, .load 57 (.tmp 23), 57, none, 0⟩, ⟨some 25, .binOp .neq 57 (.tmp 20) (.tmp 24) 57, 4, none, 2⟩]
def t18_6 : List (Nat × Nat) := [(0, 0), (1, 0), (2, 0), (3, 0), (4, 0), (5, 0), (6, 0), (7, 0), (8, 2)]
set_option maxRecDepth 20000 in
set_option maxHeartbeats 4000000 in
theorem fcs_any (a : Option Addr) (m c : Nat) (F : Nat → Fc) (a' : Option Addr) (n c' : Nat) (G : Nat → Fc) (w : World) (h : FSl w a m F) (h' : FSl w a' n G) (hm : m ≤ 1048576) (hn : n ≤ 1048576) :
    Calls Tryz.prog 18 #[.slice a m c, .slice a' n c'] w fun e w' => e = .returned (.bool (fcB m F n G)) ∧ Below w.heap.size w w' := by
  by_cases hmn : m = n
  · subst hmn
    have z : ((m : Int) == (m : Int)) = true := by simp
    go_enter Tryz.func18, Tryz.ntmps18
    go_wp2
    go_loopw [5] (fun i0 wr => ∃ k : Nat, k ≤ m ∧ i0 = .int .i64 k ∧ Below w.heap.size w wr ∧ (∀ j, j < k → (F j).n = (G j).n ∧ (F j).i = (G j).i ∧ (F j).s = (G j).s ∧ (F j).g = (G j).g)) (fun i0 _ => m - (intOf i0).toNat)
    case atStart => exact ⟨0, by omega, rfl, Below.refl _ _, fun j h1 => by omega⟩
    case round =>
      obtain ⟨k, hk, rfl, hb, hall⟩ := hrel
      by_cases hlt : k < m
      · obtain ⟨b, off, rfl, _, hf⟩ := (h.below hb) (by omega)
        obtain ⟨c0, c1, c2, c3⟩ := hf k hlt
        obtain ⟨b', off', rfl, _, hf'⟩ := (h'.below hb) (by omega)
        obtain ⟨d0, d1, d2, d3⟩ := hf' k hlt
        have i0 : (0 : Int) ≤ (k : Int) := by omega
        have i1 : (k : Int) < (m : Int) := by omega
        have hy : Hid (decide ((F k).n = (G k).n ∧ (F k).i = (G k).i ∧ (F k).s = (G k).s ∧ (F k).g = (G k).g) = false → fcB m F m G = false) := fun q => fc_no hlt q
        have hn : Hid (decide ((F k).n = (G k).n ∧ (F k).i = (G k).i ∧ (F k).s = (G k).s ∧ (F k).g = (G k).g) = true → ∀ j, j < k + 1 → (F j).n = (G j).n ∧ (F j).i = (G j).i ∧ (F j).s = (G j).s ∧ (F j).g = (G j).g) := fun q j hj => by
          by_cases e : j = k
          · subst e; exact of_decide_eq_true q
          · exact hall j (by omega)
        clear hall hf hf' hlt
        obtain ⟨f, hfx⟩ : ∃ x, Hid (F k = x) := ⟨_, rfl⟩
        obtain ⟨g, hgx⟩ : ∃ x, Hid (G k = x) := ⟨_, rfl⟩
        rw [hfx.out] at hy hn c0 c1 c2 c3
        rw [hgx.out] at hy hn d0 d1 d2 d3
        clear hfx hgx
        have er := ne_run f g
        obtain ⟨v, hv⟩ : ∃ v, Hid (decide (f.n = g.n ∧ f.i = g.i ∧ f.s = g.s ∧ f.g = g.g) = v) := ⟨_, rfl⟩
        rw [hv.out] at hy hn er
        clear hv
        have hrc := range4 c0 c1 c2 c3
        have hrx := range4 d0 d1 d2 d3
        clear c0 c1 c2 c3 d0 d1 d2 d3
        go_upto_region 6 with fail
        cases v
        · have hy' := hy.out rfl
          clear hn hy
          refine wp_region_q s18_6 t18_6 (fun hbq => ?_)
          iterate 3 refine qY ?_
          refine qR ?_
          iterate 3 refine qY ?_
          refine qR ?_
          refine qV (.bool true) (hy := fun w => ne_q (er w)) (h := ?_)
          refine qE ?_
          have hb1 := btrans hb hbq
          clear hrc hrx er hbq
          have hy2 : Hid (fcB m F m G = false) := hy'
          clear hy'
          go_wp2
          go_ret
          exact ⟨ret_bool hy2.out.symm, hb1⟩
        · have hn' := hn.out rfl
          clear hn hy
          refine wp_region_q s18_6 t18_6 (fun hbq => ?_)
          iterate 3 refine qY ?_
          refine qR ?_
          iterate 3 refine qY ?_
          refine qR ?_
          refine qV (.bool false) (hy := fun w => ne_q (er w)) (h := ?_)
          refine qE ?_
          have hb1 := btrans hb hbq
          clear hrc hrx er hbq
          go_wp2
          go_roundw
          case rel => exact ⟨k + 1, by omega, by go_num, hb1, hn'⟩
          case measure => simp [intOf]; omega
      · have e : k = m := by omega
        subst e
        have hn2 : Hid (fcB k F k G = true) := decide_eq_true ⟨rfl, hall⟩
        clear hall hlt hk
        go_wp2
        go_ret
        exact ⟨ret_bool hn2.out.symm, hb⟩
  · have z : ((m : Int) == (n : Int)) = false := by simp; omega
    have hn2 : Hid (fcB m F n G = false) := decide_eq_false fun q => hmn q.1
    clear hmn h h'
    go_enter Tryz.func18, Tryz.ntmps18
    go_wp2
    go_ret
    exact ⟨ret_bool hn2.out.symm, Below.refl _ _⟩
end Go.Proofs.YtoimfgfhlbkdcaaGreatDoor
/- Whether a view holds just who is awake: the program's way. -/
namespace Go.Proofs.YtoimfgfhlbkdcaaGreatDoor
open Go.ChangeShapes Go.WideShapes Go.ChangeAt Go.RowKit
attribute [local go_sem ↓] Go.wp_at_zero Go.wp_at_succ
/-- somebody is alive in a view -/
def alB (T : List Fc) (i : Nat) : Bool := (fo (fun k => T.getD k Fc.zero) (fnd T.length (fun k => T.getD k Fc.zero) (i : Int))).s == 1
/-- just who is awake is alive in a view -/
def jsB (nl : Nat) (nd : Nat → Nod) (T : List Fc) : Bool := decide (∀ i, i < nl → aw (nd i) = alB T i)
theorem js_no {nl : Nat} {nd : Nat → Nod} {T : List Fc} {i : Nat} (hi : i < nl) (h : aw (nd i) ≠ alB T i) : jsB nl nd T = false := decide_eq_false fun q => h (q i hi)
def s27_5 : List Stp := [⟨some 23, .load 52 (.tmp 6), 52, none, 0⟩, ⟨some 25, .fieldAddr 57 (.tmp 7) 2, 0, none, 0⟩, ⟨some 26, .load 3 (.tmp 25), 3, none, 0⟩, ⟨some 27, .binOp .eql 3 (.tmp 26) (.const (.int .i64 1)) 3, 4, none, 2⟩, ⟨some 24, .call { callee := .value (.func 25), args := #[.tmp 23], argTypes := #[52] }, 4, none, 1⟩, ⟨some 28, .binOp .neq 4 (.tmp 24) (.tmp 27) 4, 4, none, 2⟩]
def t27_5 : List (Nat × Nat) := [(0, 0), (2, 0), (3, 0), (4, 2), (1, 1), (5, 2)]
set_option maxRecDepth 20000 in
set_option maxHeartbeats 8000000 in
theorem sees_any (na : Option Addr) (nl nc : Nat) (ra : Option Addr) (rl rc : Nat) (sa : Option Addr) (sl sc : Nat) (ba : Option Addr) (bl bc : Nat) (nd : Nat → Nod) (FR : Nat → Ft) (SD : Nat → Int) (BF : Nat → Fc) (va : Option Addr) (vc : Nat) (T : List Fc) (w : World) (h : WdR w na nl ra rl sa sl ba bl nd FR SD BF) (hv : FSl w va T.length (fun k => T.getD k Fc.zero)) (hT : T.length ≤ 8) :
    Calls Tryz.prog 27 #[.agg #[.slice na nl nc, .slice ra rl rc, .slice sa sl sc, .slice ba bl bc], .slice va T.length vc] w fun e w' => e = .returned (.bool (jsB nl nd T)) ∧ Below w.heap.size w w' := by
  have b0 := balloc (.cells #[.slice na nl nc, .slice ra rl rc, .slice sa sl sc, .slice ba bl bc] 34) (Below.refl w.heap.size w)
  have X := Ws.box (w := w) #[.slice na nl nc, .slice ra rl rc, .slice sa sl sc, .slice ba bl bc] 34
  have h0 := h.below b0
  have hv0 := hv.below b0
  have hnl := h.hn
  clear h hv
  go_enter Tryz.func27, Tryz.ntmps27
  go_upto_region 1 with fail
  generalize w.alloc (.cells #[.slice na nl nc, .slice ra rl rc, .slice sa sl sc, .slice ba bl bc] 34) = u at *
  have e0 := X.c 0 (.slice na nl nc) rfl
  clear X
  go_wp2_with fail
  go_loopw [5, 6, 7, 8, 12] (fun _ _ _ _ i wr => ∃ k : Nat, k ≤ nl ∧ i = .int .i64 k ∧ Below u.heap.size u wr ∧ (∀ j, j < k → aw (nd j) = alB T j)) (fun _ _ _ _ i _ => nl - (intOf i).toNat)
  case atStart => exact ⟨0, Nat.zero_le _, rfl, Below.refl _ _, fun j h1 => by omega⟩
  case round =>
    obtain ⟨k, hk, rfl, hb, hall⟩ := hrel
    by_cases hlt : k < nl
    · obtain ⟨b, off, hna, _, hf⟩ := (h0.n.below hb) (by omega)
      obtain ⟨L, c1, c2⟩ := hf k hlt
      have i0 : (0 : Int) ≤ (k : Int) := by omega
      have i1 : (k : Int) < (nl : Int) := by omega
      have hno : Hid (aw (nd k) ≠ alB T k → jsB nl nd T = false) := fun q => js_no hlt q
      have hyes : Hid (aw (nd k) = alB T k → ∀ j, j < k + 1 → aw (nd j) = alB T j) := fun q j hj => by
        by_cases e : j = k
        · subst e; exact q
        · exact hall j (by omega)
      obtain ⟨f, hf0⟩ : ∃ f, Hid (fo (fun k => T.getD k Fc.zero) (fnd T.length (fun k => T.getD k Fc.zero) (k : Int)) = f) := ⟨_, rfl⟩
      obtain ⟨z, hz⟩ : ∃ z, Hid (fnd T.length (fun k => T.getD k Fc.zero) (k : Int) = z) := ⟨_, rfl⟩
      obtain ⟨ps, hps⟩ : ∃ q, Hid ((f.s == 1) = q) := ⟨_, rfl⟩
      have hal : Hid (alB T k = ps) := by
        unfold Hid alB
        rw [hf0.out, hps.out]
      rw [hal.out] at hno hyes
      clear hal hall hf
      have hfnd : ∀ w1, Below wr.heap.size wr w1 → Calls Tryz.prog 57 #[.slice va T.length vc, .int .i64 (k : Int)] w1 fun e w' => e = .returned (.tuple #[.agg #[.int .i64 f.n, .int .i64 f.i, .int .i64 f.s, .bool f.g], .bool z.isSome]) ∧ Below w1.heap.size w1 w' := fun w1 q => by
        rw [← hf0.out, ← hz.out]
        exact find_any va T.length vc (fun k => T.getD k Fc.zero) (k : Int) w1 ((hv0.below hb).below q) (by omega)
      clear hf0 hz
      generalize nd k = n at *
      obtain ⟨pa, hpa⟩ : ∃ q, Hid (aw n = q) := ⟨_, rfl⟩
      rw [hpa.out] at hno hyes
      have hBx := Ws.box (w := wr) #[.int .i64 0, .bool false, .bool false, .bool false, .int .i64 0, .int .i64 0, .int .i64 0, .int .i64 0, .slice none 0 0, .slice none 0 0, .int .i64 0, .int .i64 0, .int .i64 0, .bool false, .slice none 0 0, .int .i64 0, .int .i64 0, .int .i64 0, .int .i64 0, .slice none 0 0, .slice none 0 0] 52
      have hth := hBx.there (n := 21) rfl
      have hu1 : Below wr.heap.size wr ((wr.alloc (.cells #[.int .i64 0, .bool false, .bool false, .bool false, .int .i64 0, .int .i64 0, .int .i64 0, .int .i64 0, .slice none 0 0, .slice none 0 0, .int .i64 0, .int .i64 0, .int .i64 0, .bool false, .slice none 0 0, .int .i64 0, .int .i64 0, .int .i64 0, .int .i64 0, .slice none 0 0, .slice none 0 0] 52)).setCells wr.heap.size 0 (ndC n L).toList) := below_cells _ _ _ _ (Nat.le_refl _) (balloc _ (Below.refl _ _))
      have hrg := World.rangeAt_setCells_same (wr.alloc (.cells #[.int .i64 0, .bool false, .bool false, .bool false, .int .i64 0, .int .i64 0, .int .i64 0, .int .i64 0, .slice none 0 0, .slice none 0 0, .int .i64 0, .int .i64 0, .int .i64 0, .bool false, .slice none 0 0, .int .i64 0, .int .i64 0, .int .i64 0, .int .i64 0, .slice none 0 0, .slice none 0 0] 52)) wr.heap.size 0 (ndC n L).toList hth
      clear hBx
      rw [hna]
      go_upto_region 4 with (first | (refine wpList_load_mid rfl 52 _ rfl b (off + k * 21) rfl (ndC n L).toList _ c1 Tryz.underlying52 rfl size51 ?_) | (refine wpList_store_mid rfl 52 _ _ rfl wr.heap.size 0 (ndC n L) rfl rfl hth size51 (by kernel_rfl) ?_))
      clear hth c1
      generalize ((wr.alloc (.cells #[.int .i64 0, .bool false, .bool false, .bool false, .int .i64 0, .int .i64 0, .int .i64 0, .int .i64 0, .slice none 0 0, .slice none 0 0, .int .i64 0, .int .i64 0, .int .i64 0, .bool false, .slice none 0 0, .int .i64 0, .int .i64 0, .int .i64 0, .int .i64 0, .slice none 0 0, .slice none 0 0] 52)).setCells wr.heap.size 0 (ndC n L).toList) = v5 at *
      obtain ⟨an, han⟩ : ∃ an, Hid (wr.heap.size = an) := ⟨_, rfl⟩
      have hrg' : v5.rangeAt an 0 (ndC n L).toList := han.out ▸ hrg
      clear hrg
      rw [han.out]
      go_wp2_with fail
      refine (hfnd _ hu1).mono ?_
      rintro e v6 ⟨rfl, k6⟩
      have b6 := btrans hb (btrans hu1 k6)
      have hrx := range_below' hrg' k6
      clear hrg' k6 hu1 hfnd hb c2
      obtain ⟨fn, fi, fs, fg⟩ := f
      have b7 := balloc (.cells #[.int .i64 fn, .int .i64 fi, .int .i64 fs, .bool fg] 57) (Below.refl v6.heap.size v6)
      have d2 := (Ws.box (w := v6) #[.int .i64 fn, .int .i64 fi, .int .i64 fs, .bool fg] 57).c 2 (.int .i64 fs) rfl
      go_upto_region 5 with fail
      generalize v6.alloc (.cells #[.int .i64 fn, .int .i64 fi, .int .i64 fs, .bool fg] 57) = v7 at *
      have hr7 := range_below' hrx b7
      have b8 := btrans b6 b7
      clear b7 hrx b6
      generalize v6.heap.size = fb at *
      have zs : (fs == 1) = ps := hps.out
      clear hps
      cases ps
      · cases pa
        · have hy' := hyes.out rfl
          clear hyes hno
          refine wp_region_q s27_5 t27_5 (fun hbq => ?_)
          refine qR ?_
          refine qY ?_
          refine qL ?_
          refine qV (.bool false) ?_
          refine qC (fun K hK => ?_)
          go_simp
          refine (awk_any n L false hpa.out _).mono ?_; rintro r v9 ⟨rfl, k9⟩
          go_wp2_with fail
          refine hK.out _ _ (btrans hbq k9) (.inl ?_)
          clear hK K
          replace hbq := btrans hbq k9
          clear k9
          try simp only [putQ]
          refine qV (.bool false) ?_
          refine qE ?_
          have b9 := btrans b8 hbq
          clear hbq hr7 d2 zs b8
          go_wp2
          go_roundw
          case rel => exact ⟨k + 1, by omega, by go_num, b9, hy'⟩
          case measure => simp [intOf]; omega
        · have hn' : Hid (jsB nl nd T = false) := hno.out (by simp)
          clear hyes hno
          refine wp_region_q s27_5 t27_5 (fun hbq => ?_)
          refine qR ?_
          refine qY ?_
          refine qL ?_
          refine qV (.bool false) ?_
          refine qC (fun K hK => ?_)
          go_simp
          refine (awk_any n L true hpa.out _).mono ?_; rintro r v9 ⟨rfl, k9⟩
          go_wp2_with fail
          refine hK.out _ _ (btrans hbq k9) (.inl ?_)
          clear hK K
          replace hbq := btrans hbq k9
          clear k9
          try simp only [putQ]
          refine qV (.bool true) ?_
          refine qE ?_
          have b9 := btrans b8 hbq
          clear hbq hr7 d2 zs b8
          go_wp2
          go_ret
          exact ⟨ret_bool hn'.out.symm, btrans b0 b9⟩
      · cases pa
        · have hn' : Hid (jsB nl nd T = false) := hno.out (by simp)
          clear hyes hno
          refine wp_region_q s27_5 t27_5 (fun hbq => ?_)
          refine qR ?_
          refine qY ?_
          refine qL ?_
          refine qV (.bool true) ?_
          refine qC (fun K hK => ?_)
          go_simp
          refine (awk_any n L false hpa.out _).mono ?_; rintro r v9 ⟨rfl, k9⟩
          go_wp2_with fail
          refine hK.out _ _ (btrans hbq k9) (.inl ?_)
          clear hK K
          replace hbq := btrans hbq k9
          clear k9
          try simp only [putQ]
          refine qV (.bool true) ?_
          refine qE ?_
          have b9 := btrans b8 hbq
          clear hbq hr7 d2 zs b8
          go_wp2
          go_ret
          exact ⟨ret_bool hn'.out.symm, btrans b0 b9⟩
        · have hy' := hyes.out rfl
          clear hyes hno
          refine wp_region_q s27_5 t27_5 (fun hbq => ?_)
          refine qR ?_
          refine qY ?_
          refine qL ?_
          refine qV (.bool true) ?_
          refine qC (fun K hK => ?_)
          go_simp
          refine (awk_any n L true hpa.out _).mono ?_; rintro r v9 ⟨rfl, k9⟩
          go_wp2_with fail
          refine hK.out _ _ (btrans hbq k9) (.inl ?_)
          clear hK K
          replace hbq := btrans hbq k9
          clear k9
          try simp only [putQ]
          refine qV (.bool false) ?_
          refine qE ?_
          have b9 := btrans b8 hbq
          clear hbq hr7 d2 zs b8
          go_wp2
          go_roundw
          case rel => exact ⟨k + 1, by omega, by go_num, b9, hy'⟩
          case measure => simp [intOf]; omega
    · obtain rfl : k = nl := by omega
      have hy : Hid (jsB k nd T = true) := decide_eq_true hall
      clear hall
      go_wp2
      go_ret
      exact ⟨ret_bool hy.out.symm, btrans b0 hb⟩
end Go.Proofs.YtoimfgfhlbkdcaaGreatDoor
/- Whether all see the same: the program's way and the model's. -/
namespace Go.Proofs.YtoimfgfhlbkdcaaGreatDoor
open Go.ChangeShapes Go.WideShapes Go.ChangeAt Go.RowKit
attribute [local go_sem ↓] Go.wp_at_zero Go.wp_at_succ
/-- all who are awake see just who is awake, and the same -/
def smB (nl : Nat) (nd : Nat → Nod) (rl : Nat) (FR : Nat → Ft) (sl : Nat) (SD : Nat → Int) (bl : Nat) (BF : Nat → Fc) : Bool :=
  wldB nl nd rl FR sl SD bl BF && decide (∀ j, j < nl → aw (nd j) = true → jsB nl nd (viewN (nd j)) = true) && decide (∀ i, i < nl → ∀ j, j < nl → aw (nd i) = true → aw (nd j) = true → fcB (viewN (nd i)).length (fun k => (viewN (nd i)).getD k Fc.zero) (viewN (nd j)).length (fun k => (viewN (nd j)).getD k Fc.zero) = true)
theorem sm_w {nl : Nat} {nd : Nat → Nod} {rl : Nat} {FR : Nat → Ft} {sl : Nat} {SD : Nat → Int} {bl : Nat} {BF : Nat → Fc} (h : wldB nl nd rl FR sl SD bl BF = false) : smB nl nd rl FR sl SD bl BF = false := by unfold smB; rw [h]; rfl
theorem sm_js {nl : Nat} {nd : Nat → Nod} {rl : Nat} {FR : Nat → Ft} {sl : Nat} {SD : Nat → Int} {bl : Nat} {BF : Nat → Fc} {j : Nat} (hj : j < nl) (ha : aw (nd j) = true) (h : jsB nl nd (viewN (nd j)) = false) : smB nl nd rl FR sl SD bl BF = false := by
  cases e : smB nl nd rl FR sl SD bl BF
  · rfl
  · unfold smB at e
    rw [Bool.and_eq_true, Bool.and_eq_true, decide_eq_true_iff] at e
    rw [e.1.2 j hj ha] at h
    cases h
theorem sm_ne {nl : Nat} {nd : Nat → Nod} {rl : Nat} {FR : Nat → Ft} {sl : Nat} {SD : Nat → Int} {bl : Nat} {BF : Nat → Fc} {i j : Nat} (hi : i < nl) (hj : j < nl) (ha : aw (nd i) = true) (hb : aw (nd j) = true) (h : viewN (nd i) ≠ viewN (nd j)) : smB nl nd rl FR sl SD bl BF = false := by
  cases e : smB nl nd rl FR sl SD bl BF
  · rfl
  · unfold smB at e
    rw [Bool.and_eq_true, decide_eq_true_iff] at e
    exact absurd (fc_list.1 (e.2 i hi j hj ha hb)) h
theorem sm_yes {nl : Nat} {nd : Nat → Nod} {rl : Nat} {FR : Nat → Ft} {sl : Nat} {SD : Nat → Int} {bl : Nat} {BF : Nat → Fc} (hw : wldB nl nd rl FR sl SD bl BF = true) (hj : ∀ j, j < nl → aw (nd j) = true → jsB nl nd (viewN (nd j)) = true) (h : ∀ i j, i < nl → j < nl → aw (nd i) = true → aw (nd j) = true → viewN (nd i) = viewN (nd j)) : smB nl nd rl FR sl SD bl BF = true := by
  unfold smB
  rw [hw, Bool.and_eq_true, Bool.true_and, decide_eq_true_iff, decide_eq_true_iff]
  exact ⟨hj, fun i hi j hj ha hb => fc_list.2 (h i j hi hj ha hb)⟩
/-- a view's text -/
def vtx (n : Nod) : ByteArray := txt (viewN n).length (fun k => (viewN n).getD k Fc.zero)
theorem seq_get (T : List Fc) : seqF (fun k => T.getD k Fc.zero) T.length = T := by
  apply List.ext_getElem
  · simp [seqF]
  · intro k h1 h2
    simp [seqF, List.getD, h2]
theorem vtx_inj {m n : Nod} (h : vtx m = vtx n) : viewN m = viewN n := txt_inj (seq_get _) (seq_get _) (view_tok m) (view_tok n) h
/-- a view's key -/
def vky (n : Nod) : Lit := .string (vtx n).data.toList
theorem vky_inj {m n : Nod} (h : vky m = vky n) : viewN m = viewN n := vtx_inj (by
  unfold vky at h
  have h1 : (vtx m).data.toList = (vtx n).data.toList := by simpa using h
  exact ByteArray.ext (Array.toList_inj.1 h1))
/-- what the map holds behind k nodes -/
structure MI (nd : Nat → Nod) (k : Nat) (D : DataW Unit) : Prop where
  t : Maps.Tidy D
  a : ∀ q, Maps.has D q = true ↔ ∃ j, j < k ∧ aw (nd j) = true ∧ vky (nd j) = q
  z : Maps.size D = 0 ↔ ∀ j, j < k → aw (nd j) = false
  o : Maps.size D ≤ 1 ↔ ∀ i j, i < k → j < k → aw (nd i) = true → aw (nd j) = true → viewN (nd i) = viewN (nd j)
theorem MI.nil (nd : Nat → Nod) : MI nd 0 (.map []) := ⟨Maps.tidy_empty, fun q => ⟨fun h => by simp [Maps.has_eq] at h, fun ⟨j, h, _⟩ => by omega⟩, ⟨fun _ j h => by omega, fun _ => rfl⟩, ⟨fun _ i j h => by omega, fun _ => by simp [Maps.size_eq]⟩⟩
theorem MI.skip {nd : Nat → Nod} {k : Nat} {D : DataW Unit} (h : MI nd k D) (hk : aw (nd k) = false) : MI nd (k + 1) D := by
  have key : ∀ j, j < k + 1 → aw (nd j) = true → j < k := fun j hj ha => by
    rcases Nat.lt_or_ge j k with q | q
    · exact q
    · obtain rfl : j = k := by omega
      rw [hk] at ha
      cases ha
  refine ⟨h.t, fun q => (h.a q).trans ⟨fun ⟨j, h1, h2⟩ => ⟨j, by omega, h2⟩, fun ⟨j, h1, h2, h3⟩ => ⟨j, key j h1 h2, h2, h3⟩⟩, h.z.trans ⟨fun q j hj => ?_, fun q j hj => q j (by omega)⟩, h.o.trans ⟨fun q i j hi hj ha hb => q i j (key i hi ha) (key j hj hb) ha hb, fun q i j hi hj => q i j (by omega) (by omega)⟩⟩
  rcases Nat.lt_or_ge j k with e | e
  · exact q j e
  · obtain rfl : j = k := by omega
    exact hk
theorem MI.put {nd : Nat → Nod} {k : Nat} {D : DataW Unit} (h : MI nd k D) (hk : aw (nd k) = true) (d : DataW Unit) : MI nd (k + 1) (D.put (vky (nd k)) d) := by
  have hkl : WideAt.IsKeyLit (vky (nd k)) := by trivial
  have hsz := Maps.size_put (k := vky (nd k)) h.t d
  have low : ∀ j, j < k + 1 → j < k ∨ j = k := fun j hj => by omega
  refine ⟨h.t.put hkl d, fun q => ?_, ?_, ?_⟩
  · by_cases e : q = vky (nd k)
    · subst e
      rw [Maps.has_put_same h.t.isMap hkl]
      exact ⟨fun _ => ⟨k, by omega, hk, rfl⟩, fun _ => rfl⟩
    · rw [Maps.has_put_other e, h.a q]
      constructor
      · rintro ⟨j, h1, h2⟩
        exact ⟨j, by omega, h2⟩
      · rintro ⟨j, h1, h2, h3⟩
        rcases low j h1 with h4 | rfl
        · exact ⟨j, h4, h2, h3⟩
        · exact absurd h3.symm e
  · have n0 : Maps.size (D.put (vky (nd k)) d) ≠ 0 := by
      rw [hsz]
      split
      · rename_i hh
        obtain ⟨j, h1, h2, _⟩ := (h.a _).1 hh
        intro e
        rw [h.z.1 e j h1] at h2
        cases h2
      · omega
    exact ⟨fun e => absurd e n0, fun q => by rw [q k (by omega)] at hk; cases hk⟩
  · rw [hsz]
    by_cases hh : Maps.has D (vky (nd k)) = true
    · rw [if_pos hh, h.o]
      obtain ⟨m, m1, m2, m3⟩ := (h.a _).1 hh
      have em := vky_inj m3
      constructor
      · intro q i j hi hj ha hb
        rcases low i hi with hi | rfl <;> rcases low j hj with hj | rfl
        · exact q i j hi hj ha hb
        · rw [← em]; exact q i m hi m1 ha m2
        · rw [← em]; exact q m j m1 hj m2 hb
        · rfl
      · exact fun q i j hi hj => q i j (by omega) (by omega)
    · rw [if_neg hh]
      constructor
      · intro q i j hi hj ha hb
        have z := h.z.1 (by omega)
        rcases low i hi with hi | rfl <;> rcases low j hj with hj | rfl
        · rw [z i hi] at ha; cases ha
        · rw [z i hi] at ha; cases ha
        · rw [z j hj] at hb; cases hb
        · rfl
      · intro q
        have z : Maps.size D = 0 := h.z.2 fun j hj => by
          cases e : aw (nd j)
          · rfl
          · exact absurd ((h.a _).2 ⟨j, hj, e, by unfold vky vtx; rw [q j k (by omega) (by omega) e hk]⟩) hh
        omega
end Go.Proofs.YtoimfgfhlbkdcaaGreatDoor
