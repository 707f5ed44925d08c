/- What a node sees: one site behind the other is what is joined. -/
import Derived.Test.YtdlaenbiamknlaaGreatNd17
import Derived.Test.YtdlaenbiamknlaaGreatJn
import Derived.Test.YtdlaenbiamknlaaGreatNd25
import Derived.Test.YtdlaenbiamknlaaGreatNd12
import Derived.Test.YtdlaenbiamknlaaGreatWk
import Derived.Test.YtdlaenbiamknlaaGreatNd27
import Derived.Test.YtdlaenbiamknlaaGreatNd40
namespace Go.Proofs.YtdlaenbiamknlaaGreat
open Go.ChangeShapes Go.WideShapes Go.ChangeAt Go.RowKit
/-- what the first k others tell of a site -/
def osg (GO : Nat → Fg) (s : Int) : Nat → List Fc
  | 0 => []
  | k + 1 => osg GO s k ++ (if (GO k).n = s then seqF (GO k).bf (GO k).bl else [])
/-- what is known of a site -/
def seg (me : Int) (tl : Nat) (F : Nat → Fc) (ol : Nat) (GO : Nat → Fg) (s : Int) : List Fc := (if s = ste me then seqF F tl else []) ++ osg GO s ol
/-- all that is seen, site by site -/
def vws (me : Int) (tl : Nat) (F : Nat → Fc) (ol : Nat) (GO : Nat → Fg) : List Fc := seg me tl F ol GO 0 ++ seg me tl F ol GO 1
/-- all that is seen, joined -/
def vjs (tl : Nat) (F : Nat → Fc) (GO : Nat → Fg) : Nat → List Fc
  | 0 => seqF F tl
  | k + 1 => tjoin (vjs tl F GO k) (seqF (GO k).bf (GO k).bl)
theorem tput_mid (f : Fc) (R : List Fc) (hR : ∀ r ∈ R, f.n < r.n) : ∀ P : List Fc, (∀ p ∈ P, p.n < f.n) → tput (P ++ R) f = P ++ f :: R
  | [], _ => by
    cases R with
    | nil => rfl
    | cons g r =>
      have h := hR g (List.mem_cons_self ..)
      rw [List.nil_append, tput, if_neg (by omega), if_neg (by omega)]
      rfl
  | g :: P, hP => by
    have h := hP g (List.mem_cons_self ..)
    rw [List.cons_append, tput, if_pos h, tput_mid f R hR P (fun p hp => hP p (List.mem_cons_of_mem _ hp))]
    rfl
theorem tjoin_hi (T : List Fc) (G : Nat → Fc) (len : Nat) (hG : ∀ j k, j < k → k < len → (G j).n < (G k).n) (h : ∀ p ∈ T, ∀ k, k < len → p.n < (G k).n) : ∀ n, n ≤ len → tjoin T (seqF G n) = T ++ seqF G n
  | 0, _ => by simp [tjoin, seqF]
  | n + 1, hn => by
    rw [tjoin_succ, tjoin_hi T G len hG h n (by omega), seqF_succ, ← List.append_assoc]
    have := tput_mid (G n) [] (by simp) (T ++ seqF G n) (fun p hp => by
      rcases List.mem_append.1 hp with q | q
      · exact h p q n (by omega)
      · obtain ⟨k, hk, rfl⟩ := seqF_mem q
        exact hG k n hk (by omega))
    simpa using this
theorem tjoin_lo (T : List Fc) (G : Nat → Fc) (len : Nat) (hG : ∀ j k, j < k → k < len → (G j).n < (G k).n) (h : ∀ p ∈ T, ∀ k, k < len → (G k).n < p.n) : ∀ n, n ≤ len → tjoin T (seqF G n) = seqF G n ++ T
  | 0, _ => by simp [tjoin, seqF]
  | n + 1, hn => by
    rw [tjoin_succ, tjoin_lo T G len hG h n (by omega), seqF_succ, tput_mid (G n) T (fun r hr => h r hr n (by omega)) (seqF G n) (fun p hp => by
      obtain ⟨k, hk, rfl⟩ := seqF_mem hp
      exact hG k n hk (by omega))]
    simp
theorem ste_cases {n : Int} (h : inb n 0 7 = true) : (ste n = 0 ∧ n ≤ 3) ∨ (ste n = 1 ∧ 4 ≤ n) := by
  unfold inb at h
  simp only [Bool.and_eq_true, decide_eq_true_eq] at h
  have : n = 0 ∨ n = 1 ∨ n = 2 ∨ n = 3 ∨ n = 4 ∨ n = 5 ∨ n = 6 ∨ n = 7 := by omega
  rcases this with rfl | rfl | rfl | rfl | rfl | rfl | rfl | rfl <;> decide +kernel
theorem fok_in {f : Fc} (h : fok f = true) : inb f.n 0 7 = true := by
  unfold fok fokB at h
  simp only [Bool.and_eq_true] at h
  first | exact h.1.1 | exact h.1
structure NdSee (me : Int) (tl : Nat) (F : Nat → Fc) (ol : Nat) (GO : Nat → Fg) : Prop where
  m : inb me 0 7 = true
  t : tokB tl F = true
  ts : ∀ k, k < tl → ste (F k).n = ste me
  oa : ∀ k, k < ol → 0 < k → (GO (k - 1)).n < (GO k).n
  o : ∀ k, k < ol → inb (GO k).n 0 1 = true ∧ (GO k).n ≠ ste me ∧ tokB (GO k).bl (GO k).bf = true ∧ ∀ j, j < (GO k).bl → ste ((GO k).bf j).n = (GO k).n
theorem nod_see (me : Int) (up gone gate : Bool) (inc now sq turn : Int) (tl : Nat) (F : Nat → Fc) (cl : Nat) (GI : Nat → It) (pn ps pq : Int) (pa : Bool) (dl : Nat) (GD : Nat → Dt) (cx cy ch ce : Int) (pll : Nat) (GP : Nat → Pl) (ol : Nat) (GO : Nat → Fg) (h : nodB me up gone gate inc now sq turn tl F cl GI pn ps pq pa dl GD cx cy ch ce pll GP ol GO = true) (hu : up = true) : NdSee me tl F ol GO := by
  unfold nodB at h
  rw [Bool.and_eq_true, Bool.or_eq_true] at h
  obtain ⟨h1, h2⟩ := h
  rcases h2 with h2 | h2
  · unfold dwn at h2
    simp [hu] at h2
  · rw [Bool.and_eq_true] at h2
    have h3 := h2.2
    unfold upB at h3
    simp only [Bool.and_eq_true] at h3
    have h4 := h3.1.1.1.1.1.2
    have h5 := h3.2
    unfold tbB sitB at h4
    simp only [Bool.and_eq_true, decide_eq_true_eq] at h4
    unfold numB at h1
    simp only [Bool.and_eq_true] at h1
    unfold othsB Fgasc risB otA at h5
    rw [Bool.and_eq_true, decide_eq_true_iff, decide_eq_true_iff] at h5
    refine ⟨h1.1.1.1.1, h4.1.1, h4.1.2, h5.1, fun k hk => ?_⟩
    have h6 := h5.2 k hk
    unfold othB sitB at h6
    simp only [Bool.and_eq_true, decide_eq_true_eq] at h6
    exact ⟨h6.1.1.1.1, h6.1.1.1.2, h6.1.2, h6.2⟩
theorem view_same {me : Int} {tl : Nat} {F : Nat → Fc} {ol : Nat} {GO : Nat → Fg} (h : NdSee me tl F ol GO) : vjs tl F GO ol = vws me tl F ol GO := by
  obtain ⟨t1, t2⟩ := tok_all h.t
  have hol : ol ≤ 1 := by
    rcases Nat.lt_or_ge 1 ol with q | q
    · exfalso
      have a0 := h.o 0 (by omega)
      have a1 := h.o 1 (by omega)
      have a2 := h.oa 1 (by omega) (by omega)
      have e0 := a0.1
      have e1 := a1.1
      unfold inb at e0 e1
      simp only [Bool.and_eq_true, decide_eq_true_eq] at e0 e1
      have n0 := a0.2.1
      have n1 := a1.2.1
      simp only [Nat.sub_self] at a2
      rcases ste_cases h.m with ⟨s, _⟩ | ⟨s, _⟩ <;> omega
    · exact q
  have hT : ∀ p ∈ seqF F tl, ∃ k, k < tl ∧ F k = p := fun p hp => seqF_mem hp
  rcases Nat.eq_zero_or_pos ol with e | e
  · subst e
    rcases ste_cases h.m with ⟨s, _⟩ | ⟨s, _⟩ <;> simp [vjs, vws, seg, osg, s]
  · have e1 : ol = 1 := by omega
    subst e1
    obtain ⟨o1, o2, o3, o4⟩ := h.o 0 (by omega)
    obtain ⟨u1, u2⟩ := tok_all o3
    unfold inb at o1
    simp only [Bool.and_eq_true, decide_eq_true_eq] at o1
    have hv : vjs tl F GO 1 = tjoin (seqF F tl) (seqF (GO 0).bf (GO 0).bl) := rfl
    rw [hv]
    rcases ste_cases h.m with ⟨s, _⟩ | ⟨s, _⟩
    · have en : (GO 0).n = 1 := by omega
      rw [tjoin_hi (seqF F tl) (GO 0).bf (GO 0).bl u2 (fun p hp k hk => by
        obtain ⟨j, hj, rfl⟩ := hT p hp
        have c1 := ste_cases (fok_in (t1 j hj))
        have c2 := ste_cases (fok_in (u1 k hk))
        have c3 := h.ts j hj
        have c4 := o4 k hk
        omega) _ (Nat.le_refl _)]
      simp [vws, seg, osg, s, en]
    · have en : (GO 0).n = 0 := by omega
      rw [tjoin_lo (seqF F tl) (GO 0).bf (GO 0).bl u2 (fun p hp k hk => by
        obtain ⟨j, hj, rfl⟩ := hT p hp
        have c1 := ste_cases (fok_in (t1 j hj))
        have c2 := ste_cases (fok_in (u1 k hk))
        have c3 := h.ts j hj
        have c4 := o4 k hk
        omega) _ (Nat.le_refl _)]
      simp [vws, seg, osg, s, en]
end Go.Proofs.YtdlaenbiamknlaaGreat
/- Nodes: what they see, by the program and by the model. -/
namespace Go.Proofs.YtdlaenbiamknlaaGreat
open Go.ChangeShapes Go.WideShapes Go.ChangeAt Go.RowKit
attribute [local go_sem ↓] Go.wp_at_zero Go.wp_at_succ
def s19_1 : List Stp := [⟨some 6, .load 42 (.tmp 1), 42, none, 0⟩, ⟨some 7, .call { callee := .value (.func 40), args := #[.tmp 6], argTypes := #[42] }, 4, none, 1⟩, ⟨some 8, .unOp .not 4 (.tmp 7), 4, none, 0⟩, ⟨some 9, .move (.tmp 8), 4, none, 0⟩, ⟨some 10, .fieldAddr 42 (.tmp 1) 1, 0, some (9, false), 0⟩, ⟨some 11, .load 4 (.tmp 10), 4, some (9, false), 0⟩, ⟨some 12, .unOp .not 4 (.tmp 11), 4, some (9, false), 0⟩, ⟨some 13, .pick (.tmp 9) (.const (.bool true)) (.tmp 12), 4, none, 0⟩]
def t19_1 : List (Nat × Nat) := [(0, 0), (1, 1), (2, 0), (3, 0), (4, 0), (5, 0), (6, 0), (7, 0)]
def s18_2 : List Stp := [⟨some 7, .load 42 (.tmp 1), 42, none, 0⟩, ⟨some 8, .call { callee := .value (.func 28), args := #[.tmp 7], argTypes := #[42] }, 4, none, 1⟩, ⟨some 9, .unOp .not 4 (.tmp 8), 4, none, 0⟩, ⟨some 10, .move (.tmp 9), 4, none, 0⟩, ⟨some 11, .fieldAddr 42 (.tmp 1) 1, 0, some (10, false), 0⟩, ⟨some 12, .load 4 (.tmp 11), 4, some (10, false), 0⟩, ⟨some 13, .unOp .not 4 (.tmp 12), 4, some (10, false), 0⟩, ⟨some 14, .pick (.tmp 10) (.const (.bool true)) (.tmp 13), 4, none, 0⟩]
def t18_2 : List (Nat × Nat) := [(0, 0), (1, 1), (2, 0), (3, 0), (4, 0), (5, 0), (6, 0), (7, 0)]
theorem fsl_cells {w : World} {g len : Nat} {F : Nat → Fc} (h : FSl w (some ⟨g, 0, none⟩) len F) : ∀ j u, (fl (seqF F len))[j]? = some u → w.cell? ((⟨g, 0, none⟩ : Addr).add j) = some u := by
  rcases Nat.eq_zero_or_pos len with e | e
  · subst e
    intro j u hj
    simp [seqF, fl] at hj
  · obtain ⟨b, off, e2, _, hf⟩ := h e
    injection e2 with e2
    injection e2 with e3 e4
    subst e3 e4
    exact facts_cell (fun k hk => by
      have := hf k hk
      have e : (seqF F len).getD k Fc.zero = F k := by simp [List.getD, seqF, hk]
      simp only [e]
      exact this) (seqF_len F len)
theorem fsl_congr {w : World} {a : Option Addr} {len : Nat} {F G : Nat → Fc} (h : FSl w a len F) (e : ∀ k, k < len → F k = G k) : FSl w a len G := fun hl => by
  obtain ⟨b, off, rfl, hb, hf⟩ := h hl
  exact ⟨b, off, rfl, hb, fun k hk => by rw [← e k hk]; exact hf k hk⟩
set_option maxHeartbeats 1000000 in
theorem copiedF_any (g len cap : Nat) (F : Nat → Fc) (w : World) (h : FSl w (some ⟨g, 0, none⟩) len F) (hl : len ≤ 1048576) :
    Calls Tryz.prog 67 #[.slice (some ⟨g, 0, none⟩) len cap] w fun e w' => ∃ v, e = .returned v ∧ w'.ownsRow w.heap.size 98 4 v len (fl (seqF F len)) ∧ Below w.heap.size w w' := by
  obtain ⟨ti, hi, hz0, hz1, hz2⟩ := info_parts info24
  go_enter Tryz.func67, Tryz.ntmps67
  go_wp2_with (at_builtin; refine wpList_append_own _ rfl _ _ 34 rfl w.heap.size 98 ti (fval Fc.zero) 4 32 Tryz.underlying34 hi hz0 hz1 hz2 rfl (by decide) _ _ _ rfl (World.ownsRow_nil w w.heap.size 98 4) ⟨g, 0, none⟩ len cap (fl (seqF F len)) rfl (by rw [fl_len, seqF_len]) (fsl_cells h) fl_one ?c3 ?c4 ?c5 ?_)
  case c3 => unfold maxLen; omega
  case c4 => omega
  case c5 => exact Nat.le_refl _
  · intro v' w2 hown' hgrow _
    have B2 := (Below.refl w.heap.size w).grown hgrow (Nat.le_refl _) (fun k hk => by cases hk)
    go_wp2
    go_ret
    exact ⟨_, rfl, hown', B2⟩
theorem see_one {me : Int} {tl : Nat} {F : Nat → Fc} {ol : Nat} {GO : Nat → Fg} (h : NdSee me tl F ol GO) : ol ≤ 1 := by
  rcases Nat.lt_or_ge 1 ol with q | q
  · exfalso
    have a0 := h.o 0 (by omega)
    have a1 := h.o 1 (by omega)
    have a2 := h.oa 1 (by omega) (by omega)
    have e0 := a0.1
    have e1 := a1.1
    unfold inb at e0 e1
    simp only [Bool.and_eq_true, decide_eq_true_eq] at e0 e1
    have n0 := a0.2.1
    have n1 := a1.2.1
    simp only [Nat.sub_self] at a2
    rcases ste_cases h.m with ⟨s, _⟩ | ⟨s, _⟩ <;> omega
  · exact q
/-- all that a node sees -/
def viewL (q up : Bool) (me : Int) (tl : Nat) (F : Nat → Fc) (ol : Nat) (GO : Nat → Fg) : List Fc := if q && up then vws me tl F ol GO else []
def ViR (e : Ending) (base : Nat) (w' : World) (T : List Fc) : Prop := ∃ v, e = .returned v ∧ w'.ownsRow base 98 4 v T.length (fl T)
theorem nodeOkI_lit (me : Int) (up gone gate : Bool) (inc now sq turn : Int) (ta : Option Addr) (tl tc : Nat) (ca : Option Addr) (cl cc : Nat) (pn ps pq : Int) (pa : Bool) (da : Option Addr) (dl dc : Nat) (cx cy ch ce : Int) (pla : Option Addr) (pll plc : Nat) (oa : Option Addr) (ol oc : Nat) (F : Nat → Fc) (GI : Nat → It) (GD : Nat → Dt) (GP : Nat → Pl) (GO : Nat → Fg) (b : Bool) (hb : nodB me up gone gate inc now sq turn tl F cl GI pn ps pq pa dl GD cx cy ch ce pll GP ol GO = b) (w : World) (h : NdIn w ta tl F ca cl GI da dl GD pla pll GP oa ol GO) :
    Calls Tryz.prog 40 #[.agg #[.int .i64 me, .bool up, .bool gone, .bool gate, .int .i64 inc, .int .i64 now, .int .i64 sq, .int .i64 turn, .slice ta tl tc, .slice ca cl cc, .int .i64 pn, .int .i64 ps, .int .i64 pq, .bool pa, .slice da dl dc, .int .i64 cx, .int .i64 cy, .int .i64 ch, .int .i64 ce, .slice pla pll plc, .slice oa ol oc]] w fun r w' => r = .returned (.bool b) ∧ Below w.heap.size w w' := hb ▸ nodeOk11_any me up gone gate inc now sq turn ta tl tc ca cl cc pn ps pq pa da dl dc cx cy ch ce pla pll plc oa ol oc F GI GD GP GO w h
theorem nodeOkS_lit (me : Int) (up gone gate : Bool) (inc now sq turn : Int) (ta : Option Addr) (tl tc : Nat) (ca : Option Addr) (cl cc : Nat) (pn ps pq : Int) (pa : Bool) (da : Option Addr) (dl dc : Nat) (cx cy ch ce : Int) (pla : Option Addr) (pll plc : Nat) (oa : Option Addr) (ol oc : Nat) (F : Nat → Fc) (GI : Nat → It) (GD : Nat → Dt) (GP : Nat → Pl) (GO : Nat → Fg) (b : Bool) (hb : snodB me up gone gate inc now sq turn tl F cl GI pn ps pq pa dl GD cx cy ch ce pll GP ol GO = b) (w : World) (h : NdIn w ta tl F ca cl GI da dl GD pla pll GP oa ol GO) :
    Calls Tryz.prog 28 #[.agg #[.int .i64 me, .bool up, .bool gone, .bool gate, .int .i64 inc, .int .i64 now, .int .i64 sq, .int .i64 turn, .slice ta tl tc, .slice ca cl cc, .int .i64 pn, .int .i64 ps, .int .i64 pq, .bool pa, .slice da dl dc, .int .i64 cx, .int .i64 cy, .int .i64 ch, .int .i64 ce, .slice pla pll plc, .slice oa ol oc]] w fun r w' => r = .returned (.bool b) ∧ Below w.heap.size w w' := hb ▸ nodeOk9_any me up gone gate inc now sq turn ta tl tc ca cl cc pn ps pq pa da dl dc cx cy ch ce pla pll plc oa ol oc F GI GD GP GO w h
set_option maxRecDepth 20000 in
set_option maxHeartbeats 4000000 in
theorem view19_any (me : Int) (up gone gate : Bool) (inc now sq turn : Int) (tb : Nat) (tl tc : Nat) (ca : Option Addr) (cl cc : Nat) (pn ps pq : Int) (pa : Bool) (da : Option Addr) (dl dc : Nat) (cx cy ch ce : Int) (pla : Option Addr) (pll plc : Nat) (oa : Option Addr) (ol oc : Nat) (F : Nat → Fc) (GI : Nat → It) (GD : Nat → Dt) (GP : Nat → Pl) (GO : Nat → Fg) (w : World) (h : NdIn w (some ⟨tb, 0, none⟩) tl F ca cl GI da dl GD pla pll GP oa ol GO) (hOa : ∀ j, j < ol → ∃ bb, (GO j).ba = some ⟨bb, 0, none⟩) :
    Calls Tryz.prog 19 #[.agg #[.int .i64 me, .bool up, .bool gone, .bool gate, .int .i64 inc, .int .i64 now, .int .i64 sq, .int .i64 turn, .slice (some ⟨tb, 0, none⟩) tl tc, .slice ca cl cc, .int .i64 pn, .int .i64 ps, .int .i64 pq, .bool pa, .slice da dl dc, .int .i64 cx, .int .i64 cy, .int .i64 ch, .int .i64 ce, .slice pla pll plc, .slice oa ol oc]] w fun e w' => ViR e w.heap.size w' (viewL (nodB me up gone gate inc now sq turn tl F cl GI pn ps pq pa dl GD cx cy ch ce pll GP ol GO) up me tl F ol GO) ∧ Below w.heap.size w w' := by
  have b0 := balloc (.cells #[.int .i64 me, .bool up, .bool gone, .bool gate, .int .i64 inc, .int .i64 now, .int .i64 sq, .int .i64 turn, .slice (some ⟨tb, 0, none⟩) tl tc, .slice ca cl cc, .int .i64 pn, .int .i64 ps, .int .i64 pq, .bool pa, .slice da dl dc, .int .i64 cx, .int .i64 cy, .int .i64 ch, .int .i64 ce, .slice pla pll plc, .slice oa ol oc] 42) (Below.refl w.heap.size w)
  have X := Ws.box (w := w) #[.int .i64 me, .bool up, .bool gone, .bool gate, .int .i64 inc, .int .i64 now, .int .i64 sq, .int .i64 turn, .slice (some ⟨tb, 0, none⟩) tl tc, .slice ca cl cc, .int .i64 pn, .int .i64 ps, .int .i64 pq, .bool pa, .slice da dl dc, .int .i64 cx, .int .i64 cy, .int .i64 ch, .int .i64 ce, .slice pla pll plc, .slice oa ol oc] 42
  go_enter Tryz.func19, Tryz.ntmps19
  go_upto_region 1 with fail
  generalize w.alloc (.cells #[.int .i64 me, .bool up, .bool gone, .bool gate, .int .i64 inc, .int .i64 now, .int .i64 sq, .int .i64 turn, .slice (some ⟨tb, 0, none⟩) tl tc, .slice ca cl cc, .int .i64 pn, .int .i64 ps, .int .i64 pq, .bool pa, .slice da dl dc, .int .i64 cx, .int .i64 cy, .int .i64 ch, .int .i64 ce, .slice pla pll plc, .slice oa ol oc] 42) = u at *
  have h0 := h.below b0
  have r0 : u.rangeAt w.heap.size 0 [.int .i64 me, .bool up, .bool gone, .bool gate, .int .i64 inc, .int .i64 now, .int .i64 sq, .int .i64 turn, .slice (some ⟨tb, 0, none⟩) tl tc, .slice ca cl cc, .int .i64 pn, .int .i64 ps, .int .i64 pq, .bool pa, .slice da dl dc, .int .i64 cx, .int .i64 cy, .int .i64 ch, .int .i64 ce, .slice pla pll plc, .slice oa ol oc] := X.range
  have d1 := X.c 1 (.bool up) rfl
  clear h
  cases zb0 : nodB me up gone gate inc now sq turn tl F cl GI pn ps pq pa dl GD cx cy ch ce pll GP ol GO
  · have yb0 : Hid (nodB me up gone gate inc now sq turn tl F cl GI pn ps pq pa dl GD cx cy ch ce pll GP ol GO = false) := zb0
    clear zb0
    refine wp_region_q0 s19_1 t19_1 (fun hbq => ?_)
    refine qR ?_
    refine qC (fun K hK => ?_)
    go_simp
    refine (nodeOkI_lit me up gone gate inc now sq turn (some ⟨tb, 0, none⟩) tl tc ca cl cc pn ps pq pa da dl dc cx cy ch ce pla pll plc oa ol oc F GI GD GP GO false yb0.out _ (h0.below hbq)).mono ?_; rintro r w5 ⟨rfl, k5⟩
    go_wp2_with fail
    refine hK.out _ _ (btrans hbq k5) (.inl ?_)
    clear hK K
    replace hbq := btrans hbq k5
    clear k5
    try simp only [putQ]
    iterate 2 refine qY ?_
    iterate 3 refine qN ?_
    refine qY ?_
    refine qE ?_
    go_wp2
    try simp only [Exit.inBlock, Exit.then]
    exact bodyPost_ret (v := .slice none 0 0) (by simp [results, Tryz.results19, go_sem]) rfl ⟨⟨_, rfl, by rw [viewL, yb0.out]; exact World.ownsRow_nil _ _ _ _⟩, btrans b0 hbq⟩
  · have yb0 : Hid (nodB me up gone gate inc now sq turn tl F cl GI pn ps pq pa dl GD cx cy ch ce pll GP ol GO = true) := zb0
    clear zb0
    cases up
    · skip
      refine wp_region_q0 s19_1 t19_1 (fun hbq => ?_)
      refine qR ?_
      refine qC (fun K hK => ?_)
      go_simp
      refine (nodeOkI_lit me false gone gate inc now sq turn (some ⟨tb, 0, none⟩) tl tc ca cl cc pn ps pq pa da dl dc cx cy ch ce pla pll plc oa ol oc F GI GD GP GO true yb0.out _ (h0.below hbq)).mono ?_; rintro r w5 ⟨rfl, k5⟩
      go_wp2_with fail
      refine hK.out _ _ (btrans hbq k5) (.inl ?_)
      clear hK K
      replace hbq := btrans hbq k5
      clear k5
      try simp only [putQ]
      iterate 3 refine qY ?_
      refine qL ?_
      iterate 2 refine qY ?_
      refine qE ?_
      go_wp2
      try simp only [Exit.inBlock, Exit.then]
      exact bodyPost_ret (v := .slice none 0 0) (by simp [results, Tryz.results19, go_sem]) rfl ⟨⟨_, rfl, by rw [viewL, yb0.out]; exact World.ownsRow_nil _ _ _ _⟩, btrans b0 hbq⟩
    · skip
      refine wp_region_q0 s19_1 t19_1 (fun hbq => ?_)
      refine qR ?_
      refine qC (fun K hK => ?_)
      go_simp
      refine (nodeOkI_lit me true gone gate inc now sq turn (some ⟨tb, 0, none⟩) tl tc ca cl cc pn ps pq pa da dl dc cx cy ch ce pla pll plc oa ol oc F GI GD GP GO true yb0.out _ (h0.below hbq)).mono ?_; rintro r w5 ⟨rfl, k5⟩
      go_wp2_with fail
      refine hK.out _ _ (btrans hbq k5) (.inl ?_)
      clear hK K
      replace hbq := btrans hbq k5
      clear k5
      try simp only [putQ]
      iterate 3 refine qY ?_
      refine qL ?_
      iterate 2 refine qY ?_
      refine qE ?_
      have b1 := btrans b0 hbq
      have h1 := h0.below hbq
      have d8 := (X.below hbq).c 8 (.slice (some ⟨tb, 0, none⟩) tl tc) rfl
      have d20 := (X.below hbq).c 20 (.slice oa ol oc) rfl
      have hsee := nod_see me true gone gate inc now sq turn tl F cl GI pn ps pq pa dl GD cx cy ch ce pll GP ol GO yb0.out rfl
      have ho1 := see_one hsee
      have hg : Hid (viewL (nodB me true gone gate inc now sq turn tl F cl GI pn ps pq pa dl GD cx cy ch ce pll GP ol GO) true me tl F ol GO = vjs tl F GO ol) := by rw [Hid, viewL, yb0.out, view_same hsee]; rfl
      clear hbq h0 b0 r0 X d1
      go_wp2_with fail
      refine (copiedF_any tb tl tc F _ h1.f h1.hf).mono ?_
      rintro r w6 ⟨v6, rfl, o6, k6⟩
      have b6 := btrans b1 k6
      have h6 := h1.below k6
      have e20 := keep_below k6 d20
      have o6' := own_mono b1.size o6
      clear b1 h1 d8 d20 k6 o6
      go_wp2
      go_loopw [3, 5, 20] (fun v _ i wr => ∃ k : Nat, k ≤ ol ∧ i = .int .i64 k ∧ wr.ownsRow w.heap.size 98 4 v (vjs tl F GO k).length (fl (vjs tl F GO k)) ∧ Below w6.heap.size w6 wr) (fun _ _ i _ => ol - (intOf i).toNat)
      case atStart => exact ⟨0, by omega, rfl, by rw [vjs, seqF_len]; exact o6', Below.refl _ _⟩
      case round =>
        obtain ⟨k, hk, rfl, hown, hb⟩ := hrel
        by_cases hlt : k < ol
        · obtain rfl : k = 0 := by omega
          simp only [vjs, seqF_len] at hown
          obtain ⟨av, cv, rfl, _, _, hS0⟩ := own_facts hown
          have hS := fsl_congr (G := F) hS0 (fun k hk => by simp [List.getD, seqF, hk])
          obtain ⟨b, off, rfl, hbl, hf⟩ := h6.o (by omega)
          obtain ⟨c0, c1⟩ := (hf.below hb hbl) 0 hlt
          have hO := (h6.ob 0 hlt).1.below hb
          have hOl := (h6.ob 0 hlt).2
          have hv1 : Hid (vjs tl F GO (0 + 1) = tj tl F (GO 0).bl (GO 0).bf) := by
            rw [Hid, vjs, vjs, tj, hsee.t, (hsee.o 0 hlt).2.2.1]; rfl
          simp only [Nat.zero_mul, Nat.add_zero] at c0 c1
          generalize GO 0 = x at c0 c1 hO hOl hv1
          obtain ⟨n, ba, bl, bc, bf⟩ := x
          dsimp only at c0 c1 hO hOl hv1
          have i1 : (0 : Int) < (ol : Int) := by omega
          have kk := balloc (.cells #[.int .i64 n, .slice ba bl bc] 103) (Below.refl wr.heap.size wr)
          have hb2 := btrans hb kk
          have hS2 := hS.below kk
          have hO2 := hO.below kk
          clear hown hS0 hS hO hb hf
          go_wp2_with fail
          refine (fjoin_any av tl cv F ba bl bc bf _ hS2 hO2 h6.hf hOl).mono ?_
          rintro r w7 ⟨v7, rfl, o7, k7⟩
          have hsz := hb2.size
          clear c0 c1 kk hS2 hO2
          go_wp2
          go_roundw
          case rel => exact ⟨0 + 1, by omega, by go_num, by rw [hv1.out]; exact own_mono (Nat.le_trans b6.size hsz) o7, btrans hb2 k7⟩
          case measure => simp [intOf]; omega
        · have e : k = ol := by omega
          subst e
          obtain ⟨av, cv, rfl, _, _, _⟩ := own_facts hown
          go_wp2
          try simp only [Exit.inBlock, Exit.then]
          exact bodyPost_ret (v := .slice av (vjs tl F GO k).length cv) (by simp [results, Tryz.results19, go_sem]) rfl ⟨⟨_, rfl, by rw [hg.out]; exact hown⟩, btrans b6 hb⟩
/-- what is told of the first n sites -/
def vpre (me : Int) (tl : Nat) (F : Nat → Fc) (ol : Nat) (GO : Nat → Fg) : Nat → List Fc
  | 0 => []
  | n + 1 => vpre me tl F ol GO n ++ seg me tl F ol GO (n : Int)
theorem vws_pre (me : Int) (tl : Nat) (F : Nat → Fc) (ol : Nat) (GO : Nat → Fg) : vws me tl F ol GO = vpre me tl F ol GO 2 := by simp [vws, vpre]
set_option maxRecDepth 20000 in
theorem osg_le {ol : Nat} {GO : Nat → Fg} (h : ∀ j, j < ol → (GO j).bl ≤ 1048576) (s : Int) : ∀ k, k ≤ ol → (osg GO s k).length ≤ k * 1048576
  | 0, _ => Nat.zero_le _
  | k + 1, hk => by
    have q1 := osg_le h s k (by omega)
    have q2 := h k (by omega)
    rw [osg, List.length_append]
    split
    · rw [seqF_len]; omega
    · rw [List.length_nil]; exact Nat.le_trans q1 (Nat.mul_le_mul_right _ (Nat.le_succ k))
set_option maxRecDepth 20000 in
theorem vpre_le {me : Int} {tl : Nat} {F : Nat → Fc} {ol : Nat} {GO : Nat → Fg} (h1 : tl ≤ 1048576) (h2 : ol ≤ 1) (h : ∀ j, j < ol → (GO j).bl ≤ 1048576) : ∀ n, (vpre me tl F ol GO n).length ≤ n * 2097152
  | 0 => Nat.zero_le _
  | n + 1 => by
    have := vpre_le (me := me) (F := F) h1 h2 h n
    have := osg_le h (n : Int) ol (Nat.le_refl _)
    rw [vpre, seg, List.length_append, List.length_append]
    split
    · rw [seqF_len]; omega
    · rw [List.length_nil]; omega
set_option maxRecDepth 20000 in
set_option maxHeartbeats 8000000 in
theorem view18_any (me : Int) (up gone gate : Bool) (inc now sq turn : Int) (tb : Nat) (tl tc : Nat) (ca : Option Addr) (cl cc : Nat) (pn ps pq : Int) (pa : Bool) (da : Option Addr) (dl dc : Nat) (cx cy ch ce : Int) (pla : Option Addr) (pll plc : Nat) (oa : Option Addr) (ol oc : Nat) (F : Nat → Fc) (GI : Nat → It) (GD : Nat → Dt) (GP : Nat → Pl) (GO : Nat → Fg) (w : World) (h : NdIn w (some ⟨tb, 0, none⟩) tl F ca cl GI da dl GD pla pll GP oa ol GO) (hOa : ∀ j, j < ol → ∃ bb, (GO j).ba = some ⟨bb, 0, none⟩) :
    Calls Tryz.prog 18 #[.agg #[.int .i64 me, .bool up, .bool gone, .bool gate, .int .i64 inc, .int .i64 now, .int .i64 sq, .int .i64 turn, .slice (some ⟨tb, 0, none⟩) tl tc, .slice ca cl cc, .int .i64 pn, .int .i64 ps, .int .i64 pq, .bool pa, .slice da dl dc, .int .i64 cx, .int .i64 cy, .int .i64 ch, .int .i64 ce, .slice pla pll plc, .slice oa ol oc]] w fun e w' => ViR e w.heap.size w' (viewL (snodB me up gone gate inc now sq turn tl F cl GI pn ps pq pa dl GD cx cy ch ce pll GP ol GO) up me tl F ol GO) ∧ Below w.heap.size w w' := by
  obtain ⟨ti, hi, hz0, hz1, hz2⟩ := info_parts info24
  have b00 := balloc (.cells #[.int .i64 me, .bool up, .bool gone, .bool gate, .int .i64 inc, .int .i64 now, .int .i64 sq, .int .i64 turn, .slice (some ⟨tb, 0, none⟩) tl tc, .slice ca cl cc, .int .i64 pn, .int .i64 ps, .int .i64 pq, .bool pa, .slice da dl dc, .int .i64 cx, .int .i64 cy, .int .i64 ch, .int .i64 ce, .slice pla pll plc, .slice oa ol oc] 42) (Below.refl w.heap.size w)
  have X0 := Ws.box (w := w) #[.int .i64 me, .bool up, .bool gone, .bool gate, .int .i64 inc, .int .i64 now, .int .i64 sq, .int .i64 turn, .slice (some ⟨tb, 0, none⟩) tl tc, .slice ca cl cc, .int .i64 pn, .int .i64 ps, .int .i64 pq, .bool pa, .slice da dl dc, .int .i64 cx, .int .i64 cy, .int .i64 ch, .int .i64 ce, .slice pla pll plc, .slice oa ol oc] 42
  go_enter Tryz.func18, Tryz.ntmps18
  go_upto_region 1 with fail
  generalize w.alloc (.cells #[.int .i64 me, .bool up, .bool gone, .bool gate, .int .i64 inc, .int .i64 now, .int .i64 sq, .int .i64 turn, .slice (some ⟨tb, 0, none⟩) tl tc, .slice ca cl cc, .int .i64 pn, .int .i64 ps, .int .i64 pq, .bool pa, .slice da dl dc, .int .i64 cx, .int .i64 cy, .int .i64 ch, .int .i64 ce, .slice pla pll plc, .slice oa ol oc] 42) = u0 at *
  have oL := World.ownsRow_lit (base := u0.heap.size) (e := 98) (size := 4) u0 #[] 0 (Nat.le_refl _) (by unfold maxLen; omega) rfl
  have ka := balloc (.cells #[] 98) (Below.refl u0.heap.size u0)
  have b0 := btrans b00 ka
  have X := X0.below ka
  have h0 := h.below b0
  have hKL : w.heap.size < u0.heap.size := X0.lt
  have hKu : u0.heap.size ≤ (u0.alloc (.cells #[] 98)).heap.size := ka.size
  go_upto_region 2 with fail
  generalize u0.alloc (.cells #[] 98) = u at *
  generalize u0.heap.size = KL at *
  have r0 : u.rangeAt w.heap.size 0 [.int .i64 me, .bool up, .bool gone, .bool gate, .int .i64 inc, .int .i64 now, .int .i64 sq, .int .i64 turn, .slice (some ⟨tb, 0, none⟩) tl tc, .slice ca cl cc, .int .i64 pn, .int .i64 ps, .int .i64 pq, .bool pa, .slice da dl dc, .int .i64 cx, .int .i64 cy, .int .i64 ch, .int .i64 ce, .slice pla pll plc, .slice oa ol oc] := X.range
  have d1 := X.c 1 (.bool up) rfl
  clear X0 ka b00
  cases zb0 : snodB me up gone gate inc now sq turn tl F cl GI pn ps pq pa dl GD cx cy ch ce pll GP ol GO
  · have yb0 : Hid (snodB me up gone gate inc now sq turn tl F cl GI pn ps pq pa dl GD cx cy ch ce pll GP ol GO = false) := zb0
    clear zb0
    refine wp_region_q0 s18_2 t18_2 (fun hbq => ?_)
    refine qR ?_
    refine qC (fun K hK => ?_)
    go_simp
    refine (nodeOkS_lit me up gone gate inc now sq turn (some ⟨tb, 0, none⟩) tl tc ca cl cc pn ps pq pa da dl dc cx cy ch ce pla pll plc oa ol oc F GI GD GP GO false yb0.out _ (h0.below hbq)).mono ?_; rintro r w5 ⟨rfl, k5⟩
    go_wp2_with fail
    refine hK.out _ _ (btrans hbq k5) (.inl ?_)
    clear hK K
    replace hbq := btrans hbq k5
    clear k5
    try simp only [putQ]
    iterate 2 refine qY ?_
    iterate 3 refine qN ?_
    refine qY ?_
    refine qE ?_
    go_wp2
    try simp only [Exit.inBlock, Exit.then]
    exact bodyPost_ret (v := .slice (some ⟨KL, 0, none⟩) 0 0) (by simp [results, Tryz.results18, go_sem]) rfl ⟨⟨_, rfl, by rw [viewL, yb0.out]; exact own_mono (Nat.le_of_lt hKL) (own_below oL hbq)⟩, btrans b0 hbq⟩
  · have yb0 : Hid (snodB me up gone gate inc now sq turn tl F cl GI pn ps pq pa dl GD cx cy ch ce pll GP ol GO = true) := zb0
    clear zb0
    cases up
    · skip
      refine wp_region_q0 s18_2 t18_2 (fun hbq => ?_)
      refine qR ?_
      refine qC (fun K hK => ?_)
      go_simp
      refine (nodeOkS_lit me false gone gate inc now sq turn (some ⟨tb, 0, none⟩) tl tc ca cl cc pn ps pq pa da dl dc cx cy ch ce pla pll plc oa ol oc F GI GD GP GO true yb0.out _ (h0.below hbq)).mono ?_; rintro r w5 ⟨rfl, k5⟩
      go_wp2_with fail
      refine hK.out _ _ (btrans hbq k5) (.inl ?_)
      clear hK K
      replace hbq := btrans hbq k5
      clear k5
      try simp only [putQ]
      iterate 3 refine qY ?_
      refine qL ?_
      iterate 2 refine qY ?_
      refine qE ?_
      go_wp2
      try simp only [Exit.inBlock, Exit.then]
      exact bodyPost_ret (v := .slice (some ⟨KL, 0, none⟩) 0 0) (by simp [results, Tryz.results18, go_sem]) rfl ⟨⟨_, rfl, by rw [viewL, yb0.out]; exact own_mono (Nat.le_of_lt hKL) (own_below oL hbq)⟩, btrans b0 hbq⟩
    · skip
      refine wp_region_q0 s18_2 t18_2 (fun hbq => ?_)
      refine qR ?_
      refine qC (fun K hK => ?_)
      go_simp
      refine (nodeOkS_lit me true gone gate inc now sq turn (some ⟨tb, 0, none⟩) tl tc ca cl cc pn ps pq pa da dl dc cx cy ch ce pla pll plc oa ol oc F GI GD GP GO true yb0.out _ (h0.below hbq)).mono ?_; rintro r w5 ⟨rfl, k5⟩
      go_wp2_with fail
      refine hK.out _ _ (btrans hbq k5) (.inl ?_)
      clear hK K
      replace hbq := btrans hbq k5
      clear k5
      try simp only [putQ]
      iterate 3 refine qY ?_
      refine qL ?_
      iterate 2 refine qY ?_
      refine qE ?_
      have hb0 : Below KL u w5 := hbq.mono hKu
      have h5 := h
      have d0 := X.c 0 (.int .i64 me) rfl
      have d8 := X.c 8 (.slice (some ⟨tb, 0, none⟩) tl tc) rfl
      have d20 := X.c 20 (.slice oa ol oc) rfl
      have hsee := nod_see me true gone gate inc now sq turn tl F cl GI pn ps pq pa dl GD cx cy ch ce pll GP ol GO ((nod_same me true gone gate inc now sq turn tl F cl GI pn ps pq pa dl GD cx cy ch ce pll GP ol GO).trans yb0.out) rfl
      have ho1 := see_one hsee
      have hbo : ∀ j, j < ol → (GO j).bl ≤ 1048576 := fun j hj => (h5.ob j hj).2
      have hg : Hid (viewL (snodB me true gone gate inc now sq turn tl F cl GI pn ps pq pa dl GD cx cy ch ce pll GP ol GO) true me tl F ol GO = vpre me tl F ol GO 2) := by rw [Hid, viewL, yb0.out, ← vws_pre]; rfl
      have oL5 := own_below oL hbq
      obtain ⟨sm, hsm⟩ : ∃ sm, Hid (ste me = sm) := ⟨_, rfl⟩
      clear hbq h0 r0 X d1 oL hsee h
      go_wp2
      go_loopw [3, 4, 5] (fun v s _ wr => ∃ n : Nat, n ≤ 2 ∧ s = .int .i64 n ∧ wr.ownsRow KL 98 4 v (vpre me tl F ol GO n).length (fl (vpre me tl F ol GO n)) ∧ Below KL u wr) (fun _ s _ _ => 2 - (intOf s).toNat)
      case atStart => exact ⟨0, by omega, rfl, oL5, hb0⟩
      case round =>
        obtain ⟨n, hn, rfl, hown, hb⟩ := hrel
        have f0 := (hb.cell (p := ⟨w.heap.size, 0, none⟩) hKL).trans d0
        have f8 := (hb.cell (p := ⟨w.heap.size, 8, none⟩) hKL).trans d8
        have hw := b0.trans (hb.mono (Nat.le_of_lt hKL))
        have hle : (vpre me tl F ol GO n).length ≤ 4194304 := by
          have h1 := vpre_le (me := me) (F := F) h5.hf ho1 hbo n
          omega
        obtain ⟨av, cv, rfl, _, _, _⟩ := own_facts hown
        by_cases hlt : n < 2
        · have j1 : (n : Int) ≤ 1 := by omega
          go_wp2_with fail
          refine (lsite_any me _).mono ?_
          rintro r w6 ⟨rfl, hw6⟩
          obtain rfl := hw6.symm
          clear hw6
          rw [hsm.out]
          have hFt := h5.f.below hw
          have htl := h5.hf
          by_cases es : (n : Int) = sm
          · have zs : ((n : Int) == sm) = true := by simpa using es
            have hes : Hid ((n : Int) = ste me) := by rw [Hid, hsm.out]; exact es
            clear es
            go_wp2_with (at_builtin; refine wpList_append_own _ rfl _ _ 34 rfl KL 98 ti (fval Fc.zero) 4 32 Tryz.underlying34 hi hz0 hz1 hz2 rfl (by decide) _ _ _ rfl hown ⟨tb, 0, none⟩ tl tc (fl (seqF F tl)) rfl (by rw [fl_len, seqF_len]) (fsl_cells hFt) fl_one ?c3 ?c4 ?c5 ?_)
            case c3 => unfold maxLen; omega
            case c4 => omega
            case c5 => exact Nat.le_trans hKu hb.size
            · intro v' w7 hown' hgrow _
              have hown2 : w7.ownsRow KL 98 4 v' (vpre me tl F ol GO n ++ seqF F tl).length (fl (vpre me tl F ol GO n ++ seqF F tl)) := by rw [List.length_append, seqF_len, fl_append]; exact hown'
              have B7 : Below KL u w7 := own_grow hb (Nat.le_trans hKu hb.size) hown hgrow
              clear hgrow hown' hown f0 f8 zs hFt
              go_wp2
              go_loopw [3, 5] (fun v j wt => ∃ k : Nat, k ≤ ol ∧ j = .int .i64 k ∧ wt.ownsRow KL 98 4 v ((vpre me tl F ol GO n ++ seqF F tl) ++ osg GO (n : Int) k).length (fl ((vpre me tl F ol GO n ++ seqF F tl) ++ osg GO (n : Int) k)) ∧ Below KL u wt) (fun _ j _ => ol - (intOf j).toNat)
              case atStart => exact ⟨0, by omega, rfl, by rw [osg, List.append_nil]; exact hown2, B7⟩
              case round =>
                obtain ⟨k, hk, rfl, hown3, hb3⟩ := hrel
                have hbb := b0.trans (hb3.mono (Nat.le_of_lt hKL))
                have f20 := (hb3.cell (p := ⟨w.heap.size, 20, none⟩) hKL).trans d20
                have hle3 : ((vpre me tl F ol GO n ++ seqF F tl) ++ osg GO (n : Int) k).length ≤ 8388608 := by
                  have h1 := vpre_le (me := me) (F := F) h5.hf ho1 hbo n
                  have h2 := osg_le hbo (n : Int) k hk
                  rw [List.length_append, List.length_append, seqF_len]
                  have := h5.hf
                  omega
                obtain ⟨T3, hT3⟩ : ∃ T3, Hid ((vpre me tl F ol GO n ++ seqF F tl) ++ osg GO (n : Int) k = T3) := ⟨_, rfl⟩
                rw [hT3.out] at hown3 hle3
                obtain ⟨av3, cv3, rfl, _, _, _⟩ := own_facts hown3
                by_cases hlt3 : k < ol
                · obtain ⟨b, off, rfl, hbl, hf⟩ := h5.o (by omega)
                  obtain ⟨c0, c1⟩ := (hf.below hbb hbl) k hlt3
                  have hO := (h5.ob k hlt3).1.below hbb
                  have hOl := (h5.ob k hlt3).2
                  obtain ⟨bb, eb⟩ := hOa k hlt3
                  rw [eb] at c1 hO
                  have i0 : (0 : Int) ≤ (k : Int) := by omega
                  have i1 : (k : Int) < (ol : Int) := by omega
                  have hst : Hid (osg GO (n : Int) (k + 1) = osg GO (n : Int) k ++ (if (GO k).n = (n : Int) then seqF (GO k).bf (GO k).bl else [])) := rfl
                  by_cases en : (GO k).n = (n : Int)
                  · have zn : ((GO k).n == (n : Int)) = true := by simpa using en
                    have hst2 : Hid (osg GO (n : Int) (k + 1) = osg GO (n : Int) k ++ seqF (GO k).bf (GO k).bl) := by rw [Hid, hst.out, if_pos en]
                    clear en hst
                    generalize GO k = x at c0 c1 hO hOl zn hst2
                    obtain ⟨xn, ba, bl, bc, bf⟩ := x
                    dsimp only at c0 c1 hO hOl zn hst2
                    go_wp2_with (at_builtin; refine wpList_append_own _ rfl _ _ 34 rfl KL 98 ti (fval Fc.zero) 4 32 Tryz.underlying34 hi hz0 hz1 hz2 rfl (by decide) _ _ _ rfl hown3 ⟨bb, 0, none⟩ bl bc (fl (seqF bf bl)) rfl (by rw [fl_len, seqF_len]) (fsl_cells hO) fl_one ?c3 ?c4 ?c5 ?_)
                    case c3 => unfold maxLen; omega
                    case c4 => omega
                    case c5 => exact Nat.le_trans hKu hb3.size
                    · intro v' w9 hown' hgrow _
                      have B9 := own_grow hb3 (Nat.le_trans hKu hb3.size) hown3 hgrow
                      clear hgrow c0 c1 f20 zn
                      go_wp2
                      go_roundw
                      case rel => exact ⟨k + 1, by omega, by go_num, by rw [hst2.out, ← List.append_assoc, hT3.out, List.length_append, seqF_len, fl_append]; exact hown', B9⟩
                      case measure => simp [intOf]; omega
                  · have zn : ((GO k).n == (n : Int)) = false := by simpa using en
                    have hst2 : Hid (osg GO (n : Int) (k + 1) = osg GO (n : Int) k) := by rw [Hid, hst.out, if_neg en, List.append_nil]
                    clear en hst c1 hO hOl
                    generalize GO k = x at c0 zn hst2
                    obtain ⟨xn, ba, bl, bc, bf⟩ := x
                    dsimp only at c0 zn hst2
                    go_wp2
                    go_roundw
                    case rel => exact ⟨k + 1, by omega, by go_num, by rw [hst2.out, hT3.out]; exact hown3, hb3⟩
                    case measure => simp [intOf]; omega
                · have e3 : k = ol := by omega
                  subst e3
                  go_wp2
                  go_roundw
                  case rel => exact ⟨n + 1, by omega, by go_num, by rw [vpre, seg, if_pos hes.out, ← List.append_assoc, hT3.out]; exact hown3, hb3⟩
                  case measure => simp [intOf]; omega
          · have zs : ((n : Int) == sm) = false := by simpa using es
            have hes : Hid (¬ (n : Int) = ste me) := by rw [Hid, hsm.out]; exact es
            clear es f0 f8 hFt
            go_wp2
            go_loopw [3, 5] (fun v j wt => ∃ k : Nat, k ≤ ol ∧ j = .int .i64 k ∧ wt.ownsRow KL 98 4 v (vpre me tl F ol GO n ++ osg GO (n : Int) k).length (fl (vpre me tl F ol GO n ++ osg GO (n : Int) k)) ∧ Below KL u wt) (fun _ j _ => ol - (intOf j).toNat)
            case atStart => exact ⟨0, by omega, rfl, by rw [osg, List.append_nil]; exact hown, hb⟩
            case round =>
              obtain ⟨k, hk, rfl, hown3, hb3⟩ := hrel
              have hbb := b0.trans (hb3.mono (Nat.le_of_lt hKL))
              have f20 := (hb3.cell (p := ⟨w.heap.size, 20, none⟩) hKL).trans d20
              have hle3 : (vpre me tl F ol GO n ++ osg GO (n : Int) k).length ≤ 8388608 := by
                have h1 := vpre_le (me := me) (F := F) h5.hf ho1 hbo n
                have h2 := osg_le hbo (n : Int) k hk
                rw [List.length_append]
                have := h5.hf
                omega
              obtain ⟨T3, hT3⟩ : ∃ T3, Hid (vpre me tl F ol GO n ++ osg GO (n : Int) k = T3) := ⟨_, rfl⟩
              rw [hT3.out] at hown3 hle3
              obtain ⟨av3, cv3, rfl, _, _, _⟩ := own_facts hown3
              by_cases hlt3 : k < ol
              · obtain ⟨b, off, rfl, hbl, hf⟩ := h5.o (by omega)
                obtain ⟨c0, c1⟩ := (hf.below hbb hbl) k hlt3
                have hO := (h5.ob k hlt3).1.below hbb
                have hOl := (h5.ob k hlt3).2
                obtain ⟨bb, eb⟩ := hOa k hlt3
                rw [eb] at c1 hO
                have i0 : (0 : Int) ≤ (k : Int) := by omega
                have i1 : (k : Int) < (ol : Int) := by omega
                have hst : Hid (osg GO (n : Int) (k + 1) = osg GO (n : Int) k ++ (if (GO k).n = (n : Int) then seqF (GO k).bf (GO k).bl else [])) := rfl
                by_cases en : (GO k).n = (n : Int)
                · have zn : ((GO k).n == (n : Int)) = true := by simpa using en
                  have hst2 : Hid (osg GO (n : Int) (k + 1) = osg GO (n : Int) k ++ seqF (GO k).bf (GO k).bl) := by rw [Hid, hst.out, if_pos en]
                  clear en hst
                  generalize GO k = x at c0 c1 hO hOl zn hst2
                  obtain ⟨xn, ba, bl, bc, bf⟩ := x
                  dsimp only at c0 c1 hO hOl zn hst2
                  go_wp2_with (at_builtin; refine wpList_append_own _ rfl _ _ 34 rfl KL 98 ti (fval Fc.zero) 4 32 Tryz.underlying34 hi hz0 hz1 hz2 rfl (by decide) _ _ _ rfl hown3 ⟨bb, 0, none⟩ bl bc (fl (seqF bf bl)) rfl (by rw [fl_len, seqF_len]) (fsl_cells hO) fl_one ?c3 ?c4 ?c5 ?_)
                  case c3 => unfold maxLen; omega
                  case c4 => omega
                  case c5 => exact Nat.le_trans hKu hb3.size
                  · intro v' w9 hown' hgrow _
                    have B9 := own_grow hb3 (Nat.le_trans hKu hb3.size) hown3 hgrow
                    clear hgrow c0 c1 f20 zn
                    go_wp2
                    go_roundw
                    case rel => exact ⟨k + 1, by omega, by go_num, by rw [hst2.out, ← List.append_assoc, hT3.out, List.length_append, seqF_len, fl_append]; exact hown', B9⟩
                    case measure => simp [intOf]; omega
                · have zn : ((GO k).n == (n : Int)) = false := by simpa using en
                  have hst2 : Hid (osg GO (n : Int) (k + 1) = osg GO (n : Int) k) := by rw [Hid, hst.out, if_neg en, List.append_nil]
                  clear en hst c1 hO hOl
                  generalize GO k = x at c0 zn hst2
                  obtain ⟨xn, ba, bl, bc, bf⟩ := x
                  dsimp only at c0 zn hst2
                  go_wp2
                  go_roundw
                  case rel => exact ⟨k + 1, by omega, by go_num, by rw [hst2.out, hT3.out]; exact hown3, hb3⟩
                  case measure => simp [intOf]; omega
              · have e3 : k = ol := by omega
                subst e3
                go_wp2
                go_roundw
                case rel => exact ⟨n + 1, by omega, by go_num, by rw [vpre, seg, if_neg hes.out, List.nil_append, hT3.out]; exact hown3, hb3⟩
                case measure => simp [intOf]; omega
        · have e : n = 2 := by omega
          subst e
          go_wp2
          try simp only [Exit.inBlock, Exit.then]
          exact bodyPost_ret (v := .slice av (vpre me tl F ol GO 2).length cv) (by simp [results, Tryz.results18, go_sem]) rfl ⟨⟨_, rfl, by rw [hg.out]; exact own_mono (Nat.le_of_lt hKL) hown⟩, hw⟩
end Go.Proofs.YtdlaenbiamknlaaGreat
/- Nodes: at every node NodeView answers as its model does, and its answer is its own. -/
namespace Go.Proofs.YtdlaenbiamknlaaGreat
open Go.ChangeShapes Go.WideShapes Go.ChangeAt Go.RowKit
attribute [local go_sem ↓] Go.wp_at_zero Go.wp_at_succ
def s5_5 : List Stp := [⟨some 16, .load 32 (.tmp 1), 32, none, 0⟩, ⟨some 17, .call { callee := .value (.func 8), args := #[.tmp 16], argTypes := #[32] }, 42, none, 1⟩, ⟨some 18, .call { callee := .value (.func 18), args := #[.tmp 17], argTypes := #[42] }, 34, none, 1⟩, ⟨some 4, .assign (.tmp 18), 34, none, 0⟩]
def t5_5 : List (Nat × Nat) := [(0, 0), (1, 1), (2, 1), (3, 0)]
def s5_7 : List Stp := [⟨some 21, .load 42 (.tmp 5), 42, none, 0⟩, ⟨some 22, .call { callee := .value (.func 19), args := #[.tmp 21], argTypes := #[42] }, 34, none, 1⟩, ⟨some 6, .assign (.tmp 22), 34, none, 0⟩]
def t5_7 : List (Nat × Nat) := [(0, 0), (1, 1), (2, 0)]
def s5_10 : List Stp := [⟨some 27, .load 42 (.tmp 5), 42, none, 0⟩, ⟨some 28, .load 32 (.tmp 1), 32, none, 0⟩, ⟨some 29, .call { callee := .value (.func 8), args := #[.tmp 28], argTypes := #[32] }, 42, none, 1⟩, ⟨some 30, .call { callee := .value (.func 10), args := #[.tmp 27, .tmp 29], argTypes := #[42, 42] }, 4, none, 1⟩, ⟨some 31, .unOp .not 4 (.tmp 30), 4, none, 0⟩]
def t5_10 : List (Nat × Nat) := [(0, 0), (1, 0), (2, 1), (3, 1), (4, 0)]
def s5_24 : List Stp := [⟨some 54, .load 32 (.tmp 1), 32, none, 0⟩, ⟨some 55, .call { callee := .value (.func 8), args := #[.tmp 54], argTypes := #[32] }, 42, none, 1⟩, ⟨some 56, .call { callee := .value (.func 19), args := #[.tmp 55], argTypes := #[42] }, 34, none, 1⟩, ⟨some 10, .assign (.tmp 56), 34, none, 0⟩]
def t5_24 : List (Nat × Nat) := [(0, 0), (1, 1), (2, 1), (3, 0)]
theorem osg_congr {G G' : Nat → Fg} (h : ∀ j, FgEq (G j) (G' j)) (s : Int) : ∀ k, osg G s k = osg G' s k
  | 0 => rfl
  | k + 1 => by
    obtain ⟨h0, h1, h2⟩ := h k
    rw [osg, osg, osg_congr h s k, h0, h1, h2]
theorem view_congr {G G' : Nat → Fg} (h : ∀ j, FgEq (G j) (G' j)) (q up : Bool) (me : Int) (tl : Nat) (F : Nat → Fc) (ol : Nat) : viewL q up me tl F ol G = viewL q up me tl F ol G' := by
  unfold viewL vws seg
  rw [osg_congr h, osg_congr h]
theorem view_le (me : Int) (up gone gate : Bool) (inc now sq turn : Int) (tl : Nat) (F : Nat → Fc) (cl : Nat) (GI : Nat → It) (pn ps pq : Int) (pa : Bool) (dl : Nat) (GD : Nat → Dt) (cx cy ch ce : Int) (pll : Nat) (GP : Nat → Pl) (ol : Nat) (GO : Nat → Fg) (ht : tl ≤ 1048576) : (viewL (nodB me up gone gate inc now sq turn tl F cl GI pn ps pq pa dl GD cx cy ch ce pll GP ol GO) up me tl F ol GO).length ≤ 1048576 := by
  unfold viewL
  split
  · rename_i hq
    rw [Bool.and_eq_true] at hq
    have hs := nod_see me up gone gate inc now sq turn tl F cl GI pn ps pq pa dl GD cx cy ch ce pll GP ol GO hq.1 hq.2
    have h1 := see_one hs
    rw [← view_same hs]
    rcases Nat.eq_zero_or_pos ol with e | e
    · subst e
      rw [vjs, seqF_len]
      exact ht
    · have e1 : ol = 1 := by omega
      subst e1
      have e2 : vjs tl F GO 1 = tj tl F (GO 0).bl (GO 0).bf := by
        rw [vjs, vjs, tj, hs.t, (hs.o 0 (by omega)).2.2.1]; rfl
      rw [e2]
      exact Nat.le_trans (tj_len _ _ _ _) (by omega)
  · exact Nat.zero_le _
theorem own_mrk {w w' : World} {lo hi base size n : Nat} {e : TypeId} {v : Value} {xs : List Value} (h : w.ownsRow base e size v n xs) (k : Mrk lo hi w w') (q : ∀ x, v.ownBlock = some x → x < lo ∨ hi ≤ x) : w'.ownsRow base e size v n xs := by
  have h0 := h
  refine ⟨h.1, h.2.imp id ?_⟩
  rintro ⟨g, cap, cur, rfl, hg, r⟩
  have hb : (Value.slice (some ⟨g, 0, none⟩) n cap).ownBlock = some g := rfl
  exact ⟨g, cap, cur, rfl, hg, (k.block g (h0.lt g hb).2 (q g hb)).trans r.1, r.2⟩
theorem range_lt {w : World} {b : Nat} {v : Value} {xs : List Value} (h : w.rangeAt b 0 (v :: xs)) : b < w.heap.size := by
  have hc := h 0 v rfl
  unfold World.cell? at hc
  rcases Nat.lt_or_ge b w.heap.size with q | q
  · exact q
  · exfalso
    simp [Array.getElem?_eq_none q] at hc
theorem Mrk.range {lo hi : Nat} {w w' : World} {b o : Nat} {xs : List Value} (k : Mrk lo hi w w') (h : w.rangeAt b o xs) (q : b < lo ∨ hi ≤ b) : w'.rangeAt b o xs := fun j x hx => k.cell (h j x hx) q
theorem range_grow {w w' : World} {b : Nat} {v : Value} {xs : List Value} {r : Option Nat} (h : w.rangeAt b 0 (v :: xs)) (g : w.grownBy w' r) (hr : ∀ k, r = some k → k ≠ b) : w'.rangeAt b 0 (v :: xs) := fun j x hx =>
  (World.cell?_of_block (a := ⟨b, 0 + j, none⟩) (g.block b (range_lt h) (fun e => hr b e.symm rfl))).trans (h j x hx)
set_option maxRecDepth 20000 in
set_option maxHeartbeats 8000000 in
set_option linter.unusedSimpArgs false in
theorem exNodeView_walk (me : Int) (up gone gate : Bool) (inc now sq turn : Int) (ta : Option Addr) (tl tc : Nat) (ca : Option Addr) (cl cc : Nat) (pn ps pq : Int) (pa : Bool) (da : Option Addr) (dl dc : Nat) (cx cy ch ce : Int) (pla : Option Addr) (pll plc : Nat) (oa : Option Addr) (ol oc : Nat) (F : Nat → Fc) (GI : Nat → It) (GD : Nat → Dt) (GP : Nat → Pl) (GO : Nat → Fg) (w : World) (h : NdRaw w ta tl tc F ca cl cc GI da dl GD pla pll GP oa ol GO) :
    Calls Tryz.prog 5 #[.agg #[.int .i64 me, .bool up, .bool gone, .bool gate, .int .i64 inc, .int .i64 now, .int .i64 sq, .int .i64 turn, .slice ta tl tc, .slice ca cl cc, .int .i64 pn, .int .i64 ps, .int .i64 pq, .bool pa, .slice da dl dc, .int .i64 cx, .int .i64 cy, .int .i64 ch, .int .i64 ce, .slice pla pll plc, .slice oa ol oc]] w fun r w' => r = .returned (.bool true) ∧ Below w.heap.size w w' := by
  have b0 := balloc (.cells #[.int .i64 me, .bool up, .bool gone, .bool gate, .int .i64 inc, .int .i64 now, .int .i64 sq, .int .i64 turn, .slice ta tl tc, .slice ca cl cc, .int .i64 pn, .int .i64 ps, .int .i64 pq, .bool pa, .slice da dl dc, .int .i64 cx, .int .i64 cy, .int .i64 ch, .int .i64 ce, .slice pla pll plc, .slice oa ol oc] 32) (Below.refl w.heap.size w)
  have X0 := Ws.box (w := w) #[.int .i64 me, .bool up, .bool gone, .bool gate, .int .i64 inc, .int .i64 now, .int .i64 sq, .int .i64 turn, .slice ta tl tc, .slice ca cl cc, .int .i64 pn, .int .i64 ps, .int .i64 pq, .bool pa, .slice da dl dc, .int .i64 cx, .int .i64 cy, .int .i64 ch, .int .i64 ce, .slice pla pll plc, .slice oa ol oc] 32
  go_enter Tryz.func5, Tryz.ntmps5
  go_upto_region 1 with fail
  generalize w.alloc (.cells #[.int .i64 me, .bool up, .bool gone, .bool gate, .int .i64 inc, .int .i64 now, .int .i64 sq, .int .i64 turn, .slice ta tl tc, .slice ca cl cc, .int .i64 pn, .int .i64 ps, .int .i64 pq, .bool pa, .slice da dl dc, .int .i64 cx, .int .i64 cy, .int .i64 ch, .int .i64 ce, .slice pla pll plc, .slice oa ol oc] 32) = u at *
  have h0 := h.below b0
  have x0 : u.rangeAt w.heap.size 0 [.int .i64 me, .bool up, .bool gone, .bool gate, .int .i64 inc, .int .i64 now, .int .i64 sq, .int .i64 turn, .slice ta tl tc, .slice ca cl cc, .int .i64 pn, .int .i64 ps, .int .i64 pq, .bool pa, .slice da dl dc, .int .i64 cx, .int .i64 cy, .int .i64 ch, .int .i64 ce, .slice pla pll plc, .slice oa ol oc] := X0.range
  clear X0
  obtain ⟨L, hL⟩ : ∃ L, Hid (viewL (nodB me up gone gate inc now sq turn tl F cl GI pn ps pq pa dl GD cx cy ch ce pll GP ol GO) up me tl F ol GO = L) := ⟨_, rfl⟩
  go_wp2_with (refine load32L (by rfl) (.tmp 1) rfl w.heap.size rfl [.int .i64 me, .bool up, .bool gone, .bool gate, .int .i64 inc, .int .i64 now, .int .i64 sq, .int .i64 turn, .slice ta tl tc, .slice ca cl cc, .int .i64 pn, .int .i64 ps, .int .i64 pq, .bool pa, .slice da dl dc, .int .i64 cx, .int .i64 cy, .int .i64 ch, .int .i64 ce, .slice pla pll plc, .slice oa ol oc] x0 rfl ?_)
  refine (szNode_any me up gone gate inc now sq turn ta tl tc ca cl cc pn ps pq pa da dl dc cx cy ch ce pla pll plc oa ol oc F GI GD GP GO _ h0).mono ?_
  rintro r w1 ⟨⟨z, rfl, hz⟩, k1⟩
  have b1 := btrans b0 k1
  have x1 := range_keep x0 k1
  have h1 := h0.below k1
  clear b0 x0 h0 k1
  rcases hz with hz | ⟨hz, hm⟩
  · have hz' := hz
    subst hz'
    clear x1 h1
    go_wp2
    go_ret
    exact ⟨rfl, b1⟩
  obtain ⟨hz0, hz1⟩ := hz
  have hz2 : ¬ z < 0 := by omega
  have hgl : L.length ≤ 1048576 := by rw [← hL.out]; exact view_le me up gone gate inc now sq turn tl F cl GI pn ps pq pa dl GD cx cy ch ce pll GP ol GO (h1.toIn hm).hf
  clear hz0 hz1
  go_upto_region 5 with fail
  clear hz2
  refine wp_region_q0 s5_5 t5_5 (fun hbq => ?_)
  refine qR ?_
  refine qC (fun K hK => ?_)
  go_simp
  refine (toNodeM_any me up gone gate inc now sq turn ta tl tc ca cl cc pn ps pq pa da dl dc cx cy ch ce pla pll plc oa ol oc F GI GD GP GO _ ((h1.below hbq).toIn hm) (h1.below hbq).cf (h1.below hbq).ci (fun j hj => ((h1.below hbq).db j hj).2.2) (fun j hj => ((h1.below hbq).pb j hj).2.2) (fun j hj => ((h1.below hbq).ob j hj).2.2)).mono ?_; rintro r w2 ⟨s1, s2, s3, s4, s5, sD, sP, sO, rfl, sN, sd, sp, so, k2⟩; have mis := (h1.below hbq).toIn hm; have sI := sN.toIn sd sp so (fun j hj => (mis.db j hj).2) (fun j hj => (mis.pb j hj).2) (fun j hj => (mis.ob j hj).2) mis.hf mis.hi mis.hd mis.hp mis.ho; have sA : ∀ j, j < ol → ∃ bb, (sO j).ba = some ⟨bb, 0, none⟩ := fun j hj => (by obtain ⟨bb, e, _⟩ := sN.oO j hj; exact ⟨bb, e⟩); clear mis
  go_wp2_with fail
  refine hK.out _ _ (btrans hbq k2) (.inl ?_)
  clear hK K
  replace hbq := btrans hbq k2
  clear k2
  try simp only [putQ]
  refine qC (fun K hK => ?_)
  go_simp
  refine (view18_any me up gone gate inc now sq turn s1 tl tl (some ⟨s2, 0, none⟩) cl cl pn ps pq pa (some ⟨s3, 0, none⟩) dl dl cx cy ch ce (some ⟨s4, 0, none⟩) pll pll (some ⟨s5, 0, none⟩) ol ol F GI sD sP sO _ sI sA).mono ?_; rintro r w3 ⟨hga, k3⟩; rw [← nod_same, nod_congr _ _ _ _ _ _ _ _ _ _ _ _ _ _ _ _ _ GD _ _ _ _ _ GP _ GO sD sP sO sd sp so, view_congr so, hL.out] at hga; obtain ⟨v0, rfl, o0⟩ := hga
  go_wp2_with fail
  refine hK.out _ _ (btrans hbq k3) (.inl ?_)
  clear hK K
  replace hbq := btrans hbq k3
  clear k3
  try simp only [putQ]
  refine qY ?_
  refine qE ?_
  have b2 := btrans b1 hbq
  have x2 := range_keep x1 hbq
  have h2 := h1.below hbq
  clear b1 x1 h1 hbq sN sd sp so sI sA
  obtain ⟨a0, c0, rfl, _, _, _⟩ := own_facts o0
  go_wp2_with (refine load32L (by rfl) (.tmp 1) rfl w.heap.size rfl [.int .i64 me, .bool up, .bool gone, .bool gate, .int .i64 inc, .int .i64 now, .int .i64 sq, .int .i64 turn, .slice ta tl tc, .slice ca cl cc, .int .i64 pn, .int .i64 ps, .int .i64 pq, .bool pa, .slice da dl dc, .int .i64 cx, .int .i64 cy, .int .i64 ch, .int .i64 ce, .slice pla pll plc, .slice oa ol oc] x2 rfl ?_)
  refine (toNodeM_any me up gone gate inc now sq turn ta tl tc ca cl cc pn ps pq pa da dl dc cx cy ch ce pla pll plc oa ol oc F GI GD GP GO _ (h2.toIn hm) h2.cf h2.ci (fun j hj => (h2.db j hj).2.2) (fun j hj => (h2.pb j hj).2.2) (fun j hj => (h2.ob j hj).2.2)).mono ?_
  rintro r w4 ⟨f1, f2, f3, f4, f5, fD, fP, fO, rfl, fN, fd, fp, fo, k4⟩
  have lo0 := (o0.lt · ·)
  have hlo : ∀ x, (Value.slice a0 L.length c0).ownBlock = some x → x < w3.heap.size := fun x e => (o0.lt x e).2
  clear lo0
  obtain ⟨lo, hlo2⟩ : ∃ lo, Hid (w3.heap.size = lo) := ⟨_, rfl⟩
  rw [hlo2.out] at hlo fN
  have hbl : w.heap.size ≤ lo := by rw [← hlo2.out]; exact b2.size
  have f5h := fN.o.lt
  have fOh := fN.oO.lt
  obtain ⟨hi, hhi⟩ : ∃ hi, Hid (w4.heap.size = hi) := ⟨_, rfl⟩
  rw [hhi.out] at f5h fOh
  have R := Ws.box (w := w4) #[.int .i64 0, .bool false, .bool false, .bool false, .int .i64 0, .int .i64 0, .int .i64 0, .int .i64 0, .slice none 0 0, .slice none 0 0, .int .i64 0, .int .i64 0, .int .i64 0, .bool false, .slice none 0 0, .int .i64 0, .int .i64 0, .int .i64 0, .int .i64 0, .slice none 0 0, .slice none 0 0] 42
  have hth : (w4.alloc (.cells #[.int .i64 0, .bool false, .bool false, .bool false, .int .i64 0, .int .i64 0, .int .i64 0, .int .i64 0, .slice none 0 0, .slice none 0 0, .int .i64 0, .int .i64 0, .int .i64 0, .bool false, .slice none 0 0, .int .i64 0, .int .i64 0, .int .i64 0, .int .i64 0, .slice none 0 0, .slice none 0 0] 42)).there w4.heap.size 0 21 := R.there rfl
  have kk := below_cells (w := w4) w4.heap.size (#[.int .i64 me, .bool up, .bool gone, .bool gate, .int .i64 inc, .int .i64 now, .int .i64 sq, .int .i64 turn, .slice (some ⟨f1, 0, none⟩) tl tl, .slice (some ⟨f2, 0, none⟩) cl cl, .int .i64 pn, .int .i64 ps, .int .i64 pq, .bool pa, .slice (some ⟨f3, 0, none⟩) dl dl, .int .i64 cx, .int .i64 cy, .int .i64 ch, .int .i64 ce, .slice (some ⟨f4, 0, none⟩) pll pll, .slice (some ⟨f5, 0, none⟩) ol ol] : Array Value).toList 0 (w4.alloc (.cells #[.int .i64 0, .bool false, .bool false, .bool false, .int .i64 0, .int .i64 0, .int .i64 0, .int .i64 0, .slice none 0 0, .slice none 0 0, .int .i64 0, .int .i64 0, .int .i64 0, .bool false, .slice none 0 0, .int .i64 0, .int .i64 0, .int .i64 0, .int .i64 0, .slice none 0 0, .slice none 0 0] 42)) (Nat.le_refl _) (balloc (.cells #[.int .i64 0, .bool false, .bool false, .bool false, .int .i64 0, .int .i64 0, .int .i64 0, .int .i64 0, .slice none 0 0, .slice none 0 0, .int .i64 0, .int .i64 0, .int .i64 0, .bool false, .slice none 0 0, .int .i64 0, .int .i64 0, .int .i64 0, .int .i64 0, .slice none 0 0, .slice none 0 0] 42) (Below.refl w4.heap.size w4))
  have rr := World.rangeAt_setCells_same (w4.alloc (.cells #[.int .i64 0, .bool false, .bool false, .bool false, .int .i64 0, .int .i64 0, .int .i64 0, .int .i64 0, .slice none 0 0, .slice none 0 0, .int .i64 0, .int .i64 0, .int .i64 0, .bool false, .slice none 0 0, .int .i64 0, .int .i64 0, .int .i64 0, .int .i64 0, .slice none 0 0, .slice none 0 0] 42)) w4.heap.size 0 (#[.int .i64 me, .bool up, .bool gone, .bool gate, .int .i64 inc, .int .i64 now, .int .i64 sq, .int .i64 turn, .slice (some ⟨f1, 0, none⟩) tl tl, .slice (some ⟨f2, 0, none⟩) cl cl, .int .i64 pn, .int .i64 ps, .int .i64 pq, .bool pa, .slice (some ⟨f3, 0, none⟩) dl dl, .int .i64 cx, .int .i64 cy, .int .i64 ch, .int .i64 ce, .slice (some ⟨f4, 0, none⟩) pll pll, .slice (some ⟨f5, 0, none⟩) ol ol] : Array Value).toList hth
  have kz := btrans k4 kk
  have b4 := btrans b2 kz
  have x4 := range_keep x2 kz
  have h4 := h2.below kz
  have o04 := own_below o0 kz
  have fM := fN.below kk
  have hhs : hi ≤ ((w4.alloc (.cells #[.int .i64 0, .bool false, .bool false, .bool false, .int .i64 0, .int .i64 0, .int .i64 0, .int .i64 0, .slice none 0 0, .slice none 0 0, .int .i64 0, .int .i64 0, .int .i64 0, .bool false, .slice none 0 0, .int .i64 0, .int .i64 0, .int .i64 0, .int .i64 0, .slice none 0 0, .slice none 0 0] 42)).setCells w4.heap.size 0 (#[.int .i64 me, .bool up, .bool gone, .bool gate, .int .i64 inc, .int .i64 now, .int .i64 sq, .int .i64 turn, .slice (some ⟨f1, 0, none⟩) tl tl, .slice (some ⟨f2, 0, none⟩) cl cl, .int .i64 pn, .int .i64 ps, .int .i64 pq, .bool pa, .slice (some ⟨f3, 0, none⟩) dl dl, .int .i64 cx, .int .i64 cy, .int .i64 ch, .int .i64 ce, .slice (some ⟨f4, 0, none⟩) pll pll, .slice (some ⟨f5, 0, none⟩) ol ol] : Array Value).toList).heap.size := by rw [← hhi.out]; exact kk.size
  have x3 := x2
  have hlo3 := hlo2
  clear b2 x2 h2 k4 kz R fN o0 hlo2
  go_upto_region 7 with (refine wpList_store_mid rfl 42 _ _ rfl w4.heap.size 0 #[.int .i64 me, .bool up, .bool gone, .bool gate, .int .i64 inc, .int .i64 now, .int .i64 sq, .int .i64 turn, .slice (some ⟨f1, 0, none⟩) tl tl, .slice (some ⟨f2, 0, none⟩) cl cl, .int .i64 pn, .int .i64 ps, .int .i64 pq, .bool pa, .slice (some ⟨f3, 0, none⟩) dl dl, .int .i64 cx, .int .i64 cy, .int .i64 ch, .int .i64 ce, .slice (some ⟨f4, 0, none⟩) pll pll, .slice (some ⟨f5, 0, none⟩) ol ol] rfl rfl hth (by kernel_rfl) (by kernel_rfl) ?_)
  clear hth kk
  generalize ((w4.alloc (.cells #[.int .i64 0, .bool false, .bool false, .bool false, .int .i64 0, .int .i64 0, .int .i64 0, .int .i64 0, .slice none 0 0, .slice none 0 0, .int .i64 0, .int .i64 0, .int .i64 0, .bool false, .slice none 0 0, .int .i64 0, .int .i64 0, .int .i64 0, .int .i64 0, .slice none 0 0, .slice none 0 0] 42)).setCells w4.heap.size 0 (#[.int .i64 me, .bool up, .bool gone, .bool gate, .int .i64 inc, .int .i64 now, .int .i64 sq, .int .i64 turn, .slice (some ⟨f1, 0, none⟩) tl tl, .slice (some ⟨f2, 0, none⟩) cl cl, .int .i64 pn, .int .i64 ps, .int .i64 pq, .bool pa, .slice (some ⟨f3, 0, none⟩) dl dl, .int .i64 cx, .int .i64 cy, .int .i64 ch, .int .i64 ce, .slice (some ⟨f4, 0, none⟩) pll pll, .slice (some ⟨f5, 0, none⟩) ol ol] : Array Value).toList) = w5 at *
  generalize w4.heap.size = KX at *
  have rf : w5.rangeAt KX 0 [.int .i64 me, .bool up, .bool gone, .bool gate, .int .i64 inc, .int .i64 now, .int .i64 sq, .int .i64 turn, .slice (some ⟨f1, 0, none⟩) tl tl, .slice (some ⟨f2, 0, none⟩) cl cl, .int .i64 pn, .int .i64 ps, .int .i64 pq, .bool pa, .slice (some ⟨f3, 0, none⟩) dl dl, .int .i64 cx, .int .i64 cy, .int .i64 ch, .int .i64 ce, .slice (some ⟨f4, 0, none⟩) pll pll, .slice (some ⟨f5, 0, none⟩) ol ol] := rr
  have mi := h4.toIn hm
  have fI := fM.toIn fd fp fo (fun j hj => (mi.db j hj).2) (fun j hj => (mi.pb j hj).2) (fun j hj => (mi.ob j hj).2) mi.hf mi.hi mi.hd mi.hp mi.ho
  have fA : ∀ j, j < ol → ∃ bb, (fO j).ba = some ⟨bb, 0, none⟩ := fun j hj => by obtain ⟨bb, e, _⟩ := fM.oO j hj; exact ⟨bb, e⟩
  have hKX : hi ≤ KX := by rw [← hhi.out]; exact Nat.le_refl _
  clear rr hhi
  refine wp_region_q0 s5_7 t5_7 (fun hbq => ?_)
  refine qR ?_
  refine qC (fun K hK => ?_)
  go_simp
  refine (view19_any me up gone gate inc now sq turn f1 tl tl (some ⟨f2, 0, none⟩) cl cl pn ps pq pa (some ⟨f3, 0, none⟩) dl dl cx cy ch ce (some ⟨f4, 0, none⟩) pll pll (some ⟨f5, 0, none⟩) ol ol F GI fD fP fO _ (fI.below hbq) fA).mono ?_; rintro r w6 ⟨hga, k6⟩; rw [nod_congr _ _ _ _ _ _ _ _ _ _ _ _ _ _ _ _ _ GD _ _ _ _ _ GP _ GO fD fP fO fd fp fo, view_congr fo, hL.out] at hga; obtain ⟨v1, rfl, o1⟩ := hga
  go_wp2_with fail
  refine hK.out _ _ (btrans hbq k6) (.inl ?_)
  clear hK K
  replace hbq := btrans hbq k6
  clear k6
  try simp only [putQ]
  refine qY ?_
  refine qE ?_
  have b6 := btrans b4 hbq
  have x6 := range_keep x4 hbq
  have h6 := h4.below hbq
  have o06 := own_below o04 hbq
  have fK := fM.below hbq
  have rf6 := range_keep rf hbq
  have hs6 := Nat.le_trans hhs hbq.size
  clear b4 x4 h4 o04 fM rf fI hbq mi
  obtain ⟨a1, c1, rfl, _, _, i1⟩ := own_facts o1
  have hh1 : ∀ x, (Value.slice a1 L.length c1).ownBlock = some x → hi ≤ x := fun x e => Nat.le_trans hhs (o1.lt x e).1
  have h1s : ∀ x, (Value.slice a1 L.length c1).ownBlock = some x → w.heap.size ≤ x := fun x e => by
    have := hh1 x e
    have := fK.lo1
    have := fK.o12
    have := fK.o23
    have := fK.o34
    have := fK.o45
    omega
  have hlh : lo < hi := by
    have := fK.lo1
    have := fK.o12
    have := fK.o23
    have := fK.o34
    have := fK.o45
    omega
  have q01 : (Value.slice a0 L.length c0).ownBlock = none ∨ (Value.slice a0 L.length c0).ownBlock ≠ (Value.slice a1 L.length c1).ownBlock := by
    cases hv : (Value.slice a0 L.length c0).ownBlock with
    | none => exact .inl rfl
    | some k => exact .inr fun e => by have := hlo k hv; have := hh1 k e.symm; omega
  have hbl2 : w.heap.size < lo := by rw [← hlo3.out]; exact range_lt x3
  clear x3 hlo3
  go_wp2_with fail
  obtain ⟨a0', c0', e0, _, _, i0⟩ := own_facts o06
  simp only [Value.slice.injEq, true_and] at e0
  obtain ⟨rfl, rfl⟩ := e0
  refine (eqFactS_same _ _ _ _ _ _ _ i1 i0 hgl).mono ?_
  rintro r w7 ⟨rfl, k7⟩
  have b7 := btrans b6 k7
  have x7 := range_keep x6 k7
  have o07 := own_below o06 k7
  have o17 := own_below o1 k7
  have fJ := fK.below k7
  have rf7 := range_keep rf6 k7
  have hs7 := Nat.le_trans hs6 k7.size
  clear b6 x6 h6 o06 fK rf6 i0 i1 k7 hs6 o1
  go_upto_region 10 with fail
  have mi := (h.below b7).toIn hm
  have fI := fJ.toIn fd fp fo (fun j hj => (mi.db j hj).2) (fun j hj => (mi.pb j hj).2) (fun j hj => (mi.ob j hj).2) mi.hf mi.hi mi.hd mi.hp mi.ho
  clear mi
  refine wp_region_q s5_10 t5_10 (fun hbq => ?_)
  iterate 2 refine qR ?_
  refine qC (fun K hK => ?_)
  go_simp
  refine (toNode_any me up gone gate inc now sq turn ta tl tc ca cl cc pn ps pq pa da dl dc cx cy ch ce pla pll plc oa ol oc F GI GD GP GO _ ((h.below (btrans b7 hbq)).toIn hm) (h.below (btrans b7 hbq)).cf (h.below (btrans b7 hbq)).ci (fun j hj => ((h.below (btrans b7 hbq)).db j hj).2.2) (fun j hj => ((h.below (btrans b7 hbq)).pb j hj).2.2) (fun j hj => ((h.below (btrans b7 hbq)).ob j hj).2.2)).mono ?_; rintro r w8 ⟨g1, g2, g3, g4, g5, gD, gP, gO, rfl, gN, gd, gp, go, k8⟩
  have hED : ∀ j, DtEq (fD j) (gD j) := fun j => (fd j).symm' (gd j)
  have hEP : ∀ j, PlEq (fP j) (gP j) := fun j => (fp j).symm' (gp j)
  have hEO : ∀ j, FgEq (fO j) (gO j) := fun j => (fo j).symm' (go j)
  go_wp2_with fail
  refine hK.out _ _ (btrans hbq k8) (.inl ?_)
  clear hK K
  replace hbq := btrans hbq k8
  clear k8
  try simp only [putQ]
  refine qC (fun K hK => ?_)
  go_simp
  refine (eqNode_same me up gone gate inc now sq turn (some ⟨f1, 0, none⟩) tl tl (some ⟨f2, 0, none⟩) cl cl pn ps pq pa (some ⟨f3, 0, none⟩) dl dl cx cy ch ce (some ⟨f4, 0, none⟩) pll pll (some ⟨f5, 0, none⟩) ol ol (some ⟨g1, 0, none⟩) tl (some ⟨g2, 0, none⟩) cl (some ⟨g3, 0, none⟩) dl (some ⟨g4, 0, none⟩) pll (some ⟨g5, 0, none⟩) ol F GI fD fP fO gD gP gO _ (fI.below hbq) gN hED hEP hEO).mono ?_; rintro r w9 ⟨rfl, k9⟩
  go_wp2_with fail
  refine hK.out _ _ (btrans hbq k9) (.inl ?_)
  clear hK K
  replace hbq := btrans hbq k9
  clear k9
  try simp only [putQ]
  refine qY ?_
  refine qE ?_
  have b8 := btrans b7 hbq
  have x8 := range_keep x7 hbq
  have o08 := own_below o07 hbq
  have o18 := own_below o17 hbq
  have fL := fJ.below hbq
  have fI8 := fI.below hbq
  have rf8 := range_keep rf7 hbq
  have hs8 := Nat.le_trans hs7 hbq.size
  clear b7 x7 o07 o17 fJ fI rf7 hs7 hbq gN hED hEP hEO gd gp go
  go_wp2_with (refine load43L (by rfl) (.tmp 5) rfl KX rfl [.int .i64 me, .bool up, .bool gone, .bool gate, .int .i64 inc, .int .i64 now, .int .i64 sq, .int .i64 turn, .slice (some ⟨f1, 0, none⟩) tl tl, .slice (some ⟨f2, 0, none⟩) cl cl, .int .i64 pn, .int .i64 ps, .int .i64 pq, .bool pa, .slice (some ⟨f3, 0, none⟩) dl dl, .int .i64 cx, .int .i64 cy, .int .i64 ch, .int .i64 ce, .slice (some ⟨f4, 0, none⟩) pll pll, .slice (some ⟨f5, 0, none⟩) ol ol] rf8 rfl ?_)
  refine (markNode_any me up gone gate inc now sq turn pn ps pq pa cx cy ch ce tl F cl GI dl fD pll fP ol fO lo hi f1 f2 f3 f4 f5 _ fL f5h fOh hs8 fI8.hf fI8.hi fI8.hd fI8.hp fI8.ho (fun j hj => (fI8.db j hj).2) (fun j hj => (fI8.pb j hj).2) (fun j hj => (fI8.ob j hj).2)).mono ?_
  rintro r w10 ⟨⟨kz, rfl⟩, M10⟩
  have b10 := M10.below b8 hbl
  have x10 := M10.range x8 (.inl hbl2)
  have o010 := own_mrk o08 M10 (fun x e => .inl (hlo x e))
  have o110 := own_mrk o18 M10 (fun x e => .inr (hh1 x e))
  have hkz : ¬ ((kz : Int) < 0) := by omega
  clear b8 x8 o08 o18 fL fI8 rf8 hs8 M10 f5h fOh fd fp fo
  go_wp2_with fail
  obtain ⟨a0', c0', e0, _, _, i0⟩ := own_facts o010
  simp only [Value.slice.injEq, true_and] at e0
  obtain ⟨rfl, rfl⟩ := e0
  obtain ⟨a1', c1', e0, _, _, i1⟩ := own_facts o110
  simp only [Value.slice.injEq, true_and] at e0
  obtain ⟨rfl, rfl⟩ := e0
  refine (eqFactS_same _ _ _ _ _ _ _ i1 i0 hgl).mono ?_
  rintro r w11 ⟨rfl, k11⟩
  have b11 := btrans b10 k11
  have x11 := range_keep x10 k11
  have o011 := own_below o010 k11
  have o111 := own_below o110 k11
  clear b10 x10 o010 o110 i0 i1 k11 hkz
  go_wp2_with fail
  refine (markF_own _ _ _ _ _ 1 _ o111 hgl (by omega)).mono ?_
  rintro r w12 ⟨rfl, om, g12⟩
  have b12 := b11.grown g12 b11.size (fun k hk => h1s k hk)
  have x12 := range_grow x11 g12 (fun k hk e => by have := hh1 k hk; omega)
  have o012 := o011.kept g12 q01
  clear b11 x11 o011 o111 g12
  obtain ⟨K, hK⟩ : ∃ K : Nat, Hid (1 + L.length * 4 = K) := ⟨_, rfl⟩
  rw [hK.out]
  go_wp2_with fail
  refine (heldF_any _ _ _ 1 _ (own_held om) hgl (by omega)).mono ?_
  rintro r w13 ⟨rfl, hw⟩
  obtain rfl := hw.symm
  clear hw
  rw [hK.out]
  have kk0 : ¬ ((K : Int) < 0) := by omega
  have kk1 : ¬ ((K : Int) ≠ (K : Int)) := by simp
  go_upto_region 24 with fail
  refine wp_region_q0 s5_24 t5_24 (fun hbq => ?_)
  refine qR ?_
  refine qC (fun K hK => ?_)
  go_simp
  refine (toNodeM_any me up gone gate inc now sq turn ta tl tc ca cl cc pn ps pq pa da dl dc cx cy ch ce pla pll plc oa ol oc F GI GD GP GO _ ((h.below (btrans b12 hbq)).toIn hm) (h.below (btrans b12 hbq)).cf (h.below (btrans b12 hbq)).ci (fun j hj => ((h.below (btrans b12 hbq)).db j hj).2.2) (fun j hj => ((h.below (btrans b12 hbq)).pb j hj).2.2) (fun j hj => ((h.below (btrans b12 hbq)).ob j hj).2.2)).mono ?_; rintro r w14 ⟨t1, t2, t3, t4, t5, tD, tP, tO, rfl, tN, td, tp, to_, k14⟩; have mit := (h.below (btrans b12 hbq)).toIn hm; have tI := tN.toIn td tp to_ (fun j hj => (mit.db j hj).2) (fun j hj => (mit.pb j hj).2) (fun j hj => (mit.ob j hj).2) mit.hf mit.hi mit.hd mit.hp mit.ho; have tA : ∀ j, j < ol → ∃ bb, (tO j).ba = some ⟨bb, 0, none⟩ := fun j hj => (by obtain ⟨bb, e, _⟩ := tN.oO j hj; exact ⟨bb, e⟩); clear mit
  go_wp2_with fail
  refine hK.out _ _ (btrans hbq k14) (.inl ?_)
  clear hK K
  replace hbq := btrans hbq k14
  clear k14
  try simp only [putQ]
  refine qC (fun K hK => ?_)
  go_simp
  refine (view19_any me up gone gate inc now sq turn t1 tl tl (some ⟨t2, 0, none⟩) cl cl pn ps pq pa (some ⟨t3, 0, none⟩) dl dl cx cy ch ce (some ⟨t4, 0, none⟩) pll pll (some ⟨t5, 0, none⟩) ol ol F GI tD tP tO _ tI tA).mono ?_; rintro r w15 ⟨hga, k15⟩; rw [nod_congr _ _ _ _ _ _ _ _ _ _ _ _ _ _ _ _ _ GD _ _ _ _ _ GP _ GO tD tP tO td tp to_, view_congr to_, hL.out] at hga; obtain ⟨v2, rfl, o2⟩ := hga
  go_wp2_with fail
  refine hK.out _ _ (btrans hbq k15) (.inl ?_)
  clear hK K
  replace hbq := btrans hbq k15
  clear k15
  try simp only [putQ]
  refine qY ?_
  refine qE ?_
  have b15 := btrans b12 hbq
  have o015 := own_below o012 hbq
  have om15 := own_below om hbq
  clear b12 o012 om x12 hbq tN td tp to_ tI tA
  obtain ⟨a2, c2, rfl, _, _, i2⟩ := own_facts o2
  go_wp2_with fail
  obtain ⟨a0', c0', e0, _, _, i0⟩ := own_facts o015
  simp only [Value.slice.injEq, true_and] at e0
  obtain ⟨rfl, rfl⟩ := e0
  refine (eqFactS_same _ _ _ _ _ _ _ i2 i0 hgl).mono ?_
  rintro r w16 ⟨rfl, k16⟩
  have b16 := btrans b15 k16
  have om16 := own_below om15 k16
  clear b15 om15 i0 i2 o015 o2 k16
  go_wp2_with fail
  refine (heldF_any _ _ _ 1 _ (own_held om16) hgl (by omega)).mono ?_
  rintro r w17 ⟨rfl, hw⟩
  obtain rfl := hw.symm
  clear hw om16
  rw [hK.out]
  go_wp2
  go_ret
  exact ⟨rfl, b16⟩
end Go.Proofs.YtdlaenbiamknlaaGreat
