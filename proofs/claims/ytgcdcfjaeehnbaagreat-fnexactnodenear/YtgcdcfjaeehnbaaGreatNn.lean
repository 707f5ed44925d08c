/- The nearest of three at most: sorted and then picked, or put in one by one. -/
import Derived.Sort.Defs
import Derived.Sort.LotA
import Derived.Test.YtgcdcfjaeehnbaaGreatStA
import Derived.Test.YtgcdcfjaeehnbaaGreatCd
import Derived.Test.YtgcdcfjaeehnbaaGreatNd21
import Derived.Test.YtgcdcfjaeehnbaaGreatShelf
import Derived.Test.YtgcdcfjaeehnbaaGreatNd25
import Derived.Test.YtgcdcfjaeehnbaaGreatWk
import Derived.Test.YtgcdcfjaeehnbaaGreatGatesF
namespace Go.Proofs.YtgcdcfjaeehnbaaGreat
open Go.Sort
/-- how many at the beginning are not farther -/
def cn (d : Int) : List Int → Nat
  | [] => 0
  | y :: r => if y ≤ d then cn d r + 1 else 0
theorem cn_le (d : Int) : ∀ l : List Int, cn d l ≤ l.length
  | [] => Nat.le_refl _
  | y :: r => by
    have := cn_le d r
    unfold cn
    split
    · simp; omega
    · exact Nat.zero_le _
/-- one is put in behind those that are not farther -/
def insP (f : Nat → Int) (S : List Nat) (x : Nat) : List Nat := S.take (cn (f x) (S.map f)) ++ x :: S.drop (cn (f x) (S.map f))
/-- the first n, put in one by one, if they are asked for -/
def spL (f : Nat → Int) (al : Nat → Bool) : Nat → List Nat
  | 0 => []
  | n + 1 => if al n then insP f (spL f al n) n else spL f al n
/-- the first n, sorted -/
def srt (f : Nat → Int) (n : Nat) : List Nat := (Sort.insertionSort (fun p q => decide (f p < f q)) (Array.range n) 0 n).toList
theorem rng1 : Array.range 1 = #[0] := rfl
theorem rng2 : Array.range 2 = #[0, 1] := rfl
theorem rng3 : Array.range 3 = #[0, 1, 2] := rfl
theorem cmp2 (x y : Int) : (x < y ∧ ¬ y ≤ x) ∨ (¬ x < y ∧ y ≤ x) := by omega
theorem srt0 (f : Nat → Int) : srt f 0 = [] := by simp [srt, insertionSort, insOuter]
theorem srt1 (f : Nat → Int) : srt f 1 = [0] := by simp [srt, insertionSort, insOuter, rng1]
theorem srt2 (f : Nat → Int) : srt f 2 = if f 1 < f 0 then [1, 0] else [0, 1] := by
  rcases cmp2 (f 1) (f 0) with ⟨h1, h2⟩ | ⟨h1, h2⟩ <;> simp [srt, insertionSort, insOuter, insInner, swp, rng2, h1]
theorem srt3 (f : Nat → Int) : srt f 3 = if f 1 < f 0 then (if f 2 < f 0 then (if f 2 < f 1 then [2, 1, 0] else [1, 2, 0]) else [1, 0, 2]) else (if f 2 < f 1 then (if f 2 < f 0 then [2, 0, 1] else [0, 2, 1]) else [0, 1, 2]) := by
  rcases cmp2 (f 1) (f 0) with ⟨h1, _⟩ | ⟨h1, _⟩ <;> rcases cmp2 (f 2) (f 0) with ⟨h2, _⟩ | ⟨h2, _⟩ <;> rcases cmp2 (f 2) (f 1) with ⟨h3, _⟩ | ⟨h3, _⟩ <;> simp [srt, insertionSort, insOuter, insInner, swp, rng3, h1, h2, h3]
theorem srt_lt (f : Nat → Int) : ∀ n, n ≤ 3 → (srt f n).length = n ∧ ∀ x ∈ srt f n, x < n := by
  intro n hn
  match n, hn with
  | 0, _ => simp [srt0]
  | 1, _ => simp [srt1]
  | 2, _ => rw [srt2]; split <;> simp
  | 3, _ => rw [srt3]; (repeat' split) <;> simp
theorem near_eq (f : Nat → Int) (al : Nat → Bool) : ∀ n, n ≤ 3 → spL f al n = (srt f n).filter al := by
  intro n hn
  match n, hn with
  | 0, _ => simp [srt0, spL]
  | 1, _ => cases h0 : al 0 <;> simp [srt1, spL, insP, cn, h0]
  | 2, _ =>
    rw [srt2]
    rcases cmp2 (f 1) (f 0) with ⟨h1, g1⟩ | ⟨h1, g1⟩ <;> cases a0 : al 0 <;> cases a1 : al 1 <;> simp [spL, insP, cn, h1, g1, a0, a1]
  | 3, _ =>
    rw [srt3]
    rcases cmp2 (f 1) (f 0) with ⟨h1, g1⟩ | ⟨h1, g1⟩ <;> rcases cmp2 (f 2) (f 0) with ⟨h2, g2⟩ | ⟨h2, g2⟩ <;> rcases cmp2 (f 2) (f 1) with ⟨h3, g3⟩ | ⟨h3, g3⟩ <;> first
      | (exfalso; omega)
      | (cases a0 : al 0 <;> cases a1 : al 1 <;> cases a2 : al 2 <;> simp [spL, insP, cn, h1, g1, h2, g2, h3, g3, a0, a1, a2])
end Go.Proofs.YtgcdcfjaeehnbaaGreat
/- The nearest first: what compares, and the sort. -/
namespace Go.Proofs.YtgcdcfjaeehnbaaGreat
open Go.ChangeShapes Go.WideShapes Go.ChangeAt Go.RowKit
attribute [local go_sem ↓] Go.wp_at_zero Go.wp_at_succ
/-- how far a place is -/
def pd (cx cy ch ce : Int) (p : Pl) : Int := Cd.dst cx cy ch ce p.x p.y p.h p.e
def s136_1 : List Stp := [⟨some 7, .load 38 (.tmp 2), 38, none, 0⟩, ⟨some 8, .load 39 (.tmp 3), 39, none, 0⟩, ⟨some 9, .move (.tmp 0), 3, none, 0⟩, ⟨some 10, .indexAddr 39 (.tmp 8) (.tmp 9), 0, none, 0⟩, ⟨some 11, .fieldAddr 103 (.tmp 10) 1, 0, none, 0⟩, ⟨some 12, .load 38 (.tmp 11), 38, none, 0⟩, ⟨some 14, .load 38 (.tmp 2), 38, none, 0⟩, ⟨some 15, .load 39 (.tmp 3), 39, none, 0⟩, ⟨some 16, .move (.tmp 1), 3, none, 0⟩, ⟨some 17, .indexAddr 39 (.tmp 15) (.tmp 16), 0, none, 0⟩, ⟨some 18, .fieldAddr 103 (.tmp 17) 1, 0, none, 0⟩, ⟨some 19, .load 38 (.tmp 18), 38, none, 0⟩, ⟨some 13, .call { callee := .value (.func 137), args := #[.tmp 7, .tmp 12], argTypes := #[38, 38] }, 3, none, 1⟩, ⟨some 20, .call { callee := .value (.func 137), args := #[.tmp 14, .tmp 19], argTypes := #[38, 38] }, 3, none, 1⟩, ⟨some 21, .binOp .lss 3 (.tmp 13) (.tmp 20) 3, 4, none, 0⟩, ⟨some 6, .assign (.tmp 21), 4, none, 0⟩]
def t136_1 : List (Nat × Nat) := [(0, 0), (1, 0), (2, 0), (3, 0), (4, 0), (5, 0), (7, 0), (8, 0), (9, 0), (10, 0), (11, 0), (12, 0), (6, 1), (13, 1), (14, 0), (15, 0)]
set_option maxRecDepth 20000 in
set_option maxHeartbeats 4000000 in
theorem pless_any (bx sx g c n i j : Nat) (cx cy ch ce : Int) (G : Nat → Pl) (w : World) (hi : i < n) (hj : j < n) (rb : w.rangeAt bx 0 [.int .i64 cx, .int .i64 cy, .int .i64 ch, .int .i64 ce]) (cs : w.cell? ⟨sx, 0, none⟩ = some (.slice (some ⟨g, 0, none⟩) n c))
    (ri : w.rangeAt g (i * 6 + 1) [.int .i64 (G i).x, .int .i64 (G i).y, .int .i64 (G i).h, .int .i64 (G i).e]) (rj : w.rangeAt g (j * 6 + 1) [.int .i64 (G j).x, .int .i64 (G j).y, .int .i64 (G j).h, .int .i64 (G j).e]) :
    Calls Tryz.prog 136 #[.int .i64 (i : Int), .int .i64 (j : Int), .pointer (some ⟨bx, 0, none⟩), .pointer (some ⟨sx, 0, none⟩)] w fun r w' => r = .returned (.bool (decide (pd cx cy ch ce (G i) < pd cx cy ch ce (G j)))) ∧ Below w.heap.size w w' := by
  have i0 : (0 : Int) ≤ (i : Int) := by omega
  have i1 : (i : Int) < (n : Int) := by omega
  have j0 : (0 : Int) ≤ (j : Int) := by omega
  have j1 : (j : Int) < (n : Int) := by omega
  go_enter Tryz.func136, Tryz.ntmps136
  go_upto_region 1 with fail
  refine wp_region_q s136_1 t136_1 (fun hbq => ?_)
  refine qR ?_
  refine qL ?_
  iterate 3 refine qY ?_
  iterate 2 refine qR ?_
  refine qL ?_
  iterate 3 refine qY ?_
  refine qR ?_
  refine qC (fun K hK => ?_)
  go_simp
  refine (Cd.fdist_any cx cy ch ce (G i).x (G i).y (G i).h (G i).e _).mono ?_; rintro r v1 ⟨rfl, k1⟩
  go_wp2_with fail
  refine hK.out _ _ (btrans hbq k1) (.inl ?_)
  clear hK K
  replace hbq := btrans hbq k1
  clear k1
  try simp only [putQ]
  refine qC (fun K hK => ?_)
  go_simp
  refine (Cd.fdist_any cx cy ch ce (G j).x (G j).y (G j).h (G j).e _).mono ?_; rintro r v2 ⟨rfl, k2⟩
  go_wp2_with fail
  refine hK.out _ _ (btrans hbq k2) (.inl ?_)
  clear hK K
  replace hbq := btrans hbq k2
  clear k2
  try simp only [putQ]
  iterate 2 refine qY ?_
  refine qE ?_
  go_wp2
  go_ret
  exact ⟨rfl, hbq⟩
end Go.Proofs.YtgcdcfjaeehnbaaGreat
/- The nearest first: the sort. -/
namespace Go.Proofs.YtgcdcfjaeehnbaaGreat
open Go.ChangeShapes Go.WideShapes Go.ChangeAt Go.RowKit Go.Shelf Go.Lib Go.Sort
attribute [local go_sem ↓] Go.wp_at_zero Go.wp_at_succ
set_option maxRecDepth 20000 in
theorem iT39 : ∃ i, Tryz.prog.info? 39 = some i ∧ i.desc = .slice 103 := ⟨(Tryz.prog.info? 39).get (by kernel_rfl), by kernel_rfl, by kernel_rfl⟩
set_option maxRecDepth 20000 in
theorem iE103 : ∃ i, Tryz.prog.info? 103 = some i ∧ i.size = 6 ∧ i.hasPointers = true ∧ (i.bytes == 8) = false := ⟨(Tryz.prog.info? 103).get (by kernel_rfl), by kernel_rfl, by kernel_rfl, by kernel_rfl, by kernel_rfl⟩
/-- a place's cells -/
def pe (G : Nat → Pl) (j : Nat) : List Value := [.int .i64 (G j).n, .int .i64 (G j).x, .int .i64 (G j).y, .int .i64 (G j).h, .int .i64 (G j).e, .slice (G j).ba (G j).bl (G j).bc]
theorem pe_at (G : Nat → Pl) (j : Nat) : Plv G j = (pe G (j / 6))[j % 6]! := by
  have hq : j % 6 = 0 ∨ j % 6 = 1 ∨ j % 6 = 2 ∨ j % 6 = 3 ∨ j % 6 = 4 ∨ j % 6 = 5 := by omega
  unfold Plv pe
  rcases hq with q | q | q | q | q | q <;> simp [q]
theorem pe_one (G : Nat → Pl) : ∀ j, ∀ v ∈ pe G j, v.oneCell' = true := by
  intro j v hv
  simp [pe] at hv
  rcases hv with rfl | rfl | rfl | rfl | rfl | rfl <;> rfl
theorem plv_one (G : Nat → Pl) (j : Nat) : (Plv G j).oneCell' = true := by
  unfold Plv
  repeat' split
  all_goals rfl
theorem holdsK_own {w : World} {base g n c : Nat} {G : Nat → Pl} (h : w.ownsRow base 103 6 (.slice (some ⟨g, 0, none⟩) n c) n (rv (Plv G) (n * 6))) : HoldsK (pe G) 6 w g 0 (Array.range n) := by
  intro j hj
  have hj' : j < n * 6 := by simpa using hj
  rw [get_flatK _ _ _ _ (by simpa using hj'), Nat.zero_add]
  refine ⟨?_, h.frozenAt j⟩
  rw [own_at h hj', pe_at]
  have e : (Array.range n)[j / 6]! = j / 6 := by simp [show j / 6 < n by omega]
  rw [e]
  rfl
theorem holdsK_in {w : World} {g n : Nat} {G : Nat → Pl} {d : Array Nat} (h : HoldsK (pe G) 6 w g 0 d) (hn : d.size = n) : PlIn w g 0 n fun j => G (d[j]!) := fun k hk => by
  have q := fun c hc => (h.cell (i := k) (c := c) (by omega) hc).1
  have q0 := q 0 (by omega); have q1 := q 1 (by omega); have q2 := q 2 (by omega); have q3 := q 3 (by omega); have q4 := q 4 (by omega); have q5 := q 5 (by omega)
  exact ⟨q0, q1, q2, q3, q4, q5⟩
theorem place_range {w : World} {g n : Nat} {F : Nat → Pl} (h : PlIn w g 0 n F) {k : Nat} (hk : k < n) : w.rangeAt g (k * 6 + 1) [.int .i64 (F k).x, .int .i64 (F k).y, .int .i64 (F k).h, .int .i64 (F k).e] := by
  obtain ⟨_, h1, h2, h3, h4, _⟩ := h k hk
  simp only [Nat.zero_add] at h1 h2 h3 h4
  exact range4 h1 h2 h3 h4
set_option maxRecDepth 20000 in
theorem psort_two (bx sx g n c base : Nat) (cx cy ch ce : Int) (G : Nat → Pl) (w : World) (h : w.ownsRow base 103 6 (.slice (some ⟨g, 0, none⟩) n c) n (rv (Plv G) (n * 6))) (rb : w.rangeAt bx 0 [.int .i64 cx, .int .i64 cy, .int .i64 ch, .int .i64 ce]) (cs : w.cell? ⟨sx, 0, none⟩ = some (.slice (some ⟨g, 0, none⟩) n c)) (hb : bx ≠ g) (hs : sx ≠ g) (h2 : 2 ≤ n) (h3 : n ≤ 3) :
    Calls Tryz.prog 135 #[.iface 39 (.slice (some ⟨g, 0, none⟩) n c), .func (.func 136) #[] #[.pointer (some ⟨bx, 0, none⟩), .pointer (some ⟨sx, 0, none⟩)]] w fun e w' => e = .returned (.tuple #[]) ∧ PlIn w' g 0 n (fun j => G ((srt (fun t => pd cx cy ch ce (G t)) n).getD j 0)) ∧ Mw (fun x => x = g) w w' := by
  obtain ⟨iT, hiT, hdT⟩ := iT39
  obtain ⟨iE, hiE, hsz, hpt, hby⟩ := iE103
  have hK : swapperK (Array.range n).size iE 25 = 9 := by
    have c1 : (n == 0) = false := by rw [beq_eq_false_iff_ne]; omega
    have c2 : (n == 1) = false := by rw [beq_eq_false_iff_ne]; omega
    simp [swapperK, hpt, hby, c1, c2]
  have hless : LessA Tryz.prog 136 #[.pointer (some ⟨bx, 0, none⟩), .pointer (some ⟨sx, 0, none⟩)] (pe G) 6 (fun p q => decide (pd cx cy ch ce (G p) < pd cx cy ch ce (G q))) g 0 (Array.range n).size w := by
    intro wr dk hA hsz i j hi hj
    rw [Array.size_range] at hsz hi hj
    have hin := holdsK_in hA.1 hsz
    exact pless_any bx sx g c n i j cx cy ch ce (fun t => G (dk[t]!)) wr hi hj (hA.2.range rb hb) (hA.2.cell cs hs) (place_range hin hi) (place_range hin hj)
  have hS := sort_stable_at Tryz.laysGt8 39 103 iT iE hiT hdT (by kernel_rfl) hiE 25 (fun _ => by kernel_rfl) (pe G) 6 (fun _ => rfl) hsz (fun _ => by kernel_rfl) (pe_one G) (fun p q => decide (pd cx cy ch ce (G p) < pd cx cy ch ce (G q))) 136 #[.pointer (some ⟨bx, 0, none⟩), .pointer (some ⟨sx, 0, none⟩)]
    (enters_of Tryz.func136 (by kernel_rfl) rfl) g 0 c (Array.range n) (by simpa using h2) (by simp; omega) 253 (by rw [hK]; kernel_rfl) false
    (fun args W => run_callFunc_extern Tryz.func253 (by kernel_rfl) (by kernel_rfl) (by kernel_rfl) (e := Extern.ReflectliteSwapper.swap false) (by kernel_rfl) args W) w hless (holdsK_own h) (h.lt g rfl).2
  rw [Array.size_range] at hS
  change Calls Tryz.prog 135 _ _ _ at hS
  refine hS.mono ?_
  rintro e w' ⟨rfl, hH, hM⟩
  have hl := (srt_lt (fun t => pd cx cy ch ce (G t)) n h3).1
  have hin := holdsK_in (n := n) hH (by simpa [srt] using hl)
  refine ⟨rfl, fun k hk => ?_, hM⟩
  have e0 : (srt (fun t => pd cx cy ch ce (G t)) n).getD k 0 = (Sort.insertionSort (fun p q => decide (pd cx cy ch ce (G p) < pd cx cy ch ce (G q))) (Array.range n) 0 n)[k]! := by
    unfold srt
    rw [Array.getElem!_eq_getD, List.getD_eq_getElem?_getD, Array.getD_eq_getD_getElem?, Array.getElem?_toList]
    rfl
  have := hin k hk
  dsimp only at this
  rw [← e0] at this
  exact this
set_option maxRecDepth 20000 in
theorem psort_one (bx sx g c base : Nat) (cx cy ch ce : Int) (G : Nat → Pl) (w : World) (h : w.ownsRow base 103 6 (.slice (some ⟨g, 0, none⟩) 1 c) 1 (rv (Plv G) (1 * 6))) :
    Calls Tryz.prog 135 #[.iface 39 (.slice (some ⟨g, 0, none⟩) 1 c), .func (.func 136) #[] #[.pointer (some ⟨bx, 0, none⟩), .pointer (some ⟨sx, 0, none⟩)]] w fun e w' => e = .returned (.tuple #[]) ∧ PlIn w' g 0 1 (fun j => G ((srt (fun t => pd cx cy ch ce (G t)) 1).getD j 0)) ∧ Mw (fun x => x = g) w w' := by
  obtain ⟨iT, hiT, hdT⟩ := iT39
  obtain ⟨iE, hiE, _, _, _⟩ := iE103
  have hK : swapperK 1 iE 25 = 2 := by simp [swapperK]
  have hS := Any.sort_SliceStable_tiny Tryz.laysGt8 39 103 iT iE hiT hdT (by kernel_rfl) hiE 25 (fun _ => by kernel_rfl) (some ⟨g, 0, none⟩) 1 c (by omega) 246 (by rw [hK]; kernel_rfl) (.func 136) #[] #[.pointer (some ⟨bx, 0, none⟩), .pointer (some ⟨sx, 0, none⟩)] w
  change Calls Tryz.prog 135 _ _ _ at hS
  refine hS.mono ?_
  rintro e w' ⟨rfl, os, rfl⟩
  have hg : Below w.heap.size w (grow w os) := ⟨rfl, rfl, rfl, by simp, fun k hk => heap_grow_old _ _ hk⟩
  refine ⟨rfl, fun k hk => ?_, Mw.of_below hg⟩
  obtain rfl : k = 0 := by omega
  have hin := holdsK_in (n := 1) (holdsK_below (holdsK_own h) hg (h.lt g rfl).2) (by simp)
  have := hin 0 (by omega)
  rw [srt1]
  exact this
set_option maxRecDepth 20000 in
theorem psort_nil (bx sx : Nat) (w : World) :
    Calls Tryz.prog 135 #[.iface 39 (.slice none 0 0), .func (.func 136) #[] #[.pointer (some ⟨bx, 0, none⟩), .pointer (some ⟨sx, 0, none⟩)]] w fun e w' => e = .returned (.tuple #[]) ∧ Below w.heap.size w w' := by
  obtain ⟨iT, hiT, hdT⟩ := iT39
  obtain ⟨iE, hiE, _, _, _⟩ := iE103
  have hK : swapperK 0 iE 25 = 1 := by simp [swapperK]
  have hS := Any.sort_SliceStable_tiny Tryz.laysGt8 39 103 iT iE hiT hdT (by kernel_rfl) hiE 25 (fun _ => by kernel_rfl) none 0 0 (by omega) 245 (by rw [hK]; kernel_rfl) (.func 136) #[] #[.pointer (some ⟨bx, 0, none⟩), .pointer (some ⟨sx, 0, none⟩)] w
  change Calls Tryz.prog 135 _ _ _ at hS
  refine hS.mono ?_
  rintro e w' ⟨rfl, os, rfl⟩
  exact ⟨rfl, ⟨rfl, rfl, rfl, by simp, fun k hk => heap_grow_old _ _ hk⟩⟩
end Go.Proofs.YtgcdcfjaeehnbaaGreat
/- The nearest first. -/
namespace Go.Proofs.YtgcdcfjaeehnbaaGreat
open Go.ChangeShapes Go.WideShapes Go.ChangeAt Go.RowKit Go.Shelf Go.Lib Go.Sort
attribute [local go_sem ↓] Go.wp_at_zero Go.wp_at_succ
theorem pl_src {w : World} {a : Option Addr} {n c : Nat} {G : Nat → Pl} (h : PlSl w a n G) (hf : Fine a n c) : Src w (.slice a n c) n (n * 6) (Plv G) := src_of hf (by omega) fun hl => by
  obtain ⟨b, off, e, hb, hc⟩ := h hl
  refine ⟨b, off, e, hb, fun j hj => ?_⟩
  obtain ⟨c0, c1, c2, c3, c4, c5⟩ := hc (j / 6) (by omega)
  have : j % 6 = 0 ∨ j % 6 = 1 ∨ j % 6 = 2 ∨ j % 6 = 3 ∨ j % 6 = 4 ∨ j % 6 = 5 := by omega
  rcases this with hr | hr | hr | hr | hr | hr
  · rw [show off + j / 6 * 6 = off + j by omega] at c0; rw [c0, Plv, if_pos hr]
  · rw [show off + j / 6 * 6 + 1 = off + j by omega] at c1; rw [c1, Plv, if_neg (by omega), if_pos hr]
  · rw [show off + j / 6 * 6 + 2 = off + j by omega] at c2; rw [c2, Plv, if_neg (by omega), if_neg (by omega), if_pos hr]
  · rw [show off + j / 6 * 6 + 3 = off + j by omega] at c3; rw [c3, Plv, if_neg (by omega), if_neg (by omega), if_neg (by omega), if_pos hr]
  · rw [show off + j / 6 * 6 + 4 = off + j by omega] at c4; rw [c4, Plv, if_neg (by omega), if_neg (by omega), if_neg (by omega), if_neg (by omega), if_pos hr]
  · rw [show off + j / 6 * 6 + 5 = off + j by omega] at c5; rw [c5, Plv, if_neg (by omega), if_neg (by omega), if_neg (by omega), if_neg (by omega), if_neg (by omega)]
theorem psort_any (bx sx n base : Nat) (v : Value) (cx cy ch ce : Int) (G : Nat → Pl) (w : World) (h : w.ownsRow base 103 6 v n (rv (Plv G) (n * 6))) (rb : w.rangeAt bx 0 [.int .i64 cx, .int .i64 cy, .int .i64 ch, .int .i64 ce]) (cs : w.cell? ⟨sx, 0, none⟩ = some v) (hb : v.ownBlock ≠ some bx) (hs : v.ownBlock ≠ some sx) (h3 : n ≤ 3) :
    Calls Tryz.prog 135 #[.iface 39 v, .func (.func 136) #[] #[.pointer (some ⟨bx, 0, none⟩), .pointer (some ⟨sx, 0, none⟩)]] w fun e w' => e = .returned (.tuple #[]) ∧ (∃ a c, v = .slice a n c ∧ PlSl w' a n (fun j => G ((srt (fun t => pd cx cy ch ce (G t)) n).getD j 0))) ∧ Mw (fun x => v.ownBlock = some x) w w' := by
  rcases own_cases h with ⟨rfl, rfl⟩ | ⟨g, c, rfl, _, hl, _⟩
  · exact (psort_nil bx sx w).mono (by rintro r w' ⟨rfl, k⟩; exact ⟨rfl, ⟨_, _, rfl, fun h => absurd h (by omega)⟩, Mw.of_below k⟩)
  · have e1 : bx ≠ g := fun e => hb (by rw [e]; rfl)
    have e2 : sx ≠ g := fun e => hs (by rw [e]; rfl)
    have fin : ∀ e w', e = .returned (.tuple #[]) ∧ PlIn w' g 0 n (fun j => G ((srt (fun t => pd cx cy ch ce (G t)) n).getD j 0)) ∧ Mw (fun x => x = g) w w' → e = Ending.returned (.tuple #[]) ∧ (∃ a c', Value.slice (some ⟨g, 0, none⟩) n c = .slice a n c' ∧ PlSl w' a n (fun j => G ((srt (fun t => pd cx cy ch ce (G t)) n).getD j 0))) ∧ Mw (fun x => (Value.slice (some ⟨g, 0, none⟩) n c).ownBlock = some x) w w' := by
      rintro e w' ⟨rfl, hi, hm⟩
      exact ⟨rfl, ⟨_, _, rfl, fun _ => ⟨g, 0, rfl, Nat.lt_of_lt_of_le hl hm.size, hi⟩⟩, hm.mono (fun x q => by rw [q]; rfl)⟩
    by_cases h2 : 2 ≤ n
    · exact (psort_two bx sx g n c base cx cy ch ce G w h rb cs e1 e2 h2 h3).mono fin
    · have hn : n = 0 ∨ n = 1 := by omega
      rcases hn with rfl | rfl
      · obtain ⟨iT, hiT, hdT⟩ := iT39
        obtain ⟨iE, hiE, _, _, _⟩ := iE103
        have hK : Lib.swapperK 0 iE 25 = 1 := by simp [Lib.swapperK]
        have hS := Any.sort_SliceStable_tiny Tryz.laysGt8 39 103 iT iE hiT hdT (by kernel_rfl) hiE 25 (fun _ => by kernel_rfl) (some ⟨g, 0, none⟩) 0 c (by omega) 245 (by rw [hK]; kernel_rfl) (.func 136) #[] #[.pointer (some ⟨bx, 0, none⟩), .pointer (some ⟨sx, 0, none⟩)] w
        change Calls Tryz.prog 135 _ _ _ at hS
        refine hS.mono ?_
        rintro e w' ⟨rfl, os, rfl⟩
        have hg : Below w.heap.size w (Sort.grow w os) := ⟨rfl, rfl, rfl, by simp, fun k hk => heap_grow_old _ _ hk⟩
        exact ⟨rfl, ⟨_, _, rfl, fun h => absurd h (by omega)⟩, Mw.of_below hg⟩
      · exact (psort_one bx sx g c base cx cy ch ce G w h).mono fin
set_option maxRecDepth 20000 in
set_option maxHeartbeats 4000000 in
theorem nearF_any (cx cy ch ce : Int) (a : Option Addr) (n c : Nat) (G : Nat → Pl) (w : World) (h : PlSl w a n G) (hf : Fine a n c) (h3 : n ≤ 3) :
    Calls Tryz.prog 73 #[.agg #[.int .i64 cx, .int .i64 cy, .int .i64 ch, .int .i64 ce], .slice a n c] w fun r w' => (∃ a' c', r = .returned (.slice a' n c') ∧ PlSl w' a' n (fun j => G ((srt (fun t => pd cx cy ch ce (G t)) n).getD j 0))) ∧ Below w.heap.size w w' := by
  go_enter Tryz.func73, Tryz.ntmps73
  go_upto_region 1 with fail
  have b0 := balloc (.cells #[.int .i64 cx, .int .i64 cy, .int .i64 ch, .int .i64 ce] 38) (Below.refl w.heap.size w)
  have X := Ws.box (w := w) #[.int .i64 cx, .int .i64 cy, .int .i64 ch, .int .i64 ce] 38
  have h0 := h.below b0
  generalize w.alloc (.cells #[.int .i64 cx, .int .i64 cy, .int .i64 ch, .int .i64 ce] 38) = u at *
  go_wp2_with fail
  refine (cpP_any (.slice a n c) n (Plv G) u (pl_src h0 hf) (fun j _ => plv_one G j) (by omega)).mono ?_
  rintro r w1 ⟨v, rfl, o1, k1⟩
  obtain ⟨a1, c1, hv, _⟩ := own_slice o1
  subst hv
  have bx := balloc (.cells #[.slice a1 n c1] 39) (Below.refl w1.heap.size w1)
  have Y := Ws.box (w := w1) #[.slice a1 n c1] 39
  go_upto_region 2 with fail
  have k2 := btrans k1 bx
  have o2 := own_below o1 bx
  have X2 := X.below k2
  have B2 := btrans b0 k2
  have lx := X.lt
  have lo : ∀ x, (Value.slice a1 n c1).ownBlock = some x → u.heap.size ≤ x ∧ x < w1.heap.size := fun x e => o1.lt x e
  clear X h0 h hf o1 bx
  generalize w1.alloc (.cells #[.slice a1 n c1] 39) = u2 at *
  obtain ⟨xb, hxb⟩ : ∃ x, Hid (w.heap.size = x) := ⟨_, rfl⟩
  obtain ⟨xs, hxs⟩ : ∃ x, Hid (w1.heap.size = x) := ⟨_, rfl⟩
  rw [hxb.out] at X2 lx ⊢
  rw [hxs.out] at Y lo ⊢
  have cs := Y.c 0 _ rfl
  have e1 : (Value.slice a1 n c1).ownBlock ≠ some xb := fun e => by have := lo xb e; omega
  have e2 : (Value.slice a1 n c1).ownBlock ≠ some xs := fun e => by have := lo xs e; omega
  have hs := psort_any xb xs n u.heap.size _ cx cy ch ce G u2 o2 X2.range cs e1 e2 h3
  have hs' : Hid _ := hs
  clear hs o2
  go_wp2_with fail
  refine Calls.mono hs'.out ?_
  rintro r w3 ⟨rfl, ⟨a3, c3, hv, hP⟩, hm⟩
  injection hv with q1 _ q2
  subst q1 q2
  have cs3 : w3.cell? ⟨xs, 0, none⟩ = some (.slice a1 n c1) := hm.cell cs e2
  have B3 : Below w.heap.size w w3 := hm.below B2 (fun i e => by have := (lo i e).1; have := hxb.out; omega)
  clear hs' cs hm X2 Y lo e1 e2
  go_wp2
  go_ret
  exact ⟨⟨_, _, rfl, hP⟩, hxb.out ▸ B3⟩
end Go.Proofs.YtgcdcfjaeehnbaaGreat
/- Who is near: the list that both ways answer. -/
namespace Go.Proofs.YtgcdcfjaeehnbaaGreat
open Go.ChangeShapes Go.WideShapes Go.ChangeAt Go.RowKit
/-- a place's node is alive -/
def alv (tl : Nat) (F : Nat → Fc) (GP : Nat → Pl) (j : Nat) : Bool := stn tl F (GP j).n == 1
/-- how far a node's place is -/
def far (cx cy ch ce : Int) (GP : Nat → Pl) (j : Nat) : Int := pd cx cy ch ce (GP j)
/-- the nearest of those that are alive -/
def nrL (most cx cy ch ce : Int) (tl : Nat) (F : Nat → Fc) (pll : Nat) (GP : Nat → Pl) : List Int := (((srt (far cx cy ch ce GP) pll).filter (alv tl F GP)).take most.toNat).map fun j => (GP j).n
/-- what is answered -/
def neaL (q up : Bool) (most cx cy ch ce : Int) (tl : Nat) (F : Nat → Fc) (pll : Nat) (GP : Nat → Pl) : List Int := if q && up then nrL most cx cy ch ce tl F pll GP else []
/-- picked one by one -/
def nrS (S : List Nat) (al : Nat → Bool) (g : Nat → Int) (most : Int) : Nat → List Int
  | 0 => []
  | k + 1 => if ((nrS S al g most k).length : Int) < most ∧ al (S.getD k 0) = true then nrS S al g most k ++ [g (S.getD k 0)] else nrS S al g most k
theorem nrS_le (S : List Nat) (al : Nat → Bool) (g : Nat → Int) (most : Int) : ∀ k, (nrS S al g most k).length ≤ k
  | 0 => Nat.le_refl _
  | k + 1 => by
    have := nrS_le S al g most k
    unfold nrS
    split
    · simp; omega
    · omega
theorem nrS_take (S : List Nat) (al : Nat → Bool) (g : Nat → Int) (most : Int) : ∀ k, k ≤ S.length → nrS S al g most k = (((S.take k).filter al).take most.toNat).map g
  | 0, _ => by simp [nrS]
  | k + 1, h => by
    have ih := nrS_take S al g most k (by omega)
    have hk : k < S.length := by omega
    have e1 : S.take (k + 1) = S.take k ++ [S.getD k 0] := by
      rw [List.take_add_one, List.getElem?_eq_getElem hk, List.getD_eq_getElem?_getD, List.getElem?_eq_getElem hk]
      rfl
    rw [nrS, e1, List.filter_append, ih]
    generalize (S.take k).filter al = T
    have el : ((T.take most.toNat).map g).length = min most.toNat T.length := by simp
    rw [el]
    cases ha : al (S.getD k 0)
    · rw [if_neg (by simp)]
      have e2 : [S.getD k 0].filter al = [] := by simp only [List.filter_cons, ha, List.filter_nil]; rfl
      rw [e2, List.append_nil]
    · have e2 : [S.getD k 0].filter al = [S.getD k 0] := by simp only [List.filter_cons, ha, List.filter_nil]; rfl
      rw [e2]
      by_cases q : ((min most.toNat T.length : Nat) : Int) < most
      · have h1 : T.length < most.toNat := by omega
        rw [if_pos ⟨q, rfl⟩, List.take_of_length_le (l := T ++ [S.getD k 0]) (by simp; omega), List.take_of_length_le (l := T) (by omega), List.map_append]
        rfl
      · rw [if_neg (fun c => q c.1), List.take_append_of_le_length (by omega)]
theorem nrS_all (most cx cy ch ce : Int) (tl : Nat) (F : Nat → Fc) (pll : Nat) (GP : Nat → Pl) (h3 : pll ≤ 3) : nrS (srt (far cx cy ch ce GP) pll) (alv tl F GP) (fun j => (GP j).n) most pll = nrL most cx cy ch ce tl F pll GP := by
  have hl := (srt_lt (far cx cy ch ce GP) pll h3).1
  have e : (srt (far cx cy ch ce GP) pll).take pll = srt (far cx cy ch ce GP) pll := List.take_of_length_le (by omega)
  rw [nrS_take _ _ _ _ _ (by omega), e]
  rfl
theorem nrL_le (most cx cy ch ce : Int) (tl : Nat) (F : Nat → Fc) (pll : Nat) (GP : Nat → Pl) (h3 : pll ≤ 3) : (nrL most cx cy ch ce tl F pll GP).length ≤ 3 := by
  rw [← nrS_all most cx cy ch ce tl F pll GP h3]
  exact Nat.le_trans (nrS_le _ _ _ _ _) h3
theorem ste_bd {n : Int} (h0 : 0 ≤ n) (h1 : n ≤ 7) : ste n * 4 ≤ n ∧ n ≤ ste n * 4 + 3 := by
  unfold ste
  rw [show wrap64 (n.tdiv 4) = n / 4 by rw [Int.tdiv_eq_ediv_of_nonneg h0]; unfold wrap64; omega]
  omega
/-- who is ok knows the places of three at most -/
theorem nod_three (me : Int) (up gone gate : Bool) (inc now sq turn : Int) (tl : Nat) (F : Nat → Fc) (cl : Nat) (GI : Nat → It) (pn ps pq : Int) (pa : Bool) (dl : Nat) (GD : Nat → Dt) (cx cy ch ce : Int) (pll : Nat) (GP : Nat → Pl) (ol : Nat) (GO : Nat → Fg) (h : nodB me up gone gate inc now sq turn tl F cl GI pn ps pq pa dl GD cx cy ch ce pll GP ol GO = true) (hu : up = true) : pll ≤ 3 := by
  unfold nodB at h
  rw [Bool.and_eq_true, Bool.or_eq_true] at h
  obtain ⟨hn, h2⟩ := h
  have hme : 0 ≤ me ∧ me ≤ 7 := by
    unfold numB inb at hn
    simp only [Bool.and_eq_true, decide_eq_true_eq] at hn
    omega
  rcases h2 with h2 | h2
  · unfold dwn at h2
    simp [hu] at h2
  · rw [Bool.and_eq_true] at h2
    have h3 := h2.2
    unfold upB at h3
    simp only [Bool.and_eq_true] at h3
    have hp := h3.1.2
    unfold plsB plA Plasc risB at hp
    simp only [Bool.and_eq_true, decide_eq_true_eq] at hp
    obtain ⟨hr, ha⟩ := hp
    have hb : ∀ k, k < pll → ste me * 4 ≤ (GP k).n ∧ (GP k).n ≤ ste me * 4 + 3 ∧ (GP k).n ≠ me := fun k hk => by
      have hk2 := ha k hk
      unfold plcB mateB ofB inb at hk2
      simp only [Bool.and_eq_true, decide_eq_true_eq, beq_iff_eq] at hk2
      obtain ⟨⟨⟨⟨⟨⟨q1, q2⟩, q3⟩, q4⟩, _⟩, _⟩, _⟩ := hk2
      have := ste_bd q1 q2
      rw [q3] at this
      exact ⟨this.1, this.2, q4⟩
    have hmb := ste_bd hme.1 hme.2
    rcases Nat.lt_or_ge 3 pll with q | q
    · exfalso
      have r1 := hr 1 (by omega) (by omega)
      have r2 := hr 2 (by omega) (by omega)
      have r3 := hr 3 (by omega) (by omega)
      have b0 := hb 0 (by omega)
      have b1 := hb 1 (by omega)
      have b2 := hb 2 (by omega)
      have b3 := hb 3 (by omega)
      simp only [Nat.sub_self] at r1
      simp only [show 2 - 1 = 1 from rfl] at r2
      simp only [show 3 - 1 = 2 from rfl] at r3
      omega
    · exact q
end Go.Proofs.YtgcdcfjaeehnbaaGreat
/- Who is near, by the program. -/
namespace Go.Proofs.YtgcdcfjaeehnbaaGreat
open Go.ChangeShapes Go.WideShapes Go.ChangeAt Go.RowKit
attribute [local go_sem ↓] Go.wp_at_zero Go.wp_at_succ
def GaR (e : Ending) (base : Nat) (w' : World) (L : List Int) : Prop := ∃ v, e = .returned v ∧ w'.ownsRow base 3 1 v L.length (lv L)
theorem nodeOk38_litN (me : Int) (up gone gate : Bool) (inc now sq turn : Int) (ta : Option Addr) (tl tc : Nat) (ca : Option Addr) (cl cc : Nat) (pn ps pq : Int) (pa : Bool) (da : Option Addr) (dl dc : Nat) (cx cy ch ce : Int) (pla : Option Addr) (pll plc : Nat) (oa : Option Addr) (ol oc : Nat) (F : Nat → Fc) (GI : Nat → It) (GD : Nat → Dt) (GP : Nat → Pl) (GO : Nat → Fg) (b : Bool) (hb : nodB me up gone gate inc now sq turn tl F cl GI pn ps pq pa dl GD cx cy ch ce pll GP ol GO = b) (w : World) (h : NdIn w ta tl F ca cl GI da dl GD pla pll GP oa ol GO) :
    Calls Tryz.prog 38 #[.agg #[.int .i64 me, .bool up, .bool gone, .bool gate, .int .i64 inc, .int .i64 now, .int .i64 sq, .int .i64 turn, .slice ta tl tc, .slice ca cl cc, .int .i64 pn, .int .i64 ps, .int .i64 pq, .bool pa, .slice da dl dc, .int .i64 cx, .int .i64 cy, .int .i64 ch, .int .i64 ce, .slice pla pll plc, .slice oa ol oc]] w fun r w' => r = .returned (.bool b) ∧ Below w.heap.size w w' := hb ▸ nodeOk11_any me up gone gate inc now sq turn ta tl tc ca cl cc pn ps pq pa da dl dc cx cy ch ce pla pll plc oa ol oc F GI GD GP GO w h
def s19_1 : List Stp := [⟨some 8, .load 42 (.tmp 2), 42, none, 0⟩, ⟨some 9, .call { callee := .value (.func 38), args := #[.tmp 8], argTypes := #[42] }, 4, none, 1⟩, ⟨some 10, .unOp .not 4 (.tmp 9), 4, none, 0⟩, ⟨some 11, .move (.tmp 10), 4, none, 0⟩, ⟨some 12, .fieldAddr 42 (.tmp 2) 1, 0, some (11, false), 0⟩, ⟨some 13, .load 4 (.tmp 12), 4, some (11, false), 0⟩, ⟨some 14, .unOp .not 4 (.tmp 13), 4, some (11, false), 0⟩, ⟨some 15, .pick (.tmp 11) (.const (.bool true)) (.tmp 14), 4, none, 0⟩]
def t19_1 : List (Nat × Nat) := [(0, 0), (1, 1), (2, 0), (3, 0), (4, 0), (5, 0), (6, 0), (7, 0)]
set_option maxRecDepth 20000 in
set_option maxHeartbeats 4000000 in
theorem near19_any (me : Int) (up gone gate : Bool) (inc now sq turn : Int) (ta : Option Addr) (tl tc : Nat) (ca : Option Addr) (cl cc : Nat) (pn ps pq : Int) (pa : Bool) (da : Option Addr) (dl dc : Nat) (cx cy ch ce : Int) (pla : Option Addr) (pll plc : Nat) (oa : Option Addr) (ol oc : Nat) (F : Nat → Fc) (GI : Nat → It) (GD : Nat → Dt) (GP : Nat → Pl) (GO : Nat → Fg) (most : Int) (w : World) (h : NdIn w ta tl F ca cl GI da dl GD pla pll GP oa ol GO) (hf : Fine pla pll plc) :
    Calls Tryz.prog 19 #[.agg #[.int .i64 me, .bool up, .bool gone, .bool gate, .int .i64 inc, .int .i64 now, .int .i64 sq, .int .i64 turn, .slice ta tl tc, .slice ca cl cc, .int .i64 pn, .int .i64 ps, .int .i64 pq, .bool pa, .slice da dl dc, .int .i64 cx, .int .i64 cy, .int .i64 ch, .int .i64 ce, .slice pla pll plc, .slice oa ol oc], .int .i64 most] w fun e w' => GaR e w.heap.size w' (neaL (nodB me up gone gate inc now sq turn tl F cl GI pn ps pq pa dl GD cx cy ch ce pll GP ol GO) up most cx cy ch ce tl F pll GP) ∧ Below w.heap.size w w' := by
  obtain ⟨ti, hi, hz0, hz1, hz2⟩ := info_parts info3
  have b0 := balloc (.cells #[.int .i64 me, .bool up, .bool gone, .bool gate, .int .i64 inc, .int .i64 now, .int .i64 sq, .int .i64 turn, .slice ta tl tc, .slice ca cl cc, .int .i64 pn, .int .i64 ps, .int .i64 pq, .bool pa, .slice da dl dc, .int .i64 cx, .int .i64 cy, .int .i64 ch, .int .i64 ce, .slice pla pll plc, .slice oa ol oc] 42) (Below.refl w.heap.size w)
  have X := Ws.box (w := w) #[.int .i64 me, .bool up, .bool gone, .bool gate, .int .i64 inc, .int .i64 now, .int .i64 sq, .int .i64 turn, .slice ta tl tc, .slice ca cl cc, .int .i64 pn, .int .i64 ps, .int .i64 pq, .bool pa, .slice da dl dc, .int .i64 cx, .int .i64 cy, .int .i64 ch, .int .i64 ce, .slice pla pll plc, .slice oa ol oc] 42
  go_enter Tryz.func19, Tryz.ntmps19
  go_upto_region 1 with fail
  generalize w.alloc (.cells #[.int .i64 me, .bool up, .bool gone, .bool gate, .int .i64 inc, .int .i64 now, .int .i64 sq, .int .i64 turn, .slice ta tl tc, .slice ca cl cc, .int .i64 pn, .int .i64 ps, .int .i64 pq, .bool pa, .slice da dl dc, .int .i64 cx, .int .i64 cy, .int .i64 ch, .int .i64 ce, .slice pla pll plc, .slice oa ol oc] 42) = u at *
  have h0 := h.below b0
  have r0 : u.rangeAt w.heap.size 0 [.int .i64 me, .bool up, .bool gone, .bool gate, .int .i64 inc, .int .i64 now, .int .i64 sq, .int .i64 turn, .slice ta tl tc, .slice ca cl cc, .int .i64 pn, .int .i64 ps, .int .i64 pq, .bool pa, .slice da dl dc, .int .i64 cx, .int .i64 cy, .int .i64 ch, .int .i64 ce, .slice pla pll plc, .slice oa ol oc] := X.range
  have d1 := X.c 1 (.bool up) rfl
  clear h
  cases zb0 : nodB me up gone gate inc now sq turn tl F cl GI pn ps pq pa dl GD cx cy ch ce pll GP ol GO
  · have yb0 : Hid (nodB me up gone gate inc now sq turn tl F cl GI pn ps pq pa dl GD cx cy ch ce pll GP ol GO = false) := zb0
    clear zb0
    refine wp_region_q0 s19_1 t19_1 (fun hbq => ?_)
    refine qR ?_
    refine qC (fun K hK => ?_)
    go_simp
    refine (nodeOk38_litN me up gone gate inc now sq turn ta tl tc ca cl cc pn ps pq pa da dl dc cx cy ch ce pla pll plc oa ol oc F GI GD GP GO false yb0.out _ (h0.below hbq)).mono ?_; rintro r w5 ⟨rfl, k5⟩
    go_wp2_with fail
    refine hK.out _ _ (btrans hbq k5) (.inl ?_)
    clear hK K
    replace hbq := btrans hbq k5
    clear k5
    try simp only [putQ]
    iterate 2 refine qY ?_
    iterate 3 refine qN ?_
    refine qY ?_
    refine qE ?_
    go_wp2
    try simp only [Exit.inBlock, Exit.then]
    exact bodyPost_ret (v := .slice none 0 0) (by simp [results, Tryz.results19, go_sem]) rfl ⟨⟨_, rfl, by rw [neaL, yb0.out]; exact World.ownsRow_nil _ _ _ _⟩, btrans b0 hbq⟩
  · have yb0 : Hid (nodB me up gone gate inc now sq turn tl F cl GI pn ps pq pa dl GD cx cy ch ce pll GP ol GO = true) := zb0
    clear zb0
    cases up
    · skip
      refine wp_region_q0 s19_1 t19_1 (fun hbq => ?_)
      refine qR ?_
      refine qC (fun K hK => ?_)
      go_simp
      refine (nodeOk38_litN me false gone gate inc now sq turn ta tl tc ca cl cc pn ps pq pa da dl dc cx cy ch ce pla pll plc oa ol oc F GI GD GP GO true yb0.out _ (h0.below hbq)).mono ?_; rintro r w5 ⟨rfl, k5⟩
      go_wp2_with fail
      refine hK.out _ _ (btrans hbq k5) (.inl ?_)
      clear hK K
      replace hbq := btrans hbq k5
      clear k5
      try simp only [putQ]
      iterate 3 refine qY ?_
      refine qL ?_
      iterate 2 refine qY ?_
      refine qE ?_
      go_wp2
      try simp only [Exit.inBlock, Exit.then]
      exact bodyPost_ret (v := .slice none 0 0) (by simp [results, Tryz.results19, go_sem]) rfl ⟨⟨_, rfl, by rw [neaL, yb0.out]; exact World.ownsRow_nil _ _ _ _⟩, btrans b0 hbq⟩
    · skip
      refine wp_region_q0 s19_1 t19_1 (fun hbq => ?_)
      refine qR ?_
      refine qC (fun K hK => ?_)
      go_simp
      refine (nodeOk38_litN me true gone gate inc now sq turn ta tl tc ca cl cc pn ps pq pa da dl dc cx cy ch ce pla pll plc oa ol oc F GI GD GP GO true yb0.out _ (h0.below hbq)).mono ?_; rintro r w5 ⟨rfl, k5⟩
      go_wp2_with fail
      refine hK.out _ _ (btrans hbq k5) (.inl ?_)
      clear hK K
      replace hbq := btrans hbq k5
      clear k5
      try simp only [putQ]
      iterate 3 refine qY ?_
      refine qL ?_
      iterate 2 refine qY ?_
      refine qE ?_
      have b1 := btrans b0 hbq
      have h1 := h0.below hbq
      have rN0 := range_below' r0 hbq
      have h3 : pll ≤ 3 := nod_three me true gone gate inc now sq turn tl F cl GI pn ps pq pa dl GD cx cy ch ce pll GP ol GO yb0.out rfl
      have X1 := X.below hbq
      have d15 := X1.c 15 (.int .i64 cx) rfl
      have d16 := X1.c 16 (.int .i64 cy) rfl
      have d17 := X1.c 17 (.int .i64 ch) rfl
      have d18 := X1.c 18 (.int .i64 ce) rfl
      have d19 := X1.c 19 (.slice pla pll plc) rfl
      have hL : Hid (neaL (nodB me true gone gate inc now sq turn tl F cl GI pn ps pq pa dl GD cx cy ch ce pll GP ol GO) true most cx cy ch ce tl F pll GP = nrL most cx cy ch ce tl F pll GP) := by rw [Hid, neaL, yb0.out]; rfl
      clear hbq h0 b0 r0 X d1 yb0 X1
      go_wp2_with fail
      refine (nearF_any cx cy ch ce pla pll plc GP _ h1.p hf h3).mono ?_
      rintro r w6 ⟨⟨a6, c6, rfl, hP0⟩, k6⟩
      obtain ⟨S, hS⟩ : ∃ S, Hid (srt (far cx cy ch ce GP) pll = S) := ⟨_, rfl⟩
      obtain ⟨Q, hQ⟩ : ∃ Q : Nat → Nat, Hid ((fun j => S.getD j 0) = Q) := ⟨_, rfl⟩
      have hP : PlSl w6 a6 pll (fun j => GP (Q j)) := by
        rw [← hQ.out, ← hS.out]
        exact hP0
      have hSl : Hid (nrS S (alv tl F GP) (fun j => (GP j).n) most pll = nrL most cx cy ch ce tl F pll GP) := by rw [Hid, ← hS.out]; exact nrS_all _ _ _ _ _ _ _ _ _ h3
      have b6 := btrans b1 k6
      have h6 := h1.below k6
      have rN6 := range_below' rN0 k6
      have hF := h6.f
      have hlf := h6.hf
      have hbase : w.heap.size ≤ w6.heap.size := b6.size
      clear d15 d16 d17 d18 d19 hP0 h1 b1 k6 rN0 hf h6 hS
      go_wp2_with fail
      go_loopw [5, 22] (fun v i wr => ∃ k : Nat, k ≤ pll ∧ i = .int .i64 k ∧ wr.ownsRow w6.heap.size 3 1 v (nrS S (alv tl F GP) (fun j => (GP j).n) most k).length (lv (nrS S (alv tl F GP) (fun j => (GP j).n) most k)) ∧ Below w6.heap.size w6 wr) (fun _ i _ => pll - (intOf i).toNat)
      case atStart => exact ⟨0, by omega, rfl, World.ownsRow_nil _ _ _ _, Below.refl _ _⟩
      case round =>
        obtain ⟨k, hk, rfl, hown, hb⟩ := hrel
        have hle := nrS_le S (alv tl F GP) (fun j => (GP j).n) most k
        obtain ⟨av, cv, rfl, hcv, _⟩ := own_list hown
        by_cases hlt : k < pll
        · obtain ⟨b, off, rfl, hbl, hf⟩ := hP (by omega)
          obtain ⟨c0, c1, c2, c3, c4, c5⟩ := (hf.below hb hbl) k hlt
          have i0 : (0 : Int) ≤ (k : Int) := by omega
          have i1 : (k : Int) < (pll : Int) := by omega
          have hnext : Hid (nrS S (alv tl F GP) (fun j => (GP j).n) most (k + 1) = if ((nrS S (alv tl F GP) (fun j => (GP j).n) most k).length : Int) < most ∧ (stn tl F (GP (Q k)).n == 1) = true then nrS S (alv tl F GP) (fun j => (GP j).n) most k ++ [(GP (Q k)).n] else nrS S (alv tl F GP) (fun j => (GP j).n) most k) := by
            rw [← hQ.out]
            exact rfl
          have rN := range_below' rN6 hb
          have hF1 := hF.below hb
          clear hf hP
          obtain ⟨Lk, hLk⟩ : ∃ Lk, Hid (nrS S (alv tl F GP) (fun j => (GP j).n) most k = Lk) := ⟨_, rfl⟩
          rw [hLk.out] at hown hle hcv hnext ⊢
          dsimp only at c0 c1 c2 c3 c4 c5
          generalize GP (Q k) = p at *
          obtain ⟨n, x, y, h, e, ba, bl, bc, bf⟩ := p
          dsimp only at c0 c1 c2 c3 c4 c5 hnext
          have O1 := hown.alloc (.cells #[.int .i64 n, .int .i64 x, .int .i64 y, .int .i64 h, .int .i64 e, .slice ba bl bc] 103)
          have B1 := balloc (.cells #[.int .i64 n, .int .i64 x, .int .i64 y, .int .i64 h, .int .i64 e, .slice ba bl bc] 103) hb
          have bA := balloc (.cells #[.int .i64 n, .int .i64 x, .int .i64 y, .int .i64 h, .int .i64 e, .slice ba bl bc] 103) (Below.refl wr.heap.size wr)
          have rN1 := range_below' rN bA
          have hF2 := hF1.below bA
          have Xp := Ws.box (w := wr) #[.int .i64 n, .int .i64 x, .int .i64 y, .int .i64 h, .int .i64 e, .slice ba bl bc] 103
          have hwr := hb.size
          clear rN hF1
          go_upto_region 7 with fail
          generalize wr.alloc (.cells #[.int .i64 n, .int .i64 x, .int .i64 y, .int .i64 h, .int .i64 e, .slice ba bl bc] 103) = u1 at *
          have rN := rN1
          have p0 := Xp.c 0 (.int .i64 n) rfl
          clear c0 c1 c2 c3 c4 c5 rN1
          have hlu := Xp.lt
          obtain ⟨xp, hxp⟩ : ∃ xp, Hid (wr.heap.size = xp) := ⟨_, rfl⟩
          rw [hxp.out] at p0 hlu Xp ⊢
          by_cases q1 : (Lk.length : Int) < most
          · go_wp2_with (refine load43L (by rfl) (.tmp 2) rfl w.heap.size rfl [.int .i64 me, .bool true, .bool gone, .bool gate, .int .i64 inc, .int .i64 now, .int .i64 sq, .int .i64 turn, .slice ta tl tc, .slice ca cl cc, .int .i64 pn, .int .i64 ps, .int .i64 pq, .bool pa, .slice da dl dc, .int .i64 cx, .int .i64 cy, .int .i64 ch, .int .i64 ce, .slice pla pll plc, .slice oa ol oc] rN rfl ?_)
            refine (stands_any me true gone gate inc now sq turn ta tl tc ca cl cc pn ps pq pa da dl dc cx cy ch ce pla pll plc oa ol oc F n _ hF2 hlf).mono ?_
            rintro r u2 ⟨rfl, k2⟩
            have O2 := own_below O1 k2
            have B2 := B1.trans (k2.mono (by have := B1.size; omega))
            have p2 := keep_below k2 p0
            by_cases q2 : stn tl F n = 1
            · have hn2 : Hid (nrS S (alv tl F GP) (fun j => (GP j).n) most (k + 1) = Lk ++ [n]) := by rw [Hid, hnext.out, if_pos ⟨q1, by rw [q2]; rfl⟩]
              rw [q2]
              have hsz := B2.size
              clear q2 hnext O1 B1 p0 rN hF2 hown hb Xp bA
              go_wp2_with (at_builtin; refine wpList_append_own _ rfl _ _ 54 rfl w6.heap.size 3 ti (.int .i64 0) 1 8 Tryz.underlying54 hi hz0 hz1 hz2 rfl (by decide) _ _ _ rfl (O2.alloc _) ⟨u2.heap.size, 0, none⟩ 1 1 [.int .i64 n] rfl rfl ?c1 ?c2 ?c3 ?c4 ?c5 ?_)
              case c1 =>
                intro j u hj
                match j, hj with
                | 0, hj => simp at hj; subst hj; simp [Addr.add]
              case c2 => intro u hu; simp at hu; subst hu; rfl
              case c3 => unfold maxLen; omega
              case c4 => omega
              case c5 => simp; omega
              · intro v' w2 hown' hgrow _
                have B3 := own_grow (balloc (.cells #[.int .i64 n] 3) B2) (by simp; omega) (O2.alloc _) hgrow
                clear O2 hgrow B2 p2
                go_wp2
                go_roundw
                case rel => exact ⟨k + 1, by omega, by go_num, by rw [hn2.out, lv_append, List.length_append]; exact hown', B3⟩
                case measure => simp [intOf]; omega
            · have hn2 : Hid (nrS S (alv tl F GP) (fun j => (GP j).n) most (k + 1) = Lk) := by rw [Hid, hnext.out, if_neg (fun c => q2 (by simpa using c.2))]
              have z2 : (stn tl F n == 1) = false := by simpa using q2
              clear hnext O1 B1 p0 rN hF2 hown hb q2 Xp bA
              go_wp2
              go_roundw
              case rel => exact ⟨k + 1, by omega, by go_num, by rw [hn2.out]; exact O2, B2⟩
              case measure => simp [intOf]; omega
          · have hn2 : Hid (nrS S (alv tl F GP) (fun j => (GP j).n) most (k + 1) = Lk) := by rw [Hid, hnext.out, if_neg (fun c => q1 c.1)]
            clear hnext rN hF2 hown hb Xp bA
            go_wp2
            go_roundw
            case rel => exact ⟨k + 1, by omega, by go_num, by rw [hn2.out]; exact O1, B1⟩
            case measure => simp [intOf]; omega
        · obtain rfl : k = pll := by omega
          clear hcv hle
          go_wp2
          try simp only [Exit.inBlock, Exit.then]
          refine bodyPost_ret (v := .slice av _ cv) (by simp [results, Tryz.results19, go_sem]; rfl) rfl ⟨⟨_, rfl, ?_⟩, btrans b6 hb⟩
          rw [hL.out, ← hSl.out]
          exact own_mono hbase hown
end Go.Proofs.YtgcdcfjaeehnbaaGreat
