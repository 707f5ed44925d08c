/- Lists of news in memory: what is read of them, whether they are the same, marks. -/
import Derived.Test.YtfmjjafgipikeaaJoin
import Derived.Laws.AppendOwn
namespace Go.Proofs.Ytfmjjafgipikeaa.W
open Go.ChangeShapes Go.WideShapes Go.ChangeAt Go.RowKit
attribute [local go_sem ↓] Go.wp_at_zero Go.wp_at_succ
/-- an item, its numbers -/
structure It where
  n : Int
  i : Int
  s : Int
  g : Bool
  l : Int
/-- items lie in block b, from off on -/
def ItemsIn (w : World) (b off len : Nat) (F : Nat → It) : Prop :=
  ∀ k, k < len → w.cell? ⟨b, off + k * 5, none⟩ = some (.int .i64 (F k).n) ∧ w.cell? ⟨b, off + k * 5 + 1, none⟩ = some (.int .i64 (F k).i) ∧ w.cell? ⟨b, off + k * 5 + 2, none⟩ = some (.int .i64 (F k).s) ∧ w.cell? ⟨b, off + k * 5 + 3, none⟩ = some (.bool (F k).g) ∧ w.cell? ⟨b, off + k * 5 + 4, none⟩ = some (.int .i64 (F k).l)
def TSl (w : World) (a : Option Addr) (len : Nat) (F : Nat → It) : Prop :=
  0 < len → ∃ b off, a = some ⟨b, off, none⟩ ∧ b < w.heap.size ∧ ItemsIn w b off len F
theorem ItemsIn.below {B : Nat} {w w' : World} {b off len : Nat} {F : Nat → It} (h : ItemsIn w b off len F) (hb : Below B w w') (hl : b < B) : ItemsIn w' b off len F := fun k hk => by
  obtain ⟨h0, h1, h2, h3, h4⟩ := h k hk
  exact ⟨(hb.cell (p := ⟨b, _, none⟩) hl).trans h0, (hb.cell (p := ⟨b, _, none⟩) hl).trans h1, (hb.cell (p := ⟨b, _, none⟩) hl).trans h2, (hb.cell (p := ⟨b, _, none⟩) hl).trans h3, (hb.cell (p := ⟨b, _, none⟩) hl).trans h4⟩
theorem TSl.below {w w' : World} {a : Option Addr} {len : Nat} {F : Nat → It} (h : TSl w a len F) (hb : Below w.heap.size w w') : TSl w' a len F := fun hl => by
  obtain ⟨b, off, e, hlt, hf⟩ := h hl
  exact ⟨b, off, e, by have := hb.size; omega, hf.below hb hlt⟩
/-- a row of items of the call's own -/
def tv (F : Nat → It) (k : Nat) : Value := if k % 5 = 0 then .int .i64 (F (k / 5)).n else if k % 5 = 1 then .int .i64 (F (k / 5)).i else if k % 5 = 2 then .int .i64 (F (k / 5)).s else if k % 5 = 3 then .bool (F (k / 5)).g else .int .i64 (F (k / 5)).l
theorem trow_in {w : World} {b t n : Nat} {F : Nat → It} (h : w.rowIs b t (n * 5) (tv F)) : ItemsIn w b 0 n F := fun k hk => by
  have e0 := h.cell (i := k * 5) (by omega)
  have e1 := h.cell (i := k * 5 + 1) (by omega)
  have e2 := h.cell (i := k * 5 + 2) (by omega)
  have e3 := h.cell (i := k * 5 + 3) (by omega)
  have e4 := h.cell (i := k * 5 + 4) (by omega)
  have m1 : (k * 5 + 1) % 5 = 1 ∧ (k * 5 + 1) / 5 = k := by omega
  have m2 : (k * 5 + 2) % 5 = 2 ∧ (k * 5 + 2) / 5 = k := by omega
  have m3 : (k * 5 + 3) % 5 = 3 ∧ (k * 5 + 3) / 5 = k := by omega
  have m4 : (k * 5 + 4) % 5 = 4 ∧ (k * 5 + 4) / 5 = k := by omega
  simp only [Nat.zero_add]
  simp [tv] at e0
  simp [tv, m1.1, m1.2] at e1
  simp [tv, m2.1, m2.2] at e2
  simp [tv, m3.1, m3.2] at e3
  simp [tv, m4.1, m4.2] at e4
  exact ⟨e0, e1, e2, e3, e4⟩
def It.zero : It := ⟨0, 0, 0, false, 0⟩
theorem info78 : (Try.prog.info? 32).map (fun i => (i.zero, i.size, i.bytes)) = some (some (.agg #[.int .i64 0, .int .i64 0, .int .i64 0, .bool false, .int .i64 0]), 5, 40) := by kernel_rfl
theorem tsl_row {w : World} {b t n : Nat} {F : Nat → It} (h : w.rowIs b t (n * 5) (tv F)) : TSl w (some ⟨b, 0, none⟩) n F := fun _ => ⟨b, 0, rfl, h.lt, trow_in h⟩
theorem eqItem_same (n i s : Int) (g : Bool) (l : Int) (w : World) :
    Calls Try.prog 36 #[.agg #[.int .i64 n, .int .i64 i, .int .i64 s, .bool g, .int .i64 l], .agg #[.int .i64 n, .int .i64 i, .int .i64 s, .bool g, .int .i64 l]] w fun r w' => r = .returned (.bool true) ∧ Below w.heap.size w w' := by
  have e1 : ¬ (l ≠ l) := by simp
  go_enter Try.func36, Try.ntmps36
  go_wp2_with fail
  refine (eqFact_same _ _ _ _ _).mono ?_
  rintro e w1 ⟨rfl, b1⟩
  have B1 := btrans (balloc _ (balloc _ (Below.refl _ _))) b1
  have p0 := keep_below b1 (show ((w.alloc (.cells #[.int .i64 n, .int .i64 i, .int .i64 s, .bool g, .int .i64 l] 32)).alloc (.cells #[.int .i64 n, .int .i64 i, .int .i64 s, .bool g, .int .i64 l] 32)).cell? ⟨w.heap.size, 4, none⟩ = some (.int .i64 l) by simp [go_sem])
  have p1 := keep_below b1 (show ((w.alloc (.cells #[.int .i64 n, .int .i64 i, .int .i64 s, .bool g, .int .i64 l] 32)).alloc (.cells #[.int .i64 n, .int .i64 i, .int .i64 s, .bool g, .int .i64 l] 32)).cell? ⟨w.heap.size + 1, 4, none⟩ = some (.int .i64 l) by simp [go_sem])
  go_wp2
  go_ret
  exact ⟨rfl, B1⟩
set_option maxHeartbeats 400000 in
theorem eqItemS_same (a a' : Option Addr) (len cap cap' : Nat) (F : Nat → It) (w : World) (h : TSl w a len F) (h' : TSl w a' len F) (hl : len ≤ 1048576) :
    Calls Try.prog 16 #[.slice a len cap, .slice a' len cap'] w fun e w' => e = .returned (.bool true) ∧ Below w.heap.size w w' := by
  go_enter Try.func16, Try.ntmps16
  go_wp2
  go_loopw [5] (fun i wr => ∃ k : Nat, k ≤ len ∧ i = .int .i64 k ∧ Below w.heap.size w wr) (fun i _ => len - (intOf i).toNat)
  case atStart => exact ⟨0, Nat.zero_le _, rfl, Below.refl _ _⟩
  case round =>
    obtain ⟨k, hk, rfl, hb⟩ := hrel
    by_cases hlt : k < len
    · obtain ⟨b, off, rfl, hbl, hf⟩ := h (by omega)
      obtain ⟨c0, c1, c2, c3, c4⟩ := (hf.below hb hbl) k hlt
      obtain ⟨b', off', rfl, hbl', hf'⟩ := h' (by omega)
      obtain ⟨d0, d1, d2, d3, d4⟩ := (hf'.below hb hbl') k hlt
      have i0 : (0 : Int) ≤ (k : Int) := by omega
      have i1 : (k : Int) < (len : Int) := by omega
      go_wp2_with fail
      go_region_held3 (fun w' => w'.cell? ⟨b, off + k * 5, none⟩ = some (.int .i64 (F k).n) ∧ w'.cell? ⟨b, off + k * 5 + 1, none⟩ = some (.int .i64 (F k).i) ∧ w'.cell? ⟨b, off + k * 5 + 2, none⟩ = some (.int .i64 (F k).s) ∧ w'.cell? ⟨b, off + k * 5 + 3, none⟩ = some (.bool (F k).g) ∧ w'.cell? ⟨b, off + k * 5 + 4, none⟩ = some (.int .i64 (F k).l) ∧ w'.cell? ⟨b', off' + k * 5, none⟩ = some (.int .i64 (F k).n) ∧ w'.cell? ⟨b', off' + k * 5 + 1, none⟩ = some (.int .i64 (F k).i) ∧ w'.cell? ⟨b', off' + k * 5 + 2, none⟩ = some (.int .i64 (F k).s) ∧ w'.cell? ⟨b', off' + k * 5 + 3, none⟩ = some (.bool (F k).g) ∧ w'.cell? ⟨b', off' + k * 5 + 4, none⟩ = some (.int .i64 (F k).l)) (refine ⟨?_, ?_, ?_, ?_, ?_, ?_, ?_, ?_, ?_, ?_⟩ <;> (repeat (first | with_reducible assumption | with_reducible refine keep_drew ?_ | with_reducible refine keep_below (by assumption) ?_))) (first | (go_at_call 36; refine (eqItem_same _ _ _ _ _ _).mono ?_; rintro e w1 ⟨rfl, b1⟩))
      go_wp2
      go_roundw
      case rel => exact ⟨k + 1, by omega, by go_num, btrans hb.drew b1⟩
      case measure => simp [intOf]; omega
    · go_wp2
      go_ret
      exact ⟨rfl, hb⟩
/-- a fact as a value, and as it reads -/
abbrev fval (f : It) : Value := .agg #[.int .i64 f.n, .int .i64 f.i, .int .i64 f.s, .bool f.g, .int .i64 f.l]
/-- a list of facts -/
def seqF (F : Nat → It) (n : Nat) : List It := (List.range n).map F
theorem seqF_succ (F : Nat → It) (n : Nat) : seqF F (n + 1) = seqF F n ++ [F n] := by simp [seqF, List.range_succ]
theorem seqF_len (F : Nat → It) (n : Nat) : (seqF F n).length = n := by simp [seqF]
theorem seqF_mem {F : Nat → It} {n : Nat} {f : It} (h : f ∈ seqF F n) : ∃ k, k < n ∧ F k = f := by
  obtain ⟨k, hk, rfl⟩ := List.mem_map.1 h
  exact ⟨k, by simpa using hk, rfl⟩
/-- the facts as cells -/
def fl (T : List It) : List Value := T.flatMap fun f => [.int .i64 f.n, .int .i64 f.i, .int .i64 f.s, .bool f.g, .int .i64 f.l]
theorem fl_len (T : List It) : (fl T).length = T.length * 5 := by
  induction T with
  | nil => rfl
  | cons f r ih => simp [fl] at *; omega
theorem fl_snoc (T : List It) (f : It) : fl (T ++ [f]) = fl T ++ [.int .i64 f.n, .int .i64 f.i, .int .i64 f.s, .bool f.g, .int .i64 f.l] := by simp [fl]
theorem fl_append (T T' : List It) : fl (T ++ T') = fl T ++ fl T' := by simp [fl]
theorem fl_get (T : List It) : ∀ k, k < T.length → (fl T)[k * 5]? = some (.int .i64 (T.getD k It.zero).n) ∧ (fl T)[k * 5 + 1]? = some (.int .i64 (T.getD k It.zero).i) ∧ (fl T)[k * 5 + 2]? = some (.int .i64 (T.getD k It.zero).s) ∧ (fl T)[k * 5 + 3]? = some (.bool (T.getD k It.zero).g) ∧ (fl T)[k * 5 + 4]? = some (.int .i64 (T.getD k It.zero).l) := by
  induction T with
  | nil => intro k hk; simp at hk
  | cons f r ih =>
    intro k hk
    have e : fl (f :: r) = [.int .i64 f.n, .int .i64 f.i, .int .i64 f.s, .bool f.g, .int .i64 f.l] ++ fl r := by simp [fl]
    rw [e]
    match k, hk with
    | 0, _ => simp
    | k + 1, hk =>
      have := ih k (by simpa using hk)
      rw [show (k + 1) * 5 = k * 5 + 5 by omega]
      simpa [List.getElem?_append] using this
/-- a list of its own, as the laws read it -/
theorem own_facts {w : World} {base : Nat} {v : Value} {n : Nat} {T : List It} (h : w.ownsRow base 32 5 v n (fl T)) : ∃ a cap, v = .slice a n cap ∧ n ≤ cap ∧ T.length = n ∧ TSl w a n (fun k => T.getD k It.zero) := by
  have h0 := h
  have hl : T.length = n := by have := h.1; rw [fl_len] at this; omega
  rcases h.2 with ⟨rfl, rfl⟩ | ⟨g, cap, cur, rfl, hg, hh, hc, _⟩
  · exact ⟨none, 0, rfl, Nat.le_refl _, hl, fun h => by omega⟩
  · refine ⟨_, cap, rfl, hc, hl, fun _ => ⟨g, 0, rfl, lt_of_block hh, fun k hk => ?_⟩⟩
    obtain ⟨e0, e1, e2, e3, e4⟩ := fl_get T k (by omega)
    simp only [Nat.zero_add]
    exact ⟨(h0.cellAt _ (by omega)).trans e0, (h0.cellAt _ (by omega)).trans e1, (h0.cellAt _ (by omega)).trans e2, (h0.cellAt _ (by omega)).trans e3, (h0.cellAt _ (by omega)).trans e4⟩
theorem facts_cell {w : World} {b off n : Nat} {T : List It} (h : ItemsIn w b off n (fun k => T.getD k It.zero)) (hl : T.length = n) : ∀ j u, (fl T)[j]? = some u → w.cell? ((⟨b, off, none⟩ : Addr).add j) = some u := by
  intro j u hj
  have e : (⟨b, off, none⟩ : Addr).add j = ⟨b, off + j, none⟩ := by unfold Addr.add; split <;> simp_all
  rw [e]
  have hlt : j < n * 5 := by
    have := (List.getElem?_eq_some_iff.1 hj).1
    rw [fl_len] at this
    omega
  obtain ⟨h0, h1, h2, h3, h4⟩ := h (j / 5) (by omega)
  obtain ⟨e0, e1, e2, e3, e4⟩ := fl_get T (j / 5) (by omega)
  have : j % 5 = 0 ∨ j % 5 = 1 ∨ j % 5 = 2 ∨ j % 5 = 3 ∨ j % 5 = 4 := by omega
  rcases this with hr | hr | hr | hr | hr
  · rw [show j / 5 * 5 = j by omega] at e0 h0
    rw [e0] at hj
    rw [h0, ← hj]
  · rw [show off + j / 5 * 5 + 1 = off + j by omega] at h1
    rw [show j / 5 * 5 + 1 = j by omega] at e1
    rw [e1] at hj
    rw [h1, ← hj]
  · rw [show off + j / 5 * 5 + 2 = off + j by omega] at h2
    rw [show j / 5 * 5 + 2 = j by omega] at e2
    rw [e2] at hj
    rw [h2, ← hj]
  · rw [show off + j / 5 * 5 + 3 = off + j by omega] at h3
    rw [show j / 5 * 5 + 3 = j by omega] at e3
    rw [e3] at hj
    rw [h3, ← hj]
  · rw [show off + j / 5 * 5 + 4 = off + j by omega] at h4
    rw [show j / 5 * 5 + 4 = j by omega] at e4
    rw [e4] at hj
    rw [h4, ← hj]
theorem fl_one {T : List It} : ∀ u ∈ fl T, u.oneCell' = true := by
  intro u hu
  obtain ⟨f, _, hf⟩ := List.mem_flatMap.1 hu
  simp at hf
  rcases hf with rfl | rfl | rfl | rfl | rfl <;> rfl
theorem own_sliceF {w : World} {base n : Nat} {v : Value} {xs : List Value} (h : w.ownsRow base 32 5 v n xs) : (v = .slice none 0 0 ∧ n = 0) ∨ ∃ g cap, v = .slice (some ⟨g, 0, none⟩) n cap ∧ base ≤ g ∧ g < w.heap.size ∧ n ≤ cap := by
  rcases h.2 with ⟨rfl, hn⟩ | ⟨g, cap, cur, rfl, hg, hh, hc, _⟩
  · exact .inl ⟨rfl, hn⟩
  · exact .inr ⟨g, cap, rfl, hg, lt_of_block hh, hc⟩
theorem wpList_appF {w : World} {ops : Array Oper} {rest : List Oper} {o : Oper} {a : Act} {Q : Exit → Act → World → Prop} (hgd : o.guard = none) (s x : Operand)
    (ho : o.op = .call { callee := .builtin .append, args := #[s, x], argTypes := #[26, 26] })
    (base : Nat) (v : Value) (n : Nat) (T : List It) (hs : a.eval s = v) (hv : v ≠ .slice none 0 0) (hown : w.ownsRow base 32 5 v n (fl T))
    (g o' : Nat) (m c : Nat) (T' : List It) (hx : a.eval x = .slice (some ⟨g, o', none⟩) m c) (hl : T'.length = m)
    (hnews : ItemsIn w g o' m (fun k => T'.getD k It.zero)) (nm : Nat) (hnm : n + m = nm) (hn : nm ≤ 2000000) (hbase : base ≤ w.heap.size)
    (h : ∀ g' cap' w', w'.ownsRow base 32 5 (.slice (some ⟨g', 0, none⟩) nm cap') nm (fl (T ++ T')) → w.grownBy w' v.ownBlock → nm ≤ cap' → wpList Try.prog ops Q rest (a.put o.dst (.slice (some ⟨g', 0, none⟩) nm cap')) w') :
    wpList Try.prog ops Q (o :: rest) a w := by
  subst hnm
  obtain ⟨ti, hi, hz0, hz1, hz2⟩ := info_parts info78
  refine wpList_append_own w hgd s x 26 ho base 32 ti (fval It.zero) 5 40 Try.underlying26 hi hz0 hz1 hz2 rfl (by decide) v n (fl T) hs hown ⟨g, o', none⟩ m c (fl T') hx (by rw [fl_len, hl]) (facts_cell hnews hl) fl_one (by unfold maxLen; omega) (by omega) hbase (fun v' w' h1 h2 h3 => ?_)
  rw [← fl_append] at h1
  rcases own_sliceF h1 with ⟨e, _⟩ | ⟨g', cap', rfl, _, _, hc⟩
  · exact absurd (h3.1 e).1 hv
  · exact h g' cap' w' h1 h2 hc
theorem new_one (V : World) (f : It) : ItemsIn (V.alloc (.cells #[.int .i64 f.n, .int .i64 f.i, .int .i64 f.s, .bool f.g, .int .i64 f.l] 32)) V.heap.size 0 1 (fun j => [f].getD j It.zero) := fun j hj => by
  obtain rfl : j = 0 := by omega
  exact ⟨by simp [go_sem], by simp [go_sem], by simp [go_sem], by simp [go_sem]⟩
theorem seqF_getD (F : Nat → It) {len k : Nat} (h : k < len) : (seqF F len).getD k It.zero = F k := by simp [List.getD, seqF, h]
theorem ItemsIn.alloc {w : World} {b off len : Nat} {F : Nat → It} (h : ItemsIn w b off len F) (o : Obj) : ItemsIn (w.alloc o) b off len F := fun k hk => by
  obtain ⟨h0, h1, h2, h3, h4⟩ := h k hk
  exact ⟨keep_alloc o h0, keep_alloc o h1, keep_alloc o h2, keep_alloc o h3, keep_alloc o h4⟩
/-- a list of the call's own, with a fact more -/
theorem own_emptyF (w : World) (base : Nat) (h : base ≤ w.heap.size) : (w.alloc (.cells #[] 32)).ownsRow base 32 5 (.slice (some ⟨w.heap.size, 0, none⟩) 0 0) 0 (fl []) := World.ownsRow_lit w #[] 0 h (by unfold maxLen; omega) rfl
theorem fl_set (T : List It) : ∀ (j : Nat) (f : It), j < T.length → fl (T.set j f) = (((((fl T).set (j * 5) (.int .i64 f.n)).set (j * 5 + 1) (.int .i64 f.i)).set (j * 5 + 2) (.int .i64 f.s)).set (j * 5 + 3) (.bool f.g)).set (j * 5 + 4) (.int .i64 f.l) := by
  induction T with
  | nil => intro j f h; simp at h
  | cons g r ih =>
    intro j f h
    have e : ∀ (g : It) (r : List It), fl (g :: r) = .int .i64 g.n :: .int .i64 g.i :: .int .i64 g.s :: .bool g.g :: .int .i64 g.l :: fl r := fun g r => by simp [fl]
    match j, h with
    | 0, _ => rw [List.set_cons_zero, e, e]; rfl
    | j + 1, h =>
      rw [List.set_cons_succ, e, e, ih j f (by simpa using h), show (j + 1) * 5 = j * 5 + 5 by omega]
      rfl
/-- a mark -/
def mkf (k : Int) : It := ⟨k, k + 1, k + 1 + 1, (k + 1 + 1 + 1) % 3 == 0, k + 1 + 1 + 1 + 1⟩
def mkF (k0 n : Nat) : List It := (List.range n).map fun (j : Nat) => mkf ((k0 : Int) + (j : Int) * 5)
theorem mkF_len (k0 n : Nat) : (mkF k0 n).length = n := by simp [mkF]
theorem mkF_set (k0 k n : Nat) (T : List It) (hT : T.length = n) (hk : k < n) : (mkF k0 k ++ T.drop k).set k (mkf ((k0 : Int) + (k : Int) * 5)) = mkF k0 (k + 1) ++ T.drop (k + 1) := by
  have e1 : T.drop k = T[k]'(by omega) :: T.drop (k + 1) := List.drop_eq_getElem_cons (by omega)
  rw [e1, List.set_append_right _ _ (by rw [mkF_len]; exact Nat.le_refl _), mkF_len, Nat.sub_self, List.set_cons_zero]
  simp [mkF, List.range_succ]
set_option maxRecDepth 20000 in
set_option maxHeartbeats 2000000 in
theorem markF_any (base g n cap : Nat) (T : List It) (k0 : Nat) (w : World) (h : w.ownsRow base 32 5 (.slice (some ⟨g, 0, none⟩) n cap) n (fl T)) (hl : n ≤ 1048576) (hk0 : k0 ≤ 1048576) :
    Calls Try.prog 19 #[.slice (some ⟨g, 0, none⟩) n cap, .int .i64 (k0 : Int)] w fun e w' => e = .returned (.int .i64 ((k0 + n * 5 : Nat) : Int)) ∧ w'.ownsRow base 32 5 (.slice (some ⟨g, 0, none⟩) n cap) n (fl (mkF k0 n)) ∧ w.grownBy w' (some g) := by
  have hT : T.length = n := by have := h.1; rw [fl_len] at this; omega
  go_enter Try.func19, Try.ntmps19
  go_wp2
  go_loopw [1, 5] (fun x i wr => ∃ k : Nat, k ≤ n ∧ i = .int .i64 k ∧ x = .int .i64 ((k0 + k * 5 : Nat) : Int) ∧ w.grownBy wr (some g) ∧ wr.ownsRow base 32 5 (.slice (some ⟨g, 0, none⟩) n cap) n (fl (mkF k0 k ++ T.drop k))) (fun _ i _ => n - (intOf i).toNat)
  case atStart => exact ⟨0, Nat.zero_le _, rfl, rfl, World.grownBy.refl _ _, by simpa [mkF] using h⟩
  case round =>
    obtain ⟨k, hk, rfl, rfl, hg, hr⟩ := hrel
    by_cases hlt : k < n
    · have i0 : (0 : Int) ≤ (k : Int) := by omega
      have i1 : (k : Int) < (n : Int) := by omega
      have hl2 : (mkF k0 k ++ T.drop k).length = n := by simp [mkF_len, hT]; omega
      obtain ⟨t0, t1, t2, t3, t4⟩ := fl_get (mkF k0 k ++ T.drop k) k (by omega)
      have c0 := (hr.cellAt (k * 5) (by omega)).trans t0
      have c1 := (hr.cellAt (k * 5 + 1) (by omega)).trans t1
      have c2 := (hr.cellAt (k * 5 + 2) (by omega)).trans t2
      have c3 := (hr.cellAt (k * 5 + 3) (by omega)).trans t3
      have c4 := (hr.cellAt (k * 5 + 4) (by omega)).trans t4
      have f0 := hr.frozenAt (k * 5)
      have f4 := hr.frozenAt (k * 5 + 4)
      have f1 := hr.frozenAt (k * 5 + 1)
      have f2 := hr.frozenAt (k * 5 + 2)
      have f3 := hr.frozenAt (k * 5 + 3)
      obtain ⟨a0, b0⟩ := hr.stored (k * 5) (.int .i64 (mkf ((k0 : Int) + (k : Int) * 5)).n)
      obtain ⟨a1, b1⟩ := a0.stored (k * 5 + 1) (.int .i64 (mkf ((k0 : Int) + (k : Int) * 5)).i)
      obtain ⟨a2, b2⟩ := a1.stored (k * 5 + 2) (.int .i64 (mkf ((k0 : Int) + (k : Int) * 5)).s)
      obtain ⟨a3, b3⟩ := a2.stored (k * 5 + 3) (.bool (mkf ((k0 : Int) + (k : Int) * 5)).g)
      obtain ⟨a4, b4⟩ := a3.stored (k * 5 + 4) (.int .i64 (mkf ((k0 : Int) + (k : Int) * 5)).l)
      rw [← fl_set _ k (mkf ((k0 : Int) + (k : Int) * 5)) (by omega), mkF_set k0 k n T hT hlt] at a4
      have gg := grown_trans (grown_trans (grown_trans (grown_trans (grown_trans hg b0) b1) b2) b3) b4
      clear t0 t1 t2 t3 t4 a0 a1 a2 a3 b0 b1 b2 b3 b4 hr hg
      go_wp2
      go_roundw
      case rel => exact ⟨k + 1, by omega, by go_num, by go_num, gg, a4⟩
      case measure => simp [intOf]; omega
    · go_wp2
      go_ret
      have e : k = n := by omega
      subst e
      rw [List.drop_of_length_le (by omega), List.append_nil] at hr
      exact ⟨rfl, hr, hg⟩
theorem markF_nil (k0 : Nat) (w : World) :
    Calls Try.prog 19 #[.slice none 0 0, .int .i64 (k0 : Int)] w fun e w' => e = .returned (.int .i64 (k0 : Int)) ∧ w' = w := by
  go_enter Try.func19, Try.ntmps19
  go_wp2
  refine wp_loop_rounds 1 ?_
  rw [rounds_succ]
  go_wp2
  go_ret
  exact ⟨rfl, rfl⟩
theorem markF_own (base n cap : Nat) (a : Option Addr) (T : List It) (k0 : Nat) (w : World) (h : w.ownsRow base 32 5 (.slice a n cap) n (fl T)) (hl : n ≤ 1048576) (hk0 : k0 ≤ 1048576) :
    Calls Try.prog 19 #[.slice a n cap, .int .i64 (k0 : Int)] w fun e w' => e = .returned (.int .i64 ((k0 + n * 5 : Nat) : Int)) ∧ w'.ownsRow base 32 5 (.slice a n cap) n (fl (mkF k0 n)) ∧ w.grownBy w' (Value.slice a n cap).ownBlock := by
  rcases own_sliceF h with ⟨e, rfl⟩ | ⟨g, c, e, _⟩
  · simp only [Value.slice.injEq, true_and] at e
    obtain ⟨rfl, rfl⟩ := e
    exact (markF_nil k0 w).mono (by rintro r w' ⟨rfl, rfl⟩; exact ⟨rfl, World.ownsRow_nil w' base 32 5, World.grownBy.refl _ _⟩)
  · simp only [Value.slice.injEq, true_and] at e
    obtain ⟨rfl, rfl⟩ := e
    exact markF_any base g n cap T k0 w h hl hk0
set_option maxRecDepth 20000 in
set_option maxHeartbeats 2000000 in
theorem heldF_any (a : Option Addr) (n cap : Nat) (k0 : Nat) (w : World) (h : TSl w a n (fun j => mkf ((k0 : Int) + (j : Int) * 5))) (hl : n ≤ 1048576) (hk0 : k0 ≤ 1048576) :
    Calls Try.prog 20 #[.slice a n cap, .int .i64 (k0 : Int)] w fun e w' => e = .returned (.int .i64 ((k0 + n * 5 : Nat) : Int)) ∧ w' = w := by
  go_enter Try.func20, Try.ntmps20
  go_wp2
  go_loopw [1, 5] (fun x i wr => ∃ k : Nat, k ≤ n ∧ i = .int .i64 k ∧ x = .int .i64 ((k0 + k * 5 : Nat) : Int) ∧ wr = w) (fun _ i _ => n - (intOf i).toNat)
  case atStart => exact ⟨0, Nat.zero_le _, rfl, rfl, rfl⟩
  case round =>
    obtain ⟨k, hk, rfl, rfl, rfl⟩ := hrel
    by_cases hlt : k < n
    · have i0 : (0 : Int) ≤ (k : Int) := by omega
      have i1 : (k : Int) < (n : Int) := by omega
      obtain ⟨b, off, rfl, hbl, hf⟩ := h (by omega)
      obtain ⟨d0, d1, d2, d3, d4⟩ := hf k hlt
      simp only [mkf] at d0 d1 d2 d3 d4
      have e0 : ((((k0 : Int) + (k : Int) * 5 + 1 + 1 + 1) % 3 == 0) != (((k0 : Int) + (k : Int) * 5 + 1 + 1 + 1) % 3 == 0)) = false := by simp
      go_wp2
      go_roundw
      case rel => exact ⟨k + 1, by omega, by go_num, by go_num, by simp⟩
      case measure => simp [intOf]; omega
    · go_wp2
      go_ret
      have e : k = n := by omega
      subst e
      exact ⟨rfl, rfl⟩
/-- what was marked is held -/
theorem own_held {w : World} {base k0 n cap : Nat} {a : Option Addr} (h : w.ownsRow base 32 5 (.slice a n cap) n (fl (mkF k0 n))) : TSl w a n (fun j => mkf ((k0 : Int) + (j : Int) * 5)) := by
  obtain ⟨a', c', e, _, _, hF⟩ := own_facts h
  simp only [Value.slice.injEq, true_and] at e
  obtain ⟨rfl, rfl⟩ := e
  intro hn
  obtain ⟨b, off, e, hb, hf⟩ := hF hn
  refine ⟨b, off, e, hb, fun k hk => ?_⟩
  have := hf k hk
  have e2 : (mkF k0 n).getD k It.zero = mkf ((k0 : Int) + (k : Int) * 5) := by simp [mkF, List.getD, hk]
  simp only [e2] at this
  exact this
end Go.Proofs.Ytfmjjafgipikeaa.W
