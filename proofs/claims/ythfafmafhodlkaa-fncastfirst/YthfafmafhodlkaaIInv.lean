/- Items with a fact more: the model's way. -/
import Derived.Test.YthfafmafhodlkaaIList
import Derived.Laws.AppendOwn
namespace Go.Proofs.Ythfafmafhodlkaa.I
open Go.ChangeShapes Go.WideShapes Go.ChangeAt Go.RowKit
attribute [local go_sem ↓] Go.wp_at_zero Go.wp_at_succ
theorem facts_cell {w : World} {b off n : Nat} {T : List It} (h : ItemsIn w b off n (fun k => T.getD k It.zero)) (hl : T.length = n) : ∀ j u, (fl T)[j]? = some u → w.cell? ((⟨b, off, none⟩ : Addr).add j) = some u := by
  intro j u hj
  have e : (⟨b, off, none⟩ : Addr).add j = ⟨b, off + j, none⟩ := by unfold Addr.add; split <;> simp_all
  rw [e]
  have hlt : j < n * 5 := by
    have := (List.getElem?_eq_some_iff.1 hj).1
    rw [fl_len] at this
    omega
  obtain ⟨h0, h1, h2, h3, h4⟩ := h (j / 5) (by omega)
  obtain ⟨e0, e1, e2, e3, e4⟩ := fl_get T (j / 5) (by omega)
  have : j % 5 = 0 ∨ j % 5 = 1 ∨ j % 5 = 2 ∨ j % 5 = 3 ∨ j % 5 = 4 := by omega
  rcases this with hr | hr | hr | hr | hr
  · rw [show j / 5 * 5 = j by omega] at e0 h0
    rw [e0] at hj
    rw [h0, ← hj]
  · rw [show off + j / 5 * 5 + 1 = off + j by omega] at h1
    rw [show j / 5 * 5 + 1 = j by omega] at e1
    rw [e1] at hj
    rw [h1, ← hj]
  · rw [show off + j / 5 * 5 + 2 = off + j by omega] at h2
    rw [show j / 5 * 5 + 2 = j by omega] at e2
    rw [e2] at hj
    rw [h2, ← hj]
  · rw [show off + j / 5 * 5 + 3 = off + j by omega] at h3
    rw [show j / 5 * 5 + 3 = j by omega] at e3
    rw [e3] at hj
    rw [h3, ← hj]
  · rw [show off + j / 5 * 5 + 4 = off + j by omega] at h4
    rw [show j / 5 * 5 + 4 = j by omega] at e4
    rw [e4] at hj
    rw [h4, ← hj]
theorem fl_one {T : List It} : ∀ u ∈ fl T, u.oneCell' = true := by
  intro u hu
  obtain ⟨f, _, hf⟩ := List.mem_flatMap.1 hu
  simp at hf
  rcases hf with rfl | rfl | rfl | rfl | rfl <;> rfl
theorem own_sliceF {w : World} {base n : Nat} {v : Value} {xs : List Value} (h : w.ownsRow base 36 5 v n xs) : (v = .slice none 0 0 ∧ n = 0) ∨ ∃ g cap, v = .slice (some ⟨g, 0, none⟩) n cap ∧ base ≤ g ∧ g < w.heap.size ∧ n ≤ cap := by
  rcases h.2 with ⟨rfl, hn⟩ | ⟨g, cap, cur, rfl, hg, hh, hc, _⟩
  · exact .inl ⟨rfl, hn⟩
  · exact .inr ⟨g, cap, rfl, hg, lt_of_block hh, hc⟩
theorem wpList_appF {w : World} {ops : Array Oper} {rest : List Oper} {o : Oper} {a : Act} {Q : Exit → Act → World → Prop} (hgd : o.guard = none) (s x : Operand)
    (ho : o.op = .call { callee := .builtin .append, args := #[s, x], argTypes := #[23, 23] })
    (base : Nat) (v : Value) (n : Nat) (T : List It) (hs : a.eval s = v) (hv : v ≠ .slice none 0 0) (hown : w.ownsRow base 36 5 v n (fl T))
    (g o' : Nat) (m c : Nat) (T' : List It) (hx : a.eval x = .slice (some ⟨g, o', none⟩) m c) (hl : T'.length = m)
    (hnews : ItemsIn w g o' m (fun k => T'.getD k It.zero)) (nm : Nat) (hnm : n + m = nm) (hn : nm ≤ 2000000) (hbase : base ≤ w.heap.size)
    (h : ∀ g' cap' w', w'.ownsRow base 36 5 (.slice (some ⟨g', 0, none⟩) nm cap') nm (fl (T ++ T')) → w.grownBy w' v.ownBlock → nm ≤ cap' → wpList Try.prog ops Q rest (a.put o.dst (.slice (some ⟨g', 0, none⟩) nm cap')) w') :
    wpList Try.prog ops Q (o :: rest) a w := by
  subst hnm
  obtain ⟨ti, hi, hz0, hz1, hz2⟩ := info_parts info78
  refine wpList_append_own w hgd s x 23 ho base 36 ti (fval It.zero) 5 40 Try.underlying23 hi hz0 hz1 hz2 rfl (by decide) v n (fl T) hs hown ⟨g, o', none⟩ m c (fl T') hx (by rw [fl_len, hl]) (facts_cell hnews hl) fl_one (by unfold maxLen; omega) (by omega) hbase (fun v' w' h1 h2 h3 => ?_)
  rw [← fl_append] at h1
  rcases own_sliceF h1 with ⟨e, _⟩ | ⟨g', cap', rfl, _, _, hc⟩
  · exact absurd (h3.1 e).1 hv
  · exact h g' cap' w' h1 h2 hc
theorem new_one (V : World) (f : It) : ItemsIn (V.alloc (.cells #[.int .i64 f.n, .int .i64 f.i, .int .i64 f.s, .bool f.g, .int .i64 f.l] 36)) V.heap.size 0 1 (fun j => [f].getD j It.zero) := fun j hj => by
  obtain rfl : j = 0 := by omega
  exact ⟨by simp [go_sem], by simp [go_sem], by simp [go_sem], by simp [go_sem]⟩
theorem seqF_getD (F : Nat → It) {len k : Nat} (h : k < len) : (seqF F len).getD k It.zero = F k := by simp [List.getD, seqF, h]
theorem ItemsIn.alloc {w : World} {b off len : Nat} {F : Nat → It} (h : ItemsIn w b off len F) (o : Obj) : ItemsIn (w.alloc o) b off len F := fun k hk => by
  obtain ⟨h0, h1, h2, h3, h4⟩ := h k hk
  exact ⟨keep_alloc o h0, keep_alloc o h1, keep_alloc o h2, keep_alloc o h3, keep_alloc o h4⟩
theorem getD_asc {T : List It} (h : Asc T) : ∀ j k, j < k → k < T.length → (T.getD j It.zero).n < (T.getD k It.zero).n := fun j k hj hk => by
  have := List.pairwise_iff_getElem.1 h j k (by omega) hk hj
  simpa [List.getD, hk, show j < T.length by omega] using this
/-- a list of the call's own, with a fact more -/
theorem own_emptyF (w : World) (base : Nat) (h : base ≤ w.heap.size) : (w.alloc (.cells #[] 36)).ownsRow base 36 5 (.slice (some ⟨w.heap.size, 0, none⟩) 0 0) 0 (fl []) := World.ownsRow_lit w #[] 0 h (by unfold maxLen; omega) rfl
theorem tput_ne (T : List It) (f : It) : (tput T f).length ≠ 0 := by
  cases T with
  | nil => simp [tput]
  | cons g r => unfold tput; split; simp; split; split <;> simp; simp
/-- what a walk over the items has done up to one of them -/
def Inv5 (T : List It) (x : It) (O : List It) (d : Bool) (k : Nat) : Prop := (if d = true then O ++ T.drop k else O ++ tput (T.drop k) x) = tput T x ∧ (d = true → ∀ j, k ≤ j → j < T.length → x.n < (T.getD j It.zero).n) ∧ O.length ≤ k + 1 ∧ (O.length = k + 1 → d = true)
theorem drop_cons (T : List It) (k : Nat) (h : k < T.length) : T.drop k = T.getD k It.zero :: T.drop (k + 1) := by
  rw [List.drop_eq_getElem_cons h]
  simp [List.getD, h]
theorem inv5_start (T : List It) (x : It) : Inv5 T x [] false 0 := ⟨by simp, by simp, by simp, by simp⟩
theorem inv5_low {T : List It} {x : It} {O : List It} {k : Nat} (h : Inv5 T x O false k) (hk : k < T.length) (hn : (T.getD k It.zero).n < x.n) : Inv5 T x (O ++ [T.getD k It.zero]) false (k + 1) := by
  obtain ⟨h1, h2, h3, h4⟩ := h
  have h5 : O.length ≠ k + 1 := fun e => by simpa using h4 e
  rw [drop_cons T k hk] at h1
  simp only [tput, hn, if_true] at h1
  refine ⟨by simpa using h1, by simp, by simp; omega, fun e => ?_⟩
  simp at e; omega
theorem inv5_same {T : List It} {x : It} {O : List It} {k : Nat} (hT : Asc T) (h : Inv5 T x O false k) (hk : k < T.length) (hn : (T.getD k It.zero).n = x.n) (ho : ovr x (T.getD k It.zero) = true) : Inv5 T x (O ++ [x]) true (k + 1) := by
  obtain ⟨h1, h2, h3, h4⟩ := h
  have h5 : O.length ≠ k + 1 := fun e => by simpa using h4 e
  rw [drop_cons T k hk] at h1
  have e : tput (T.getD k It.zero :: T.drop (k + 1)) x = x :: T.drop (k + 1) := by
    unfold tput
    rw [if_neg (by omega), if_pos hn, if_pos ho]
  rw [e] at h1
  refine ⟨by simpa using h1, fun _ j hj1 hj2 => ?_, by simp; omega, by simp⟩
  rw [← hn]
  exact getD_asc hT k j (by omega) hj2
theorem inv5_new {T : List It} {x : It} {O : List It} {k : Nat} (hT : Asc T) (h : Inv5 T x O false k) (hk : k < T.length) (hn : x.n < (T.getD k It.zero).n) : Inv5 T x (O ++ [x] ++ [T.getD k It.zero]) true (k + 1) := by
  obtain ⟨h1, h2, h3, h4⟩ := h
  have h5 : O.length ≠ k + 1 := fun e => by simpa using h4 e
  rw [drop_cons T k hk] at h1
  have e : tput (T.getD k It.zero :: T.drop (k + 1)) x = x :: T.getD k It.zero :: T.drop (k + 1) := by
    unfold tput
    rw [if_neg (by omega), if_neg (by omega)]
  rw [e] at h1
  refine ⟨by simpa using h1, fun _ j hj1 hj2 => ?_, by simp; omega, by simp⟩
  have := getD_asc hT k j (by omega) hj2
  omega
theorem inv5_on {T : List It} {x : It} {O : List It} {k : Nat} (h : Inv5 T x O true k) (hk : k < T.length) : Inv5 T x (O ++ [T.getD k It.zero]) true (k + 1) := by
  obtain ⟨h1, h2, h3, h4⟩ := h
  rw [drop_cons T k hk] at h1
  exact ⟨by simpa using h1, fun _ j hj1 hj2 => h2 rfl j (by omega) hj2, by simp; omega, by simp⟩
theorem inv5_end {T : List It} {x : It} {O : List It} {d : Bool} (h : Inv5 T x O d T.length) : (if d = true then O else O ++ [x]) = tput T x := by
  obtain ⟨h1, _⟩ := h
  rw [List.drop_length] at h1
  cases d
  · simpa [tput] using h1
  · simpa using h1
end Go.Proofs.Ythfafmafhodlkaa.I
