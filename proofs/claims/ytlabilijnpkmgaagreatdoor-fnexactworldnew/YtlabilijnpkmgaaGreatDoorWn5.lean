/- A new world: the program's way. -/
import Derived.Test.YtlabilijnpkmgaaGreatDoorWn4
import Derived.Laws.MakeOwn
namespace Go.Proofs.YtlabilijnpkmgaaGreatDoor
open Go.ChangeShapes Go.WideShapes Go.ChangeAt Go.RowKit
attribute [local go_sem ↓] Go.wp_at_zero Go.wp_at_succ
/-- eight nodes that are nothing yet -/
def z168 : Array Value := zN ++ zN ++ zN ++ zN ++ zN ++ zN ++ zN ++ zN
theorem mk22 (w : World) : (Instr.makeSlice 22 (.int .i64 8) (.int .i64 8)).run Tryz.prog w = .ok (.slice (some ⟨w.heap.size, 0, none⟩) 8 8) (w.alloc (.cells z168 41)) := by kernel_rfl
theorem mk24 (w : World) : (Instr.makeSlice 24 (.int .i64 8) (.int .i64 8)).run Tryz.prog w = .ok (.slice (some ⟨w.heap.size, 0, none⟩) 8 8) (w.alloc (.cells #[.int .i64 0, .int .i64 0, .int .i64 0, .int .i64 0, .int .i64 0, .int .i64 0, .int .i64 0, .int .i64 0] 3)) := by kernel_rfl
/-- the first facts of all -/
def bF (k : Nat) : List Fc := (List.range k).map fun (i : Nat) => (⟨(i : Int), 0, 1, gtB i⟩ : Fc)
theorem bF_len (k : Nat) : (bF k).length = k := by simp [bF]
theorem bF_succ (k : Nat) : bF (k + 1) = bF k ++ [⟨(k : Int), 0, 1, gtB k⟩] := by simp [bF, List.range_succ]
theorem bF_lt (k j : Nat) (h : j < (bF k).length) : ((bF k).getD j Fc.zero).n < (k : Int) := by
  rw [bF_len] at h
  simp [bF, List.getD, h]
/-- the cells of the nodes of which the first k are there -/
def nF (tb : Nat → Nat) (k j : Nat) : Value := if j < k * 21 then (okN ((j / 21 : Nat) : Int) (gtB (j / 21)) (.slice (some ⟨tb (j / 21), 0, none⟩) 1 1)).toList.getD (j % 21) undef else zN.toList.getD (j % 21) undef
theorem nF_succ (tb : Nat → Nat) (k : Nat) (t : Nat) : rv (fun j => if k * 21 ≤ j ∧ j < k * 21 + 21 then (okN (k : Int) (gtB k) (.slice (some ⟨t, 0, none⟩) 1 1)).toList.getD (j - k * 21) undef else nF tb k j) (8 * 21) = rv (nF (fun i => if i = k then t else tb i) (k + 1)) (8 * 21) := rv_congr fun j hj => by
  by_cases q : k * 21 ≤ j ∧ j < k * 21 + 21
  · rw [if_pos q]
    have e1 : j / 21 = k := by omega
    have e2 : j % 21 = j - k * 21 := by omega
    unfold nF
    rw [if_pos (by omega), e1, e2]
    dsimp only
    rw [if_pos rfl]
  · rw [if_neg q]
    unfold nF
    by_cases p : j < k * 21
    · have e1 : ¬ j / 21 = k := by omega
      rw [if_pos p, if_pos (by omega)]
      dsimp only
      rw [if_neg e1]
    · rw [if_neg p, if_neg (by omega)]
theorem nF_tab (tb : Nat → Nat) (k : Nat) : nF tb k (k * 21 + 8) = .slice none 0 0 := by
  unfold nF
  have e : (k * 21 + 8) % 21 = 8 := by omega
  rw [if_neg (by omega), e]
  rfl
theorem nF_zero (tb : Nat → Nat) : rv (nF tb 0) (8 * 21) = z168.toList := by
  have h : ∀ j, nF tb 0 j = zN.toList.getD (j % 21) undef := fun j => by unfold nF; rw [if_neg (by omega)]
  rw [rv_congr (g := fun j => zN.toList.getD (j % 21) undef) (fun j _ => h j)]
  rfl
/-- a scene that the first k nodes have come into -/
structure NwI (w : World) (base sc nb sb rb : Nat) (tb : Nat → Nat) (vb : Value) (k : Nat) : Prop where
  s : w.heap[sc]? = some (.cells #[.slice (some ⟨nb, 0, none⟩) 8 8, .pointer (some ⟨rb, 0, none⟩), .slice (some ⟨sb, 0, none⟩) 8 8, vb] 50 (0, 0))
  n : w.ownsRow base 41 21 (.slice (some ⟨nb, 0, none⟩) 8 8) 8 (rv (nF tb k) (8 * 21))
  d : w.ownsRow base 3 1 (.slice (some ⟨sb, 0, none⟩) 8 8) 8 #[.int .i64 0, .int .i64 0, .int .i64 0, .int .i64 0, .int .i64 0, .int .i64 0, .int .i64 0, .int .i64 0].toList
  r : Rad w rb
  b : w.ownsRow base 45 4 vb (bF k).length (fl (bF k))
  t : ∀ i, i < k → Row1 w (tb i) (i : Int) 0 1 (gtB i) ∧ base ≤ tb i ∧ tb i ≠ sc ∧ tb i ≠ nb ∧ tb i ≠ sb ∧ vb.ownBlock ≠ some (tb i)
  e : ∀ i j, i < j → j < k → tb i ≠ tb j
  c : base ≤ sc
theorem Rad.mw {S : Nat → Prop} {w w' : World} {rb : Nat} (h : Rad w rb) (m : Mw S w w') (q : ∀ x t c, w.heap[x]? = some (.cells c t (0, 0)) → t = 68 ∨ t = 66 → ¬ S x) : Rad w' rb := by
  obtain ⟨hb, h1, h2⟩ := h
  exact ⟨hb, (m.block rb (lt_of_block h1) (q rb 68 _ h1 (.inl rfl))).trans h1, (m.block hb (lt_of_block h2) (q hb 66 _ h2 (.inr rfl))).trans h2⟩
theorem NwI.below {w w' : World} {base sc nb sb rb : Nat} {tb : Nat → Nat} {vb : Value} {k : Nat} (h : NwI w base sc nb sb rb tb vb k) (q : Below w.heap.size w w') : NwI w' base sc nb sb rb tb vb k :=
  ⟨(q.block sc (lt_of_block h.s)).trans h.s, own_below h.n q, own_below h.d q, h.r.below q, own_below h.b q, fun i hi => ⟨(h.t i hi).1.below q, (h.t i hi).2⟩, h.e, h.c⟩
theorem NwI.next {w w' : World} {base sc nb sb rb : Nat} {tb : Nat → Nat} {vb vb' : Value} {k t H : Nat} (h : NwI w base sc nb sb rb tb vb k) (hr : Row1 w t (k : Int) 0 1 (gtB k)) (hH : H ≤ t) (hbase : base ≤ H) (hsc : sc < H) (hnb : nb < H) (hsb : sb < H) (hvb : ∀ x, vb.ownBlock = some x → x < H) (htb : ∀ i, i < k → tb i < H)
    (g1 : w'.heap[sc]? = some (.cells #[.slice (some ⟨nb, 0, none⟩) 8 8, .pointer (some ⟨rb, 0, none⟩), .slice (some ⟨sb, 0, none⟩) 8 8, vb'] 50 (0, 0))) (g2 : w'.ownsRow base 41 21 (.slice (some ⟨nb, 0, none⟩) 8 8) 8 (rv (fun j => if k * 21 ≤ j ∧ j < k * 21 + 21 then (okN (k : Int) (gtB k) (.slice (some ⟨t, 0, none⟩) 1 1)).toList.getD (j - k * 21) undef else nF tb k j) (8 * 21)))
    (g3 : w'.ownsRow base 45 4 vb' ((bF k).length + 1) (fl (bF k ++ [⟨(k : Int), 0, 1, gtB k⟩]))) (m : Mw (fun b => b = sc ∨ b = nb ∨ vb.ownBlock = some b) w w') (g5 : vb'.ownBlock = vb.ownBlock ∨ ∃ x, vb'.ownBlock = some x ∧ w.heap.size ≤ x) :
    NwI w' base sc nb sb rb (fun i => if i = k then t else tb i) vb' (k + 1) := by
  rw [nF_succ] at g2
  have v1 : ∀ x, x < w.heap.size → vb.ownBlock ≠ some x → vb'.ownBlock ≠ some x := fun x hx q e => by
    rcases g5 with g5 | ⟨y, e2, hy⟩
    · exact q (g5 ▸ e)
    · rw [e2] at e
      injection e with e
      omega
  have tS : ¬ (t = sc ∨ t = nb ∨ vb.ownBlock = some t) := fun q => by
    rcases q with q | q | q
    · omega
    · omega
    · have := hvb t q; omega
  refine ⟨g1, g2, own_mw h.d m (fun x e q => ?_), h.r.mw m (fun x ty c hx ht q => ?_), ?_, fun i hi => ?_, fun i j hij hj => ?_, h.c⟩
  · cases e
    rcases q with q | q | q
    · exact own_box h.d (q ▸ h.s) (by decide) rfl
    · exact own_apart h.d h.n (by decide) sb rfl (by have q' : sb = nb := q; rw [q']; rfl)
    · exact own_apart h.d h.b (by decide) sb rfl q
  · rcases q with q | q | q
    · subst q
      rw [h.s] at hx
      injection hx with hx
      injection hx with _ hx _
      rcases ht with rfl | rfl <;> exact absurd hx (by decide)
    · subst q
      rcases ht with rfl | rfl <;> exact own_box h.n hx (by decide) rfl
    · rcases ht with rfl | rfl <;> exact own_box h.b hx (by decide) q
  · rw [bF_succ, List.length_append]
    exact g3
  · by_cases e : i = k
    · subst e
      rw [if_pos rfl]
      exact ⟨hr.block (m.block t hr.lt tS), by omega, by omega, by omega, by omega, v1 t hr.lt (fun e => by have := hvb t e; omega)⟩
    · rw [if_neg e]
      obtain ⟨q1, q2, q3, q4, q5, q6⟩ := h.t i (by omega)
      exact ⟨q1.block (m.block (tb i) q1.lt (fun q => q.elim q3 (fun q => q.elim q4 q6))), q2, q3, q4, q5, v1 _ q1.lt q6⟩
  · by_cases e : j = k
    · subst e
      rw [if_pos rfl, if_neg (by omega)]
      have := htb i (by omega)
      omega
    · rw [if_neg e, if_neg (by omega)]
      exact h.e i j hij (by omega)
end Go.Proofs.YtlabilijnpkmgaaGreatDoor
