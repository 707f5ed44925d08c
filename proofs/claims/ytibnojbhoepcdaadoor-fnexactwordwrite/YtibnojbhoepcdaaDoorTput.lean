/- A table with a fact more: the program's way and the model's. -/
import Derived.Test.YtibnojbhoepcdaaDoorL3b
namespace Go.Proofs.YtibnojbhoepcdaaDoor
open Go.ChangeShapes Go.WideShapes Go.ChangeAt Go.RowKit
attribute [local go_sem ↓] Go.wp_at_zero Go.wp_at_succ
set_option maxRecDepth 20000 in
theorem wpList_appF {w : World} {ops : Array Oper} {rest : List Oper} {o : Oper} {a : Act} {Q : Exit → Act → World → Prop} (hgd : o.guard = none) (s x : Operand)
    (ho : o.op = .call { callee := .builtin .append, args := #[s, x], argTypes := #[30, 30] })
    (base : Nat) (v : Value) (n : Nat) (T : List Fc) (hs : a.eval s = v) (hv : v ≠ .slice none 0 0) (hown : w.ownsRow base 53 4 v n (fl T))
    (g o' : Nat) (m c : Nat) (T' : List Fc) (hx : a.eval x = .slice (some ⟨g, o', none⟩) m c) (hl : T'.length = m)
    (hnews : FactsIn w g o' m (fun k => T'.getD k Fc.zero)) (nm : Nat) (hnm : n + m = nm) (hn : nm ≤ 2000000) (hbase : base ≤ w.heap.size)
    (h : ∀ g' cap' w', w'.ownsRow base 53 4 (.slice (some ⟨g', 0, none⟩) nm cap') nm (fl (T ++ T')) → w.grownBy w' v.ownBlock → nm ≤ cap' → wpList Tryd.prog ops Q rest (a.put o.dst (.slice (some ⟨g', 0, none⟩) nm cap')) w') :
    wpList Tryd.prog ops Q (o :: rest) a w := by
  subst hnm
  obtain ⟨ti, hi, hz0, hz1, hz2⟩ := info_parts info24
  refine wpList_append_own w hgd s x 30 ho base 53 ti (fval Fc.zero) 4 32 Tryd.underlying30 hi hz0 hz1 hz2 rfl (by decide) v n (fl T) hs hown ⟨g, o', none⟩ m c (fl T') hx (by rw [fl_len, hl]) (facts_cell hnews hl) fl_one (by unfold maxLen; omega) (by omega) hbase (fun v' w' h1 h2 h3 => ?_)
  rw [← fl_append] at h1
  rcases own_sliceF h1 with ⟨e, _⟩ | ⟨g', cap', rfl, _, _, hc⟩
  · exact absurd (h3.1 e).1 hv
  · exact h g' cap' w' h1 h2 hc
set_option maxRecDepth 20000 in
theorem seqF_getD_self (T : List Fc) : seqF (fun k => T.getD k Fc.zero) T.length = T := by
  apply List.ext_getElem
  · simp [seqF]
  · intro i h1 h2
    simp [seqF, List.getD, h2]
set_option maxRecDepth 20000 in
theorem getD_asc {T : List Fc} (h : Asc T) : ∀ j k, j < k → k < T.length → (T.getD j Fc.zero).n < (T.getD k Fc.zero).n := fun j k hj hk => by
  have := List.pairwise_iff_getElem.1 h j k (by omega) hk hj
  simpa [List.getD, hk, show j < T.length by omega] using this
def tpT (len : Nat) (F : Nat → Fc) (f : Fc) : List Fc := if (tokB len F && fok f) = true then tput (seqF F len) f else []
def tpQ (len : Nat) (F : Nat → Fc) (f : Fc) : Bool := (tokB len F && fok f) && tnew (seqF F len) f
set_option maxRecDepth 20000 in
theorem fok_lit (f : Fc) (q : Bool) (w : World) (h : fok f = q) :
    Calls Tryd.prog 56 #[.agg #[.int .i64 f.n, .int .i64 f.i, .int .i64 f.s, .bool f.g]] w fun r w' => r = .returned (.bool q) ∧ Below w.heap.size w w' := h ▸ fok_below f.n f.i f.s f.g w
set_option maxRecDepth 20000 in
theorem sfok_litF (f : Fc) (q : Bool) (w : World) (h : fok f = q) :
    Calls Tryd.prog 51 #[.agg #[.int .i64 f.n, .int .i64 f.i, .int .i64 f.s, .bool f.g]] w fun r w' => r = .returned (.bool q) ∧ Below w.heap.size w w' := h ▸ sfok_below f.n f.i f.s f.g w
set_option maxRecDepth 20000 in
theorem own_emptyF (w : World) (base : Nat) (h : base ≤ w.heap.size) : (w.alloc (.cells #[] 53)).ownsRow base 53 4 (.slice (some ⟨w.heap.size, 0, none⟩) 0 0) 0 (fl []) := World.ownsRow_lit w #[] 0 h (by unfold maxLen; omega) rfl
set_option maxRecDepth 20000 in
theorem tput_ne (T : List Fc) (f : Fc) : (tput T f).length ≠ 0 := by
  cases T with
  | nil => simp [tput]
  | cons g r => unfold tput; split; simp; split; split <;> simp; simp
end Go.Proofs.YtibnojbhoepcdaaDoor
