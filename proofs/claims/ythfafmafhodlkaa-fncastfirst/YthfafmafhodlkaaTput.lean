/- A table with a fact more: the program's way and the model's. -/
import Derived.Test.YthfafmafhodlkaaL3b
namespace Go.Proofs.Ythfafmafhodlkaa
open Go.ChangeShapes Go.WideShapes Go.ChangeAt Go.RowKit
attribute [local go_sem ↓] Go.wp_at_zero Go.wp_at_succ
theorem wpList_appF {w : World} {ops : Array Oper} {rest : List Oper} {o : Oper} {a : Act} {Q : Exit → Act → World → Prop} (hgd : o.guard = none) (s x : Operand)
    (ho : o.op = .call { callee := .builtin .append, args := #[s, x], argTypes := #[26, 26] })
    (base : Nat) (v : Value) (n : Nat) (T : List Fc) (hs : a.eval s = v) (hv : v ≠ .slice none 0 0) (hown : w.ownsRow base 34 4 v n (fl T))
    (g o' : Nat) (m c : Nat) (T' : List Fc) (hx : a.eval x = .slice (some ⟨g, o', none⟩) m c) (hl : T'.length = m)
    (hnews : FactsIn w g o' m (fun k => T'.getD k Fc.zero)) (nm : Nat) (hnm : n + m = nm) (hn : nm ≤ 2000000) (hbase : base ≤ w.heap.size)
    (h : ∀ g' cap' w', w'.ownsRow base 34 4 (.slice (some ⟨g', 0, none⟩) nm cap') nm (fl (T ++ T')) → w.grownBy w' v.ownBlock → nm ≤ cap' → wpList Try.prog ops Q rest (a.put o.dst (.slice (some ⟨g', 0, none⟩) nm cap')) w') :
    wpList Try.prog ops Q (o :: rest) a w := by
  subst hnm
  obtain ⟨ti, hi, hz0, hz1, hz2⟩ := info_parts info24
  refine wpList_append_own w hgd s x 26 ho base 34 ti (fval Fc.zero) 4 32 Try.underlying26 hi hz0 hz1 hz2 rfl (by decide) v n (fl T) hs hown ⟨g, o', none⟩ m c (fl T') hx (by rw [fl_len, hl]) (facts_cell hnews hl) fl_one (by unfold maxLen; omega) (by omega) hbase (fun v' w' h1 h2 h3 => ?_)
  rw [← fl_append] at h1
  rcases own_sliceF h1 with ⟨e, _⟩ | ⟨g', cap', rfl, _, _, hc⟩
  · exact absurd (h3.1 e).1 hv
  · exact h g' cap' w' h1 h2 hc
theorem seqF_getD_self (T : List Fc) : seqF (fun k => T.getD k Fc.zero) T.length = T := by
  apply List.ext_getElem
  · simp [seqF]
  · intro i h1 h2
    simp [seqF, List.getD, h2]
theorem getD_asc {T : List Fc} (h : Asc T) : ∀ j k, j < k → k < T.length → (T.getD j Fc.zero).n < (T.getD k Fc.zero).n := fun j k hj hk => by
  have := List.pairwise_iff_getElem.1 h j k (by omega) hk hj
  simpa [List.getD, hk, show j < T.length by omega] using this
/-- a list of the call's own, with a fact more -/
theorem l3put_own (base : Nat) (a : Option Addr) (cap n : Nat) (T : List Fc) (f : Fc) (w : World) (hown : w.ownsRow base 34 4 (.slice a n cap) n (fl T)) (hv : Value.slice a n cap ≠ .slice none 0 0) (hA : Asc T) (hl : n ≤ 1048576) (hb : base ≤ w.heap.size) :
    Calls Try.prog 49 #[.slice a n cap, fval f] w fun e w' => ∃ a' c', e = .returned (.tuple #[.slice a' (tput T f).length c', .bool (tnew T f)]) ∧ Value.slice a' (tput T f).length c' ≠ .slice none 0 0 ∧ w'.ownsRow base 34 4 (.slice a' (tput T f).length c') (tput T f).length (fl (tput T f)) ∧ Below w.heap.size w w' := by
  have hT : T.length = n := by have := hown.1; rw [fl_len] at this; omega
  rcases own_sliceF hown with ⟨e, _⟩ | ⟨g, c, e, hg1, hg2, hg3⟩
  · exact absurd e hv
  · simp only [Value.slice.injEq, true_and] at e
    obtain ⟨rfl, rfl⟩ := e
    obtain ⟨a0, c0, e0, _, _, hF⟩ := own_facts hown
    subst hT
    have hin : FactsIn w g 0 T.length (fun k => T.getD k Fc.zero) := fun k hk => by
      obtain ⟨b, off, e, _, h⟩ := hF (by omega)
      simp only [Value.slice.injEq, true_and] at e0
      rw [← e0.1] at e
      simp only [Option.some.injEq, Addr.mk.injEq, and_true] at e
      obtain ⟨rfl, rfl⟩ := e
      exact h k hk
    have h := l3put_any g 0 T.length cap (fun k => T.getD k Fc.zero) f w hin hg2 hg3 hl (getD_asc hA)
    rw [seqF_getD_self] at h
    refine h.mono ?_
    rintro e w' ⟨v', c', n', rfl, rfl, h1 | h1, hb'⟩
    · obtain ⟨rfl, rfl, h2, h3⟩ := h1
      refine ⟨_, _, rfl, by simp, ?_, hb'⟩
      rw [h3]
      exact own_below hown hb'
    · refine ⟨_, _, rfl, ?_, own_mono hb h1, hb'⟩
      intro e
      simp only [Value.slice.injEq] at e
      obtain ⟨rfl, e1, rfl⟩ := e
      rcases h1.2 with ⟨_, _⟩ | ⟨_, _, _, e2, _⟩
      · have h2 : (tput T f).length ≠ 0 := by
          cases T with
          | nil => simp [tput]
          | cons g r => unfold tput; split; simp; split; split <;> simp; simp
        exact h2 e1
      · simp at e2
def tpT (len : Nat) (F : Nat → Fc) (f : Fc) : List Fc := if (tokB len F && fok f) = true then tput (seqF F len) f else []
def tpQ (len : Nat) (F : Nat → Fc) (f : Fc) : Bool := (tokB len F && fok f) && tnew (seqF F len) f
theorem fokF_lit (f : Fc) (q : Bool) (w : World) (h : fok f = q) :
    Calls Try.prog 27 #[.agg #[.int .i64 f.n, .int .i64 f.i, .int .i64 f.s, .bool f.g]] w fun r w' => r = .returned (.bool q) ∧ Below w.heap.size w w' := h ▸ fok_below f.n f.i f.s f.g w
theorem sfok_litF (f : Fc) (q : Bool) (w : World) (h : fok f = q) :
    Calls Try.prog 30 #[.agg #[.int .i64 f.n, .int .i64 f.i, .int .i64 f.s, .bool f.g]] w fun r w' => r = .returned (.bool q) ∧ Below w.heap.size w w' := h ▸ sfok_below f.n f.i f.s f.g w
theorem own_emptyF (w : World) (base : Nat) (h : base ≤ w.heap.size) : (w.alloc (.cells #[] 34)).ownsRow base 34 4 (.slice (some ⟨w.heap.size, 0, none⟩) 0 0) 0 (fl []) := World.ownsRow_lit w #[] 0 h (by unfold maxLen; omega) rfl
theorem tput_ne (T : List Fc) (f : Fc) : (tput T f).length ≠ 0 := by
  cases T with
  | nil => simp [tput]
  | cons g r => unfold tput; split; simp; split; split <;> simp; simp
end Go.Proofs.Ythfafmafhodlkaa
