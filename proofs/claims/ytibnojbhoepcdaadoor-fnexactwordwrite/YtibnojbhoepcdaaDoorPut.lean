/- The register takes a fact: the program's way. -/
import Derived.Test.YtibnojbhoepcdaaDoorSort
namespace Go.Proofs.YtibnojbhoepcdaaDoor
open Go.ChangeShapes Go.WideShapes Go.ChangeAt Go.RowKit
attribute [local go_sem ↓] Go.wp_at_zero Go.wp_at_succ
set_option maxRecDepth 20000 in
theorem over_ok {f g : Fc} (hf : fok f = true) (hg : fok g = true) (e : g.n = f.n) : overB f.n f.i f.s f.g g.n g.i g.s g.g = ovr f g := by
  unfold fok at hf hg
  unfold overB ovr
  rw [hf, hg]
  simp [e]
set_option maxRecDepth 20000 in
theorem cell_block {w : World} {b o : Nat} {cs : Array Value} {t : TypeId} {v : Value} (h : w.heap[b]? = some (.cells cs t (0, 0))) (hc : cs[o]? = some v) : w.cell? ⟨b, o, none⟩ = some v := by
  simp [World.cell?, h, hc]
set_option maxRecDepth 20000 in
theorem fok_wf {f : Fc} (h : fok f = true) : (Lit.int .i64 f.n).wf = true := by
  unfold fok fokB inb at h
  simp at h
  exact WalkArith.wf_i64 (by omega)
set_option maxRecDepth 20000 in
theorem map_ne {w : World} {mb c b o : Nat} {D : DataW Unit} {v : Value} (hm : w.ownsMap Tryd.prog 3 fE mb c D) (h : w.cell? ⟨b, o, none⟩ = some v) : b ≠ mb := fun e => by
  subst e
  obtain ⟨es, cl, h1, _⟩ := hm
  simp [World.cell?, h1] at h
set_option maxRecDepth 20000 in
theorem keep_map {w w' : World} {mb c b o : Nat} {D : DataW Unit} {v : Value} (hm : w.ownsMap Tryd.prog 3 fE mb c D) (hg : w.grownBy w' (some mb)) (h : w.cell? ⟨b, o, none⟩ = some v) : w'.cell? ⟨b, o, none⟩ = some v := hg.cell h (by simpa using map_ne hm h)
set_option maxRecDepth 20000 in
theorem keep_block {w w' : World} {b : Nat} {o : Obj} {r : Option Nat} (hg : w.grownBy w' r) (hr : some b ≠ r) (h : w.heap[b]? = some o) : w'.heap[b]? = some o := (hg.block b (lt_of_block h) hr).trans h
set_option maxRecDepth 20000 in
theorem block_ne {w : World} {mb c b : Nat} {D : DataW Unit} {cs : Array Value} {t : TypeId} {fz : Nat × Nat} (hm : w.ownsMap Tryd.prog 3 fE mb c D) (h : w.heap[b]? = some (.cells cs t fz)) : some b ≠ some mb := fun e => by
  simp only [Option.some.injEq] at e
  subst e
  obtain ⟨es, cl, h1, _⟩ := hm
  rw [h] at h1
  cases h1
set_option maxRecDepth 20000 in
theorem map_below {w w' : World} {mb c : Nat} {D : DataW Unit} (h : w.ownsMap Tryd.prog 3 fE mb c D) (hb : Below w.heap.size w w') : w'.ownsMap Tryd.prog 3 fE mb c D := by
  have hl := h.lt
  obtain ⟨es, clock, e1, r⟩ := h
  exact ⟨es, clock, (hb.block mb hl).trans e1, r⟩
set_option maxRecDepth 20000 in
theorem own_not_map {w : World} {base mb c n : Nat} {D : DataW Unit} {v : Value} {xs : List Value} (h : w.ownsRow base 3 1 v n xs) (hm : w.ownsMap Tryd.prog 3 fE mb c D) : v.ownBlock = none ∨ v.ownBlock ≠ some mb := by
  rcases h.2 with ⟨rfl, _⟩ | ⟨g, cap, cur, rfl, _, hh, _⟩
  · exact .inl rfl
  · exact .inr (block_ne hm hh)
set_option maxRecDepth 20000 in
theorem step_app1 {w : World} {ops : Array Oper} {o : Oper} {a : Act} {K : Act → World → Prop} {Q : Exit → Act → World → Prop} {E : Prop} (hgd : o.guard = none) (s x : Operand)
    (ho : o.op = .call { callee := .builtin .append, args := #[s, x], argTypes := #[92, 92] })
    (base : Nat) (v : Value) (n : Nat) (L : List Int) (hs : a.eval s = v) (hown : w.ownsRow base 3 1 v n (lv L))
    (g : Nat) (k : Int) (hx : a.eval x = .slice (some ⟨g, 0, none⟩) 1 1) (hnew : w.cell? ⟨g, 0, none⟩ = some (.int .i64 k)) (hn : n ≤ 100) (hbase : base ≤ w.heap.size)
    (h : ∀ a' cap' w', w'.ownsRow base 3 1 (.slice a' (n + 1) cap') (n + 1) (lv (L ++ [k])) → w.grownBy w' v.ownBlock → K (a.put o.dst (.slice a' (n + 1) cap')) w') :
    if Region.wanted o (yielded ops a.tmps) = true then Oper.wp Tryd.prog o a w K Q else E := by
  have hw : Region.wanted o (yielded ops a.tmps) = true := by simp [Region.wanted, hgd]
  rw [if_pos hw]
  obtain ⟨ti, hi, hz0, hz1, hz2⟩ := info_parts info3
  refine wp_append_own w s x 92 ho base 3 ti (.int .i64 0) 1 8 Tryd.underlying92 hi hz0 hz1 hz2 rfl (by decide) v n (lv L) hs hown ⟨g, 0, none⟩ 1 1 (lv [k]) hx rfl (fun j u hj => ?_) (fun u hu => ?_) (by unfold maxLen; omega) (by omega) hbase (fun v' w' h1 h2 _ => ?_)
  · match j, hj with
    | 0, hj => simp [lv] at hj; subst hj; simpa [Addr.add] using hnew
  · obtain ⟨y, _, rfl⟩ := List.mem_map.1 hu
    rfl
  · rw [← show lv (L ++ [k]) = lv L ++ lv [k] by simp [lv]] at h1
    rcases own_shape h1 with ⟨_, h0⟩ | ⟨g', cap', rfl, _⟩
    · omega
    · exact h _ cap' w' h1 h2
set_option maxRecDepth 20000 in
theorem not_own {w : World} {base n b : Nat} {t : TypeId} {cs : Array Value} {fz : Nat × Nat} {v : Value} {xs : List Value} (h : w.ownsRow base 3 1 v n xs) (hb : w.heap[b]? = some (.cells cs t fz)) (ht : t ≠ 3) : some b ≠ v.ownBlock := fun e => by
  rcases h.2 with ⟨rfl, _⟩ | ⟨g, cap, cur, rfl, _, hh, _⟩
  · cases e
  · simp only [Value.ownBlock, Option.some.injEq] at e
    subst e
    rw [hb] at hh
    simp at hh
    exact ht hh.2.1
set_option maxRecDepth 20000 in
theorem own_not_map' {w : World} {base mb c n : Nat} {D : DataW Unit} {v : Value} {xs : List Value} (h : w.ownsRow base 3 1 v n xs) (hm : w.ownsMap Tryd.prog 3 fE mb c D) : some mb ≠ v.ownBlock := fun e => by
  rcases own_not_map h hm with h | h
  · rw [h] at e; cases e
  · exact h e.symm
set_option maxRecDepth 20000 in
theorem block_alloc {w : World} {b : Nat} {o : Obj} (x : Obj) (h : w.heap[b]? = some o) : (w.alloc x).heap[b]? = some o := (Below.heap_alloc w x b (lt_of_block h)).trans h
set_option maxRecDepth 20000 in
theorem sorted_new {T : List Fc} {f : Fc} (hT : Asc T) (hg : tget T f.n = none) : (T.map (·.n) ++ [f.n]).mergeSort (fun x y => decide (x ≤ y)) = (tput T f).map (·.n) := by
  have h1 : ((tput T f).map (·.n)).Perm (T.map (·.n) ++ [f.n]) := by simpa using (tput_perm hg).map (·.n)
  have h2 : ((tput T f).map (·.n)).Pairwise (fun x y => x ≤ y) := by
    rw [List.pairwise_map]
    exact (tput_asc hT).imp (fun {a b} h => by omega)
  have h3 : ((T.map (·.n) ++ [f.n]).mergeSort (fun x y => decide (x ≤ y))).Pairwise (fun x y => x ≤ y) := by
    have := List.pairwise_mergeSort (le := fun (x y : Int) => decide (x ≤ y)) (fun a b c h1 h2 => by simp at *; omega) (fun a b => by simp; omega) (T.map (·.n) ++ [f.n])
    exact this.imp (fun {a b} h => by simpa using h)
  exact List.Perm.eq_of_pairwise (fun a b _ _ h1 h2 => by omega) h3 h2 ((List.mergeSort_perm _ _).trans h1.symm)
end Go.Proofs.YtibnojbhoepcdaaDoor
