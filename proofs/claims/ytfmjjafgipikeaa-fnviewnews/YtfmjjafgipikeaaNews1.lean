/- What is new in a view: the program's iterator. -/
import Derived.Test.YtfmjjafgipikeaaColl
import Derived.Test.YtfmjjafgipikeaaTab
namespace Go.Proofs.Ytfmjjafgipikeaa.W
open Go.RowKit Go.Shelf
attribute [local go_sem] Oper.semAt_some
def nwk (u g : Fc) : Option It := if u.n = g.n ∧ u.i = g.i ∧ u.s = g.s ∧ u.g = g.g then none else some ⟨g.n, g.i, g.s, g.g, u.s⟩
def upto (u G : Nat → Fc) (k : Nat) : List It := (List.range k).filterMap fun j => nwk (u j) (G j)
theorem upto_succ (u G : Nat → Fc) (k : Nat) : upto u G (k + 1) = upto u G k ++ (nwk (u k) (G k)).toList := by
  unfold upto
  rw [List.range_succ, List.filterMap_append]
  cases h : nwk (u k) (G k) <;> simp [h]
theorem upto_len (u G : Nat → Fc) (k : Nat) : (upto u G k).length ≤ k := by
  have := List.length_filterMap_le (fun j => nwk (u j) (G j)) (List.range k)
  simpa [upto] using this
theorem cell_at {w : World} {b o : Nat} {cs : Array Value} {t : TypeId} {v : Value} (h : w.heap[b]? = some (.cells cs t (0, 0))) (hv : cs[o]? = some v) : w.cell? ⟨b, o, none⟩ = some v := by simp [World.cell?, h, hv]
theorem grown_of {w w' : World} (h : Below w.heap.size w w') : w.grownBy w' none := ⟨h.os, h.tape, h.output, h.size, fun k hk _ => h.block k hk⟩
set_option maxRecDepth 100000 in
set_option maxHeartbeats 4000000 in
theorem news1_in (n : Nat) (l Bo Bn : Nat) (a : Option Addr) (len cap : Nat) (a2 : Option Addr) (len2 cap2 : Nat) (G u : Nat → Fc) (w0 : World) (hl2 : len2 ≤ 1048576) (hBo : Bo < w0.heap.size) (hBn : Bn < w0.heap.size)
    (cBo : w0.cell? ⟨Bo, 0, none⟩ = some (.slice a len cap)) (cBn : w0.cell? ⟨Bn, 0, none⟩ = some (.slice a2 len2 cap2)) (hG : FSl w0 a2 len2 G)
    (hof : ∀ k, k < len2 → ∀ wr, Below w0.heap.size w0 wr → Calls Try.prog 10 #[.slice a len cap, .int .i64 (G k).n] wr fun e w' => ∃ q, e = .returned (.tuple #[.agg #[.int .i64 (u k).n, .int .i64 (u k).i, .int .i64 (u k).s, .bool (u k).g], .bool q]) ∧ Below wr.heap.size wr w')
    (J Jx : List It → World → Prop) (W : World) (hW : Below w0.heap.size w0 W) (hJ : AbidesFrom W.heap.size J)
    (hY : ∀ pre x W1, J pre W1 → pre.length < len2 → YieldAt Fence.wide (n - 1) Try.prog l #[.agg #[.int .i64 x.n, .int .i64 x.i, .int .i64 x.s, .bool x.g, .int .i64 x.l]] W1 fun e W' =>
      (e = .returned (.bool true) ∧ J (pre ++ [x]) W' ∧ Below w0.heap.size W1 W') ∨ (e = .returned (.bool false) ∧ Jx (pre ++ [x]) W'))
    (h0 : J [] W) :
    CallsIn Fence.wide n Try.prog 42 #[.func (.yield l) #[] #[], .pointer (some ⟨Bn, 0, none⟩), .pointer (some ⟨Bo, 0, none⟩)] W fun e W' => (∃ v, e = .returned v) ∧
      ((∃ ys, ys = upto u G len2 ∧ J ys W') ∨ (∃ pre, True ∧ Jx pre W')) := by
  have hJb : ∀ (s : List It) (A B : World), J s A → Below A.heap.size A B → J s B := fun s A B hs hb => hJ s A B none hs (grown_of hb) (by simp)
  have cn := (hW.cell (p := ⟨Bn, 0, none⟩) hBn).trans cBn
  have hmx : Try.prog.follows .mixedOrders = true := by kernel_rfl
  refine callsIn_of_wp Try.func42 rfl trivial ?_ rfl
  simp only [Try.ntmps42, List.size_toArray, List.length_cons, List.length_nil, Nat.reduceAdd, Nat.reduceSub, Array.replicate_succ, Array.replicate_zero, List.push_toArray, List.append_toArray, List.nil_append, List.cons_append]
  gi_wp2
  gi_loopw [10] (fun i wr => ∃ k : Nat, k ≤ len2 ∧ i = .int .i64 k ∧ J (upto u G k) wr ∧ Below w0.heap.size w0 wr) (fun i _ => len2 - (intOf i).toNat)
  case atStart => exact ⟨0, Nat.zero_le _, rfl, h0, hW⟩
  case round =>
    obtain ⟨k, hk, rfl, hJs, hb⟩ := hrel
    by_cases hlt : k < len2
    · have i0 : (0 : Int) ≤ (k : Int) := by omega
      have i1 : (k : Int) < (len2 : Int) := by omega
      obtain ⟨bg, og, rfl, hbg, hfg⟩ := hG (by omega)
      obtain ⟨c0, c1, c2, c3⟩ := (hfg.below hb hbg) k hlt
      have hok := hof k hlt
      have hs := upto_succ u G k
      have hlen := upto_len u G k
      generalize G k = g at *
      generalize u k = f at *
      obtain ⟨g0, g1, g2, g3⟩ := g
      obtain ⟨f0, f1, f2, f3⟩ := f
      dsimp only at *
      have co := (hb.cell (p := ⟨Bo, 0, none⟩) hBo).trans cBo
      have hB1 : Below wr.heap.size wr (wr.alloc (.cells #[.int .i64 g0, .int .i64 g1, .int .i64 g2, .bool g3] 30)) := (Below.refl _ wr).alloc (Nat.le_refl _) _
      have co1 := (hB1.cell (p := ⟨Bo, 0, none⟩) (by have := hb.size; show Bo < wr.heap.size; omega)).trans co
      clear cBo cBn
      gi_wp2_with fail
      refine ⟨trivial, by simp [Fence.wide], ?_⟩
      have p1 : (wr.alloc (.cells #[.int .i64 g0, .int .i64 g1, .int .i64 g2, .bool g3] 30)).heap[wr.heap.size]? = some (.cells #[.int .i64 g0, .int .i64 g1, .int .i64 g2, .bool g3] 30 (0, 0)) := World.alloc_heap_new wr _
      have hb1 : Below w0.heap.size w0 (wr.alloc (.cells #[.int .i64 g0, .int .i64 g1, .int .i64 g2, .bool g3] 30)) := hb.alloc hb.size _
      clear co co1 c0 c1 c2 c3
      generalize (wr.alloc (.cells #[.int .i64 g0, .int .i64 g1, .int .i64 g2, .bool g3] 30)) = W1 at *
      obtain ⟨b5, hb5⟩ : ∃ b5, wr.heap.size = b5 := ⟨_, rfl⟩
      have hwz : wr.heap.size ≤ b5 := Nat.le_of_eq hb5
      rw [hb5] at hB1 p1 ⊢
      clear hb5
      refine (callsIn_wide.2 (hok W1 hb1)).mono ?_
      rintro e W2 ⟨q, rfl, b2⟩
      have p2 := (b2.block b5 (Array.getElem?_eq_some_iff.1 p1).1).trans p1
      have hB2 : Below b5 wr W2 := hB1.trans (b2.mono (Nat.le_of_lt (Array.getElem?_eq_some_iff.1 p1).1))
      have hsz : W2.heap.size ≤ (W2.alloc (.cells #[.int .i64 f0, .int .i64 f1, .int .i64 f2, .bool f3] 30)).heap.size := by simp
      have p3 : (W2.alloc (.cells #[.int .i64 f0, .int .i64 f1, .int .i64 f2, .bool f3] 30)).heap[b5]? = some (.cells #[.int .i64 g0, .int .i64 g1, .int .i64 g2, .bool g3] 30 (0, 0)) := (Below.heap_alloc W2 _ b5 (Array.getElem?_eq_some_iff.1 p2).1).trans p2
      have hB3 : Below b5 wr (W2.alloc (.cells #[.int .i64 f0, .int .i64 f1, .int .i64 f2, .bool f3] 30)) := hB2.alloc (Nat.le_of_lt (Array.getElem?_eq_some_iff.1 p2).1) _
      have hJ3 := hJb _ _ _ hJs (hB3.mono hwz)
      have d0 := cell_at (o := 0) (v := .int .i64 g0) p3 rfl
      have d1 := cell_at (o := 1) (v := .int .i64 g1) p3 rfl
      have d2 := cell_at (o := 2) (v := .int .i64 g2) p3 rfl
      have d3 := cell_at (o := 3) (v := .bool g3) p3 rfl
      have hb3 : Below w0.heap.size w0 (W2.alloc (.cells #[.int .i64 f0, .int .i64 f1, .int .i64 f2, .bool f3] 30)) := hb.trans (hB3.mono (by have := hb.size; omega))
      clear p1 hB2 hB1 p2 p3 hsz hB3
      by_cases he : f0 = g0 ∧ f1 = g1 ∧ f2 = g2 ∧ f3 = g3
      · have e1 : nwk ⟨f0, f1, f2, f3⟩ ⟨g0, g1, g2, g3⟩ = none := by unfold nwk; rw [if_pos he]
        rw [e1] at hs
        simp only [Option.toList, List.append_nil] at hs
        clear e1
        obtain ⟨rfl, rfl, rfl, rfl⟩ := he
        gi_wp2_with fail
        refine ⟨fun _ h => (by cases h), ?_⟩
        gi_wp2
        go_roundw
        case rel => exact ⟨k + 1, by omega, by simp, by rw [hs]; exact hJ3, hb3⟩
        case measure => simp [intOf]; omega
      · have e1 : nwk ⟨f0, f1, f2, f3⟩ ⟨g0, g1, g2, g3⟩ = some ⟨g0, g1, g2, g3, f2⟩ := by unfold nwk; rw [if_neg he]
        rw [e1] at hs
        simp only [Option.toList] at hs
        obtain ⟨fn, tmps, assign, body, hy, hR⟩ := hY (upto u G k) ⟨g0, g1, g2, g3, f2⟩ _ hJ3 (by omega)
        dsimp only at hy
        have he' : ((f0 == g0) = false ∧ ¬ f0 = g0) ∨ (f0 = g0 ∧ ((f1 == g1) = false ∧ ¬ f1 = g1)) ∨ (f0 = g0 ∧ f1 = g1 ∧ ((f2 == g2) = false ∧ ¬ f2 = g2)) ∨ (f0 = g0 ∧ f1 = g1 ∧ f2 = g2 ∧ ((f3 == g3) = false ∧ ¬ f3 = g3)) := by
          by_cases e0 : f0 = g0
          · by_cases e1 : f1 = g1
            · by_cases e2 : f2 = g2
              · exact .inr (.inr (.inr ⟨e0, e1, e2, by simpa using fun e => he ⟨e0, e1, e2, e⟩, fun e => he ⟨e0, e1, e2, e⟩⟩))
              · exact .inr (.inr (.inl ⟨e0, e1, by simpa using e2, e2⟩))
            · exact .inr (.inl ⟨e0, by simpa using e1, e1⟩)
          · exact .inl ⟨by simpa using e0, e0⟩
        clear he e1
        rcases he' with ⟨z0, z1⟩ | ⟨rfl, z0, z1⟩ | ⟨rfl, rfl, z0, z1⟩ | ⟨rfl, rfl, rfl, z0, z1⟩
        all_goals gi_wp2_with fail
        all_goals refine ⟨by simp [Fence.wide], ?_⟩
        all_goals refine hR.mono ?_
        all_goals rintro e W4 (⟨rfl, hJ4, hk4⟩ | ⟨rfl, hJx4⟩)
        all_goals gi_wp2
        all_goals first
          | (refine bodyPost_ret (results_none rfl _ _ _) rfl ?_
             exact ⟨⟨_, rfl⟩, .inr ⟨_, trivial, hJx4⟩⟩)
          | (go_roundw
             case rel => exact ⟨k + 1, by omega, by simp, by rw [hs]; exact hJ4, hb3.trans hk4⟩
             case measure => simp [intOf]; omega)
    · obtain rfl : k = len2 := by omega
      gi_wp2
      go_end0
      exact ⟨⟨_, rfl⟩, .inl ⟨_, rfl, hJs⟩⟩
end Go.Proofs.Ytfmjjafgipikeaa.W
