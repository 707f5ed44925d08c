/- Registers of lists, and what they tell: the program's tables. -/
import Derived.Test.YtgcdcfjaeehnbaaGreatPut
import Derived.Test.YtgcdcfjaeehnbaaGreatNd40
namespace Go.Proofs.YtgcdcfjaeehnbaaGreat
open Go.ChangeShapes Go.WideShapes Go.ChangeAt Go.RowKit
set_option maxRecDepth 20000
set_option maxHeartbeats 2000000
attribute [local go_sem ↓] Go.wp_at_zero Go.wp_at_succ
theorem seqF_succ (F : Nat → Fc) (n : Nat) : seqF F (n + 1) = seqF F n ++ [F n] := by simp [seqF, List.range_succ]
theorem seqF_mem {F : Nat → Fc} {n : Nat} {f : Fc} (h : f ∈ seqF F n) : ∃ k, k < n ∧ F k = f := by
 obtain ⟨k, hk, rfl⟩ := List.mem_map.1 h
 exact ⟨k, by simpa using hk, rfl⟩
theorem asc_mono {F : Nat → Fc} {len : Nat} (h : ∀ k, k < len → 0 < k → (F (k - 1)).n < (F k).n) : ∀ j k, j < k → k < len → (F j).n < (F k).n
 | j, 0, h1, _ => by omega
 | j, k + 1, h1, h2 => by
  have e := h (k + 1) h2 (by omega)
  simp at e
  rcases Nat.lt_or_ge j k with h3 | h3
  ·have := asc_mono h j k h3 (by omega); omega
  ·obtain rfl : j = k := by omega
   exact e
theorem tok_all {len : Nat} {F : Nat → Fc} (h : tokB len F = true) : (∀ k, k < len → fok (F k) = true) ∧ ∀ j k, j < k → k < len → (F j).n < (F k).n := by
 unfold tokB at h
 rw [Bool.and_eq_true] at h
 exact ⟨fun k hk => (of_decide_eq_true h.1) k hk, asc_mono (of_decide_eq_true h.2)⟩
theorem seqF_asc {F : Nat → Fc} {len : Nat} (h : ∀ j k, j < k → k < len → (F j).n < (F k).n) : ∀ n, n ≤ len → Asc (seqF F n)
 | 0, _ => List.Pairwise.nil
 | n + 1, hn => by
  rw [seqF_succ]
  unfold Asc
  rw [List.pairwise_append]
  refine ⟨seqF_asc h n (by omega), List.pairwise_singleton _ _, fun a ha b hb => ?_⟩
  obtain ⟨k, hk, rfl⟩ := seqF_mem ha
  simp at hb
  subst hb
  exact h k n hk (by omega)
theorem tput_last : ∀ {T : List Fc} {f : Fc}, (∀ g ∈ T, g.n < f.n) → tput T f = T ++ [f]
 | [], _, _ => rfl
 | g :: r, f, h => by
  unfold tput
  rw [if_pos (h g (by simp)), tput_last (fun x hx => h x (by simp [hx]))]
  rfl
theorem seqF_put {F : Nat → Fc} {len n : Nat} (h : ∀ j k, j < k → k < len → (F j).n < (F k).n) (hn : n < len) : tput (seqF F n) (F n) = seqF F (n + 1) := by
 rw [seqF_succ, tput_last]
 intro g hg
 obtain ⟨k, hk, rfl⟩ := seqF_mem hg
 exact h k n hk hn
theorem tok_len {len : Nat} {F : Nat → Fc} (h : tokB len F = true) : len ≤ 8 := by
 obtain ⟨h1, h2⟩ := tok_all h
 rcases asc_short (seqF F len) 0 (seqF_asc h2 len (Nat.le_refl _)) (fun g hg => by obtain ⟨k, hk, rfl⟩ := seqF_mem hg; have := h1 k hk; unfold fok fokB inb at this; simp at this; omega) with h | h
 ·rw [seqF_len] at h; omega
 ·have := congrArg List.length h; rw [seqF_len] at this; simp at this; omega
def fl (T : List Fc) : List Value := T.flatMap fun f => [.int .i64 f.n, .int .i64 f.i, .int .i64 f.s, .bool f.g]
theorem fl_len (T : List Fc) : (fl T).length = T.length * 4 := by
 induction T with
 | nil => rfl
 | cons f r ih => simp [fl] at *; omega
theorem fl_snoc (T : List Fc) (f : Fc) : fl (T ++ [f]) = fl T ++ [.int .i64 f.n, .int .i64 f.i, .int .i64 f.s, .bool f.g] := by simp [fl]
theorem fl_append (T T' : List Fc) : fl (T ++ T') = fl T ++ fl T' := by simp [fl]
theorem fl_get (T : List Fc) : ∀ k, k < T.length → (fl T)[k * 4]? = some (.int .i64 (T.getD k Fc.zero).n) ∧ (fl T)[k * 4 + 1]? = some (.int .i64 (T.getD k Fc.zero).i) ∧ (fl T)[k * 4 + 2]? = some (.int .i64 (T.getD k Fc.zero).s) ∧ (fl T)[k * 4 + 3]? = some (.bool (T.getD k Fc.zero).g) := by
 induction T with
 | nil => intro k hk; simp at hk
 | cons f r ih =>
  intro k hk
  have e : fl (f :: r) = [.int .i64 f.n, .int .i64 f.i, .int .i64 f.s, .bool f.g] ++ fl r := by simp [fl]
  rw [e]
  match k, hk with
  | 0, _ => simp
  | k + 1, hk =>
   have := ih k (by simpa using hk)
   rw [show (k + 1) * 4 = k * 4 + 4 by omega]
   simpa [List.getElem?_append] using this
theorem own_facts {w : World} {base : Nat} {v : Value} {n : Nat} {T : List Fc} (h : w.ownsRow base 96 4 v n (fl T)) : ∃ a cap, v = .slice a n cap ∧ n ≤ cap ∧ T.length = n ∧ FSl w a n (fun k => T.getD k Fc.zero) := by
 have h0 := h
 have hl : T.length = n := by have := h.1; rw [fl_len] at this; omega
 rcases h.2 with ⟨rfl, rfl⟩ | ⟨g, cap, cur, rfl, hg, hh, hc, _⟩
 ·exact ⟨none, 0, rfl, Nat.le_refl _, hl, fun h => by omega⟩
 ·refine ⟨_, cap, rfl, hc, hl, fun _ => ⟨g, 0, rfl, lt_of_block hh, fun k hk => ?_⟩⟩
  obtain ⟨e0, e1, e2, e3⟩ := fl_get T k (by omega)
  simp only [Nat.zero_add]
  exact ⟨(h0.cellAt _ (by omega)).trans e0, (h0.cellAt _ (by omega)).trans e1, (h0.cellAt _ (by omega)).trans e2, (h0.cellAt _ (by omega)).trans e3⟩
theorem regOf_any (a : Option Addr) (len cap : Nat) (F : Nat → Fc) (w : World) (h : FSl w a len F) (hok : tokB len F = true) :
  Calls Tryz.prog 197 #[.slice a len cap] w fun e w' => ∃ rb, e = .returned (.pointer (some ⟨rb, 0, none⟩)) ∧ Reg w' w.heap.size rb len (seqF F len) ∧ Below w.heap.size w w' := by
 have hl := tok_len hok
 obtain ⟨t1, t2⟩ := tok_all hok
 have hok' : Hid (tokB len F = true) := hok
 clear hok hok'
 have hmm := @run_makeMap Tryz.prog
 go_enter Tryz.func197, Tryz.ntmps197
 go_wp2_with fail
 have B0 : Below w.heap.size w ((w.alloc (.map #[] 0)).alloc (.cells #[.slice none 0 0, .map (some w.heap.size)] 229)) := balloc _ (balloc _ (Below.refl _ _))
 have R0 : Reg ((w.alloc (.map #[] 0)).alloc (.cells #[.slice none 0 0, .map (some w.heap.size)] 229)) w.heap.size (w.heap.size + 1) 0 (seqF F 0) :=
  ⟨_, w.heap.size, _, by have := heap_alloc_new (w.alloc (.map #[] 0)) (.cells #[.slice none 0 0, .map (some w.heap.size)] 229); simpa using this, by omega, Nat.le_refl _, World.ownsRow_nil _ _ _ _, (World.ownsMap_made w _ _ _).alloc _, kept_nil⟩
 generalize ((w.alloc (.map #[] 0)).alloc (.cells #[.slice none 0 0, .map (some w.heap.size)] 229)) = W0 at *
 go_loopw [11] (fun i wr => ∃ k : Nat, k ≤ len ∧ i = .int .i64 k ∧ Reg wr w.heap.size (w.heap.size + 1) k (seqF F k) ∧ Below w.heap.size w wr) (fun i _ => len - (intOf i).toNat)
 case atStart => exact ⟨0, Nat.zero_le _, rfl, R0, B0⟩
 case round =>
  obtain ⟨k, hk, rfl, hR, hb⟩ := hrel
  clear hmm R0 B0
  by_cases hlt : k < len
  ·obtain ⟨b, off, rfl, hbl, hf⟩ := h (by omega)
   obtain ⟨c0, c1, c2, c3⟩ := (hf.below hb hbl) k hlt
   go_wp2_with fail
   refine (put_any w.heap.size (w.heap.size + 1) k (seqF F k) (F k) _ (hR.below (balloc _ (Below.refl _ _))) (seqF_asc t2 k (by omega)) (fun g hg => by obtain ⟨j, hj, rfl⟩ := seqF_mem hg; exact t1 j (by omega)) (t1 k hlt) (by have := hb.size; simp; omega) (by omega)).mono ?_
   rintro e w1 ⟨rfl, R1, b1⟩
   rw [seqF_put t2 hlt] at R1
   have B1 := (balloc _ hb).trans b1
   clear hR c0 c1 c2 c3 b1
   go_wp2
   go_roundw
   case rel => exact ⟨k + 1, by omega, by go_num, R1, B1⟩
   case measure => simp [intOf]; omega
  ·go_wp2
   go_ret
   have e : k = len := by omega
   subst e
   exact ⟨_, rfl, hR, hb⟩
end Go.Proofs.YtgcdcfjaeehnbaaGreat
namespace Go.Proofs.YtgcdcfjaeehnbaaGreat
open Go.ChangeShapes Go.WideShapes Go.ChangeAt Go.RowKit
set_option maxRecDepth 20000
set_option maxHeartbeats 2000000
attribute [local go_sem ↓] Go.wp_at_zero Go.wp_at_succ
theorem tget_at : ∀ {T : List Fc} (k : Nat), Asc T → k < T.length → tget T (T.getD k Fc.zero).n = some (T.getD k Fc.zero)
 | [], k, _, h => by simp at h
 | g :: r, 0, _, _ => by rw [tget_cons]; simp
 | g :: r, k + 1, h, hk => by
  obtain ⟨h1, h2⟩ := asc_cons.1 h
  have hk' : k < r.length := by simpa using hk
  have e : (g :: r).getD (k + 1) Fc.zero = r.getD k Fc.zero := by simp
  rw [e, tget_cons, if_neg, tget_at k h2 hk']
  have := h1 (r.getD k Fc.zero) (by simp [List.getD, hk'])
  omega
theorem take_snoc (T : List Fc) (k : Nat) (h : k < T.length) : T.take (k + 1) = T.take k ++ [T.getD k Fc.zero] := by
 rw [List.take_add_one]
 simp [List.getD, h]
theorem wpList_lookup_fact0 {w : World} {ops : Array Oper} {rest : List Oper} {o : Oper} {a : Act} {Q : Exit → Act → World → Prop} (hg : o.guard = none) (m x : Operand) (hop : o.op = Op.lookup 227 m x false)
  (b n : Nat) (D : DataW Unit) (T : List Fc) (hm : a.eval m = .map (some b)) (hown : w.ownsMap Tryz.prog 3 fE b n D) (hT : Kept D T) (k : Int) (hx : a.eval x = .int .i64 k) (hk : (Lit.int .i64 k).wf = true)
  (g : Fc) (hgk : (tget T k).getD Fc.zero = g) (hK : wpList Tryz.prog ops Q rest (a.put o.dst (fval g)) w) :
  wpList Tryz.prog ops Q (o :: rest) a w := by
 refine wpList_plain hg fun K' hK' => ?_
 obtain ⟨v, ps, hrun, hv⟩ := hown.lookup keyed3 Tryz.underlying227 (zero30 w) (fE_mk Fc.zero) (Maps.keyOf_int_mk Tryz.underlying3 hk)
 obtain ⟨f, rfl, hz⟩ := fE_inv hv
 simp only [Prod.mk.injEq] at hz
 rw [(hT k).2, hgk] at hz
 rw [← fd_inj hz.1] at hrun
 unfold Oper.wp
 simp [execOp, hop, hm, hx, hrun, Result.andThen]
 exact hK' _ _ hK
theorem list_any (base rb c : Nat) (T : List Fc) (w : World) (hR : Reg w base rb c T) (hT : Asc T) (hok : ∀ g ∈ T, fok g = true) (hl : T.length ≤ 100) :
  Calls Tryz.prog 199 #[.pointer (some ⟨rb, 0, none⟩)] w fun e w' => ∃ v, e = .returned v ∧ w'.ownsRow w.heap.size 96 4 v T.length (fl T) ∧ Below w.heap.size w w' := by
 obtain ⟨ti, hi, hz0, hz1, hz2⟩ := info_parts info24
 obtain ⟨v, mb, D, h1, h2, h3, h4, h5, h6⟩ := hR
 have r0 := cell_block (o := 0) h1 rfl
 have h4' : w.ownsRow base 3 1 v (T.map (·.n)).length (lv (T.map (·.n))) := by rw [List.length_map]; exact h4
 obtain ⟨av, cv, rfl, _, hI⟩ := own_list h4'
 clear h4'
 simp only [List.length_map] at hI
 rw [List.length_map] at r0 h1
 clear h4
 go_enter Tryz.func199, Tryz.ntmps199
 go_wp2_with fail
 go_loopw [3, 5, 11] (fun x _ i wr => ∃ k : Nat, k ≤ T.length ∧ i = .int .i64 k ∧ wr.ownsRow w.heap.size 96 4 x k (fl (T.take k)) ∧ Below w.heap.size w wr) (fun _ _ i _ => T.length - (intOf i).toNat)
 case atStart => exact ⟨0, Nat.zero_le _, rfl, World.ownsRow_nil _ _ _ _, Below.refl _ _⟩
 case round =>
  obtain ⟨k, hk, rfl, hown, hb⟩ := hrel
  clear r0
  by_cases hlt : k < T.length
  ·obtain ⟨b, off, rfl, hbl, hf⟩ := hI (by omega)
   have c1 : ((T.map (·.n)).getD k 0) = (T.getD k Fc.zero).n := by simp [List.getD, hlt]
   have c0 : wr.cell? ⟨b, off + k, none⟩ = some (.int .i64 (T.getD k Fc.zero).n) := by rw [← c1]; exact (hf.below hb hbl) k hlt
   clear c1
   have ts := take_snoc T k hlt
   have i0 : (0 : Int) ≤ (k : Int) := by omega
   have i1 : (k : Int) < (T.length : Int) := by omega
   have r1 := cell_block (o := 1) ((hb.block rb (lt_of_block h1)).trans h1) rfl
   have hk0 := tget_at k hT hlt
   have hfk : fok (T.getD k Fc.zero) = true := hok _ (tget_mem hk0).1
   have hmm := map_below h5 hb
   generalize T.getD k Fc.zero = f at *
   go_wp2_with (first | (at_lookup; refine wpList_lookup_fact0 rfl _ _ rfl mb c D T rfl hmm h6 f.n rfl (fok_wf hfk) f (by rw [hk0]; rfl) ?_) | (at_builtin; refine wpList_append_own _ rfl _ _ 34 rfl w.heap.size 96 ti (fval Fc.zero) 4 32 Tryz.underlying34 hi hz0 hz1 hz2 rfl (by decide) _ _ _ rfl (hown.alloc _) ⟨wr.heap.size, 0, none⟩ 1 1 [.int .i64 f.n, .int .i64 f.i, .int .i64 f.s, .bool f.g] rfl rfl ?c1 ?c2 ?c3 ?c4 ?c5 ?_))
   case c1 =>
    intro j u hj
    match j, hj with
    | 0, hj => simp at hj; subst hj; simp [Addr.add]
    | 1, hj => simp at hj; subst hj; simp [Addr.add]
    | 2, hj => simp at hj; subst hj; simp [Addr.add]
    | 3, hj => simp at hj; subst hj; simp [Addr.add]
   case c2 => intro u hu; simp at hu; rcases hu with rfl | rfl | rfl | rfl <;> rfl
   case c3 => unfold maxLen; omega
   case c4 => omega
   case c5 => have := hb.size; simp; omega
   ·intro v' w2 hown' hgrow _
    have B2 := own_grow (balloc (.cells #[.int .i64 f.n, .int .i64 f.i, .int .i64 f.s, .bool f.g] 96) hb) (by have := hb.size; simp; omega) (hown.alloc _) hgrow
    clear hown hgrow hb c0 r1 hmm
    go_wp2
    go_roundw
    case rel => exact ⟨k + 1, by omega, by go_num, by rw [ts, fl_snoc]; exact hown', B2⟩
    case measure => simp [intOf]; omega
  ·go_wp2
   go_ret
   have e : k = T.length := by omega
   subst e
   rw [List.take_length] at hown
   exact ⟨_, rfl, hown, hb⟩
end Go.Proofs.YtgcdcfjaeehnbaaGreat
namespace Go.Proofs.YtgcdcfjaeehnbaaGreat
open Go.ChangeShapes Go.WideShapes Go.ChangeAt Go.RowKit
set_option maxRecDepth 20000
attribute [local go_sem ↓] Go.wp_at_zero Go.wp_at_succ
theorem blk_below {w w' : World} {b : Nat} {o : Obj} (hb : Below w.heap.size w w') (h : w.heap[b]? = some o) : w'.heap[b]? = some o := (hb.block b (lt_of_block h)).trans h
def Found (len : Nat) (F : Nat → Fc) (x r : Int) : Prop := (r = -1 ∧ ∀ k, k < len → (F k).n ≠ x) ∨ ∃ k : Nat, k < len ∧ r = k ∧ (F k).n = x ∧ ∀ j, j < k → (F j).n ≠ x
theorem findO_any (a : Option Addr) (len cap : Nat) (F : Nat → Fc) (x : Int) (w : World) (h : FSl w a len F) (hl : len ≤ 1048576) :
  Calls Tryz.prog 71 #[.slice a len cap, .int .i64 x] w fun e w' => ∃ r, e = .returned (.int .i64 r) ∧ Found len F x r ∧ w' = w := by
 go_enter Tryz.func71, Tryz.ntmps71
 go_wp2
 go_loopw [5] (fun i wr => ∃ k : Nat, k ≤ len ∧ i = .int .i64 k ∧ wr = w ∧ ∀ j, j < k → (F j).n ≠ x) (fun i _ => len - (intOf i).toNat)
 case atStart => exact ⟨0, Nat.zero_le _, rfl, rfl, fun j hj => by omega⟩
 case round =>
  obtain ⟨k, hk, rfl, rfl, hall⟩ := hrel
  by_cases hlt : k < len
  ·obtain ⟨b, off, rfl, hbl, hf⟩ := h (by omega)
   obtain ⟨c0, _, _, _⟩ := hf k hlt
   have i0 : (0 : Int) ≤ (k : Int) := by omega
   have i1 : (k : Int) < (len : Int) := by omega
   by_cases e : (F k).n = x
   ·go_wp2
    go_ret
    exact ⟨_, rfl, .inr ⟨k, hlt, rfl, e, hall⟩, rfl⟩
   ·go_wp2
    go_roundw
    case rel => exact ⟨k + 1, by omega, by go_num, by first | rfl | trivial, fun j hj => by
     by_cases e' : j = k
     ·subst e'; exact e
     ·exact hall j (by omega)⟩
    case measure => simp [intOf]; omega
  ·go_wp2
   go_ret
   exact ⟨_, rfl, .inl ⟨rfl, fun j hj => hall j (by omega)⟩, rfl⟩
theorem found_none {len : Nat} {F : Nat → Fc} {x : Int} (h : ∀ k, k < len → (F k).n ≠ x) : tget (seqF F len) x = none := by
 unfold tget
 rw [List.find?_eq_none]
 intro g hg
 obtain ⟨k, hk, rfl⟩ := seqF_mem hg
 simpa using h k hk
theorem found_some {len k : Nat} {F : Nat → Fc} {x : Int} (hk : k < len) (e : (F k).n = x) (h : ∀ j, j < k → (F j).n ≠ x) : tget (seqF F len) x = some (F k) := by
 induction len with
 | zero => omega
 | succ n ih =>
  rw [seqF_succ]
  unfold tget
  rw [List.find?_append]
  rcases Nat.lt_or_ge k n with h1 | h1
  ·have := ih h1
   unfold tget at this
   rw [this]
   rfl
  ·obtain rfl : k = n := by omega
   have := found_none h
   unfold tget at this
   rw [this]
   simp [e]
end Go.Proofs.YtgcdcfjaeehnbaaGreat
