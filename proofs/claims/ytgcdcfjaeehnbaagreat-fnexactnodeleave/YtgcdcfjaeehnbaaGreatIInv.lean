/- Registers of lists, and what they tell: the program's tables. -/
import Derived.Test.YtgcdcfjaeehnbaaGreatIPut
import Derived.Laws.AppendOwn
namespace Go.Proofs.YtgcdcfjaeehnbaaGreat.I
open Go.ChangeShapes Go.WideShapes Go.ChangeAt Go.RowKit
set_option maxRecDepth 20000
set_option maxHeartbeats 2000000
attribute [local go_sem ↓] Go.wp_at_zero Go.wp_at_succ
def seqF (F : Nat → It) (n : Nat) : List It := (List.range n).map F
theorem seqF_succ (F : Nat → It) (n : Nat) : seqF F (n + 1) = seqF F n ++ [F n] := by simp [seqF, List.range_succ]
theorem seqF_len (F : Nat → It) (n : Nat) : (seqF F n).length = n := by simp [seqF]
theorem seqF_mem {F : Nat → It} {n : Nat} {f : It} (h : f ∈ seqF F n) : ∃ k, k < n ∧ F k = f := by
 obtain ⟨k, hk, rfl⟩ := List.mem_map.1 h
 exact ⟨k, by simpa using hk, rfl⟩
theorem asc_mono {F : Nat → It} {len : Nat} (h : ∀ k, k < len → 0 < k → (F (k - 1)).n < (F k).n) : ∀ j k, j < k → k < len → (F j).n < (F k).n
 | j, 0, h1, _ => by omega
 | j, k + 1, h1, h2 => by
  have e := h (k + 1) h2 (by omega)
  simp at e
  rcases Nat.lt_or_ge j k with h3 | h3
  ·have := asc_mono h j k h3 (by omega); omega
  ·obtain rfl : j = k := by omega
   exact e
theorem tok_all {len : Nat} {F : Nat → It} (h : cokB len F = true) : (∀ k, k < len → fok (F k) = true) ∧ ∀ j k, j < k → k < len → (F j).n < (F k).n := by
 unfold cokB callB tascB risB at h
 rw [Bool.and_eq_true] at h
 exact ⟨fun k hk => by have := (of_decide_eq_true h.1) k hk; unfold iokB at this; rw [Bool.and_eq_true] at this; exact this.1, asc_mono (of_decide_eq_true h.2)⟩
theorem seqF_asc {F : Nat → It} {len : Nat} (h : ∀ j k, j < k → k < len → (F j).n < (F k).n) : ∀ n, n ≤ len → Asc (seqF F n)
 | 0, _ => List.Pairwise.nil
 | n + 1, hn => by
  rw [seqF_succ]
  unfold Asc
  rw [List.pairwise_append]
  refine ⟨seqF_asc h n (by omega), List.pairwise_singleton _ _, fun a ha b hb => ?_⟩
  obtain ⟨k, hk, rfl⟩ := seqF_mem ha
  simp at hb
  subst hb
  exact h k n hk (by omega)
theorem tput_last : ∀ {T : List It} {f : It}, (∀ g ∈ T, g.n < f.n) → tput T f = T ++ [f]
 | [], _, _ => rfl
 | g :: r, f, h => by
  unfold tput
  rw [if_pos (h g (by simp)), tput_last (fun x hx => h x (by simp [hx]))]
  rfl
theorem seqF_put {F : Nat → It} {len n : Nat} (h : ∀ j k, j < k → k < len → (F j).n < (F k).n) (hn : n < len) : tput (seqF F n) (F n) = seqF F (n + 1) := by
 rw [seqF_succ, tput_last]
 intro g hg
 obtain ⟨k, hk, rfl⟩ := seqF_mem hg
 exact h k n hk hn
theorem tok_len {len : Nat} {F : Nat → It} (h : cokB len F = true) : len ≤ 8 := by
 obtain ⟨h1, h2⟩ := tok_all h
 rcases asc_short (seqF F len) 0 (seqF_asc h2 len (Nat.le_refl _)) (fun g hg => by obtain ⟨k, hk, rfl⟩ := seqF_mem hg; have := h1 k hk; unfold fok fokB inb at this; simp at this; omega) with h | h
 ·rw [seqF_len] at h; omega
 ·have := congrArg List.length h; rw [seqF_len] at this; simp at this; omega
def fl (T : List It) : List Value := T.flatMap fun f => [.int .i64 f.n, .int .i64 f.i, .int .i64 f.s, .bool f.g, .int .i64 f.l]
theorem fl_len (T : List It) : (fl T).length = T.length * 5 := by
 induction T with
 | nil => rfl
 | cons f r ih => simp [fl] at *; omega
theorem fl_snoc (T : List It) (f : It) : fl (T ++ [f]) = fl T ++ [.int .i64 f.n, .int .i64 f.i, .int .i64 f.s, .bool f.g, .int .i64 f.l] := by simp [fl]
theorem fl_append (T T' : List It) : fl (T ++ T') = fl T ++ fl T' := by simp [fl]
theorem fl_get (T : List It) : ∀ k, k < T.length → (fl T)[k * 5]? = some (.int .i64 (T.getD k It.zero).n) ∧ (fl T)[k * 5 + 1]? = some (.int .i64 (T.getD k It.zero).i) ∧ (fl T)[k * 5 + 2]? = some (.int .i64 (T.getD k It.zero).s) ∧ (fl T)[k * 5 + 3]? = some (.bool (T.getD k It.zero).g) ∧ (fl T)[k * 5 + 4]? = some (.int .i64 (T.getD k It.zero).l) := by
 induction T with
 | nil => intro k hk; simp at hk
 | cons f r ih =>
  intro k hk
  have e : fl (f :: r) = [.int .i64 f.n, .int .i64 f.i, .int .i64 f.s, .bool f.g, .int .i64 f.l] ++ fl r := by simp [fl]
  rw [e]
  match k, hk with
  | 0, _ => simp
  | k + 1, hk =>
   have := ih k (by simpa using hk)
   rw [show (k + 1) * 5 = k * 5 + 5 by omega]
   simpa [List.getElem?_append] using this
theorem own_facts {w : World} {base : Nat} {v : Value} {n : Nat} {T : List It} (h : w.ownsRow base 127 5 v n (fl T)) : ∃ a cap, v = .slice a n cap ∧ n ≤ cap ∧ T.length = n ∧ TSl w a n (fun k => T.getD k It.zero) := by
 have h0 := h
 have hl : T.length = n := by have := h.1; rw [fl_len] at this; omega
 rcases h.2 with ⟨rfl, rfl⟩ | ⟨g, cap, cur, rfl, hg, hh, hc, _⟩
 ·exact ⟨none, 0, rfl, Nat.le_refl _, hl, fun h => by omega⟩
 ·refine ⟨_, cap, rfl, hc, hl, fun _ => ⟨g, 0, rfl, lt_of_block hh, fun k hk => ?_⟩⟩
  obtain ⟨e0, e1, e2, e3, e4⟩ := fl_get T k (by omega)
  simp only [Nat.zero_add]
  exact ⟨(h0.cellAt _ (by omega)).trans e0, (h0.cellAt _ (by omega)).trans e1, (h0.cellAt _ (by omega)).trans e2, (h0.cellAt _ (by omega)).trans e3, (h0.cellAt _ (by omega)).trans e4⟩
theorem regOf_any (a : Option Addr) (len cap : Nat) (F : Nat → It) (w : World) (h : TSl w a len F) (hok : cokB len F = true) :
  Calls Tryz.prog 238 #[.slice a len cap] w fun e w' => ∃ rb, e = .returned (.pointer (some ⟨rb, 0, none⟩)) ∧ Reg w' w.heap.size rb len (seqF F len) ∧ Below w.heap.size w w' := by
 have hl := tok_len hok
 obtain ⟨t1, t2⟩ := tok_all hok
 have hok' : Hid (cokB len F = true) := hok
 clear hok hok'
 have hmm := @run_makeMap Tryz.prog
 go_enter Tryz.func238, Tryz.ntmps238
 go_wp2_with fail
 have B0 : Below w.heap.size w ((w.alloc (.map #[] 0)).alloc (.cells #[.slice none 0 0, .map (some w.heap.size)] 252)) := balloc _ (balloc _ (Below.refl _ _))
 have R0 : Reg ((w.alloc (.map #[] 0)).alloc (.cells #[.slice none 0 0, .map (some w.heap.size)] 252)) w.heap.size (w.heap.size + 1) 0 (seqF F 0) :=
  ⟨_, w.heap.size, _, by have := heap_alloc_new (w.alloc (.map #[] 0)) (.cells #[.slice none 0 0, .map (some w.heap.size)] 252); simpa using this, by omega, Nat.le_refl _, World.ownsRow_nil _ _ _ _, (World.ownsMap_made w _ _ _).alloc _, kept_nil⟩
 generalize ((w.alloc (.map #[] 0)).alloc (.cells #[.slice none 0 0, .map (some w.heap.size)] 252)) = W0 at *
 go_loopw [11] (fun i wr => ∃ k : Nat, k ≤ len ∧ i = .int .i64 k ∧ Reg wr w.heap.size (w.heap.size + 1) k (seqF F k) ∧ Below w.heap.size w wr) (fun i _ => len - (intOf i).toNat)
 case atStart => exact ⟨0, Nat.zero_le _, rfl, R0, B0⟩
 case round =>
  obtain ⟨k, hk, rfl, hR, hb⟩ := hrel
  clear hmm R0 B0
  by_cases hlt : k < len
  ·obtain ⟨b, off, rfl, hbl, hf⟩ := h (by omega)
   obtain ⟨c0, c1, c2, c3, c4⟩ := (hf.below hb hbl) k hlt
   go_wp2_with fail
   refine (put_any w.heap.size (w.heap.size + 1) k (seqF F k) (F k) _ (hR.below (balloc _ (Below.refl _ _))) (seqF_asc t2 k (by omega)) (fun g hg => by obtain ⟨j, hj, rfl⟩ := seqF_mem hg; exact t1 j (by omega)) (t1 k hlt) (by have := hb.size; simp; omega) (by omega)).mono ?_
   rintro e w1 ⟨rfl, R1, b1⟩
   rw [seqF_put t2 hlt] at R1
   have B1 := (balloc _ hb).trans b1
   clear hR c0 c1 c2 c3 c4 b1
   go_wp2
   go_roundw
   case rel => exact ⟨k + 1, by omega, by go_num, R1, B1⟩
   case measure => simp [intOf]; omega
  ·go_wp2
   go_ret
   have e : k = len := by omega
   subst e
   exact ⟨_, rfl, hR, hb⟩
end Go.Proofs.YtgcdcfjaeehnbaaGreat.I
namespace Go.Proofs.YtgcdcfjaeehnbaaGreat.I
open Go.ChangeShapes Go.WideShapes Go.ChangeAt Go.RowKit
set_option maxRecDepth 20000
set_option maxHeartbeats 2000000
attribute [local go_sem ↓] Go.wp_at_zero Go.wp_at_succ
theorem tget_at : ∀ {T : List It} (k : Nat), Asc T → k < T.length → tget T (T.getD k It.zero).n = some (T.getD k It.zero)
 | [], k, _, h => by simp at h
 | g :: r, 0, _, _ => by rw [tget_cons]; simp
 | g :: r, k + 1, h, hk => by
  obtain ⟨h1, h2⟩ := asc_cons.1 h
  have hk' : k < r.length := by simpa using hk
  have e : (g :: r).getD (k + 1) It.zero = r.getD k It.zero := by simp
  rw [e, tget_cons, if_neg, tget_at k h2 hk']
  have := h1 (r.getD k It.zero) (by simp [List.getD, hk'])
  omega
theorem take_snoc (T : List It) (k : Nat) (h : k < T.length) : T.take (k + 1) = T.take k ++ [T.getD k It.zero] := by
 rw [List.take_add_one]
 simp [List.getD, h]
theorem wpList_lookup_fact0 {w : World} {ops : Array Oper} {rest : List Oper} {o : Oper} {a : Act} {Q : Exit → Act → World → Prop} (hg : o.guard = none) (m x : Operand) (hop : o.op = Op.lookup 250 m x false)
  (b n : Nat) (D : DataW Unit) (T : List It) (hm : a.eval m = .map (some b)) (hown : w.ownsMap Tryz.prog 3 fE b n D) (hT : Kept D T) (k : Int) (hx : a.eval x = .int .i64 k) (hk : (Lit.int .i64 k).wf = true)
  (g : It) (hgk : (tget T k).getD It.zero = g) (hK : wpList Tryz.prog ops Q rest (a.put o.dst (fval g)) w) :
  wpList Tryz.prog ops Q (o :: rest) a w := by
 refine wpList_plain hg fun K' hK' => ?_
 obtain ⟨v, ps, hrun, hv⟩ := hown.lookup keyed3 Tryz.underlying250 (zeroI w) (fE_mk It.zero) (Maps.keyOf_int_mk Tryz.underlying3 hk)
 obtain ⟨f, rfl, hz⟩ := fE_inv hv
 simp only [Prod.mk.injEq] at hz
 rw [(hT k).2, hgk] at hz
 rw [← fd_inj hz.1] at hrun
 unfold Oper.wp
 simp [execOp, hop, hm, hx, hrun, Result.andThen]
 exact hK' _ _ hK
theorem list_any (base rb c : Nat) (T : List It) (w : World) (hR : Reg w base rb c T) (hT : Asc T) (hok : ∀ g ∈ T, fok g = true) (hl : T.length ≤ 100) :
  Calls Tryz.prog 240 #[.pointer (some ⟨rb, 0, none⟩)] w fun e w' => ∃ v, e = .returned v ∧ w'.ownsRow w.heap.size 127 5 v T.length (fl T) ∧ Below w.heap.size w w' := by
 obtain ⟨ti, hi, hz0, hz1, hz2⟩ := info_parts info78
 obtain ⟨v, mb, D, h1, h2, h3, h4, h5, h6⟩ := hR
 have r0 := cell_block (o := 0) h1 rfl
 have h4' : w.ownsRow base 3 1 v (T.map (·.n)).length (lv (T.map (·.n))) := by rw [List.length_map]; exact h4
 obtain ⟨av, cv, rfl, _, hI⟩ := own_list h4'
 clear h4'
 simp only [List.length_map] at hI
 rw [List.length_map] at r0 h1
 clear h4
 go_enter Tryz.func240, Tryz.ntmps240
 go_wp2_with fail
 go_loopw [3, 5, 11] (fun x _ i wr => ∃ k : Nat, k ≤ T.length ∧ i = .int .i64 k ∧ wr.ownsRow w.heap.size 127 5 x k (fl (T.take k)) ∧ Below w.heap.size w wr) (fun _ _ i _ => T.length - (intOf i).toNat)
 case atStart => exact ⟨0, Nat.zero_le _, rfl, World.ownsRow_nil _ _ _ _, Below.refl _ _⟩
 case round =>
  obtain ⟨k, hk, rfl, hown, hb⟩ := hrel
  clear r0
  by_cases hlt : k < T.length
  ·obtain ⟨b, off, rfl, hbl, hf⟩ := hI (by omega)
   have c1 : ((T.map (·.n)).getD k 0) = (T.getD k It.zero).n := by simp [List.getD, hlt]
   have c0 : wr.cell? ⟨b, off + k, none⟩ = some (.int .i64 (T.getD k It.zero).n) := by rw [← c1]; exact (hf.below hb hbl) k hlt
   clear c1
   have ts := take_snoc T k hlt
   have i0 : (0 : Int) ≤ (k : Int) := by omega
   have i1 : (k : Int) < (T.length : Int) := by omega
   have r1 := cell_block (o := 1) ((hb.block rb (lt_of_block h1)).trans h1) rfl
   have hk0 := tget_at k hT hlt
   have hfk : fok (T.getD k It.zero) = true := hok _ (tget_mem hk0).1
   have hmm := map_below h5 hb
   generalize T.getD k It.zero = f at *
   go_wp2_with (first | (at_lookup; refine wpList_lookup_fact0 rfl _ _ rfl mb c D T rfl hmm h6 f.n rfl (fok_wf hfk) f (by rw [hk0]; rfl) ?_) | (at_builtin; refine wpList_append_own _ rfl _ _ 35 rfl w.heap.size 127 ti (fval It.zero) 5 40 Tryz.underlying35 hi hz0 hz1 hz2 rfl (by decide) _ _ _ rfl (hown.alloc _) ⟨wr.heap.size, 0, none⟩ 1 1 [.int .i64 f.n, .int .i64 f.i, .int .i64 f.s, .bool f.g, .int .i64 f.l] rfl rfl ?c1 ?c2 ?c3 ?c4 ?c5 ?_))
   case c1 =>
    intro j u hj
    match j, hj with
    | 0, hj => simp at hj; subst hj; simp [Addr.add]
    | 1, hj => simp at hj; subst hj; simp [Addr.add]
    | 2, hj => simp at hj; subst hj; simp [Addr.add]
    | 3, hj => simp at hj; subst hj; simp [Addr.add]
    | 4, hj => simp at hj; subst hj; simp [Addr.add]
   case c2 => intro u hu; simp at hu; rcases hu with rfl | rfl | rfl | rfl | rfl <;> rfl
   case c3 => unfold maxLen; omega
   case c4 => omega
   case c5 => have := hb.size; simp; omega
   ·intro v' w2 hown' hgrow _
    have B2 := own_grow (balloc (.cells #[.int .i64 f.n, .int .i64 f.i, .int .i64 f.s, .bool f.g, .int .i64 f.l] 127) hb) (by have := hb.size; simp; omega) (hown.alloc _) hgrow
    clear hown hgrow hb c0 r1 hmm
    go_wp2
    go_roundw
    case rel => exact ⟨k + 1, by omega, by go_num, by rw [ts, fl_snoc]; exact hown', B2⟩
    case measure => simp [intOf]; omega
  ·go_wp2
   go_ret
   have e : k = T.length := by omega
   subst e
   rw [List.take_length] at hown
   exact ⟨_, rfl, hown, hb⟩
end Go.Proofs.YtgcdcfjaeehnbaaGreat.I
namespace Go.Proofs.YtgcdcfjaeehnbaaGreat.I
open Go.ChangeShapes Go.WideShapes Go.ChangeAt Go.RowKit
set_option maxRecDepth 20000
set_option maxHeartbeats 2000000
attribute [local go_sem ↓] Go.wp_at_zero Go.wp_at_succ
def tjoin (T U : List It) : List It := U.foldl tput T
theorem tjoin_succ (T : List It) (G : Nat → It) (k : Nat) : tjoin T (seqF G (k + 1)) = tput (tjoin T (seqF G k)) (G k) := by
 unfold tjoin
 rw [seqF_succ, List.foldl_append]
 rfl
theorem tjoin_asc {T : List It} (h : Asc T) (G : Nat → It) : ∀ k, Asc (tjoin T (seqF G k))
 | 0 => h
 | k + 1 => by rw [tjoin_succ]; exact tput_asc (tjoin_asc h G k)
theorem tjoin_ok {T : List It} {G : Nat → It} {len : Nat} (h : ∀ g ∈ T, fok g = true) (hG : ∀ k, k < len → fok (G k) = true) : ∀ k, k ≤ len → ∀ g ∈ tjoin T (seqF G k), fok g = true
 | 0, _ => h
 | k + 1, hk => by
  rw [tjoin_succ]
  intro g hg
  rcases tput_mem hg with rfl | hg
  ·exact hG k (by omega)
  ·exact tjoin_ok h hG k (by omega) g hg
theorem ok_short {T : List It} (h : Asc T) (hok : ∀ g ∈ T, fok g = true) : T.length ≤ 8 := by
 rcases asc_short T 0 h (fun g hg => by have := hok g hg; unfold fok fokB inb at this; simp at this; omega) with h | h
 ·omega
 ·simp [h]
theorem seqF_ok {F : Nat → It} {len : Nat} (h : ∀ k, k < len → fok (F k) = true) : ∀ g ∈ seqF F len, fok g = true := fun g hg => by
 obtain ⟨k, hk, rfl⟩ := seqF_mem hg
 exact h k hk
theorem joined_any (a : Option Addr) (len cap : Nat) (F : Nat → It) (a2 : Option Addr) (len2 cap2 : Nat) (G : Nat → It) (w : World) (h : TSl w a len F) (h2 : TSl w a2 len2 G) (hok : cokB len F = true) (hok2 : cokB len2 G = true) :
  Calls Tryz.prog 200 #[.slice a len cap, .slice a2 len2 cap2] w fun e w' => ∃ v, e = .returned v ∧ w'.ownsRow w.heap.size 127 5 v (tjoin (seqF F len) (seqF G len2)).length (fl (tjoin (seqF F len) (seqF G len2))) ∧ Below w.heap.size w w' := by
 have hl := tok_len hok
 have hl2 := tok_len hok2
 obtain ⟨t1, t2⟩ := tok_all hok
 obtain ⟨u1, u2⟩ := tok_all hok2
 have hokH : Hid (cokB len F = true) := hok
 clear hok hok2
 have hA := tjoin_asc (seqF_asc t2 len (Nat.le_refl _)) G
 have hO := tjoin_ok (seqF_ok t1) u1
 go_enter Tryz.func200, Tryz.ntmps200
 go_wp2_with fail
 refine (regOf_any a len cap F _ h hokH.out).mono ?_
 rintro r w1 ⟨rb, rfl, R1, b1⟩
 go_wp2_with fail
 go_loopw [12] (fun i wr => ∃ k : Nat, k ≤ len2 ∧ i = .int .i64 k ∧ Reg wr w.heap.size rb (len + k) (tjoin (seqF F len) (seqF G k)) ∧ Below w.heap.size w wr) (fun i _ => len2 - (intOf i).toNat)
 case atStart => exact ⟨0, Nat.zero_le _, rfl, R1, b1⟩
 case round =>
  obtain ⟨k, hk, rfl, hR, hb⟩ := hrel
  clear R1 b1
  by_cases hlt : k < len2
  ·obtain ⟨b, off, rfl, hbl, hf⟩ := h2 (by omega)
   obtain ⟨c0, c1, c2, c3, c4⟩ := (hf.below hb hbl) k hlt
   go_wp2_with fail
   refine (put_any w.heap.size rb (len + k) (tjoin (seqF F len) (seqF G k)) (G k) _ (hR.below (balloc _ (Below.refl _ _))) (hA k) (hO k (by omega)) (u1 k hlt) (by have := hb.size; simp; omega) (by omega)).mono ?_
   rintro e w2 ⟨rfl, R2, b2⟩
   rw [← tjoin_succ] at R2
   have B2 := (balloc _ hb).trans b2
   clear hR c0 c1 c2 c3 c4 b2
   go_wp2
   go_roundw
   case rel => exact ⟨k + 1, by omega, by go_num, R2, B2⟩
   case measure => simp [intOf]; omega
  ·have e : k = len2 := by omega
   subst e
   have hs := ok_short (hA k) (hO k (Nat.le_refl _))
   go_wp2_with fail
   refine (list_any w.heap.size rb (len + k) _ _ hR (hA k) (hO k (Nat.le_refl _)) (by omega)).mono ?_
   rintro r w2 ⟨v, rfl, o2, b2⟩
   go_wp2
   go_ret
   exact ⟨v, rfl, own_mono hb.size o2, btrans hb b2⟩
end Go.Proofs.YtgcdcfjaeehnbaaGreat.I
namespace Go.Proofs.YtgcdcfjaeehnbaaGreat.I
open Go.ChangeShapes Go.WideShapes Go.ChangeAt Go.RowKit
set_option maxRecDepth 20000
set_option maxHeartbeats 4000000
attribute [local go_sem ↓] Go.wp_at_zero Go.wp_at_succ
def tIt (f : Fc) : It := ⟨f.n, f.i, f.s, f.g, 4⟩
def cpT (len : Nat) (F : Nat → It) (f : Fc) : List It := if (cokB len F && fokB f.n f.i f.s) = true then tput (seqF F len) (tIt f) else []
theorem cok_lit (a : Option Addr) (len cap : Nat) (F : Nat → It) (q : Bool) (w : World) (h : TSl w a len F) (hl : len ≤ 1048576) (hq : cokB len F = q) :
  Calls Tryz.prog 157 #[.slice a len cap] w fun e w' => e = .returned (.bool q) ∧ Below w.heap.size w w' := hq ▸ cok_any a len cap F w h hl
theorem cok_one (f : Fc) (h : fokB f.n f.i f.s = true) : cokB 1 (fun _ => tIt f) = true := by
 unfold cokB callB tascB risB iokB
 rw [Bool.and_eq_true]
 refine ⟨decide_eq_true fun k _ => ?_, decide_eq_true fun k h1 h2 => by omega⟩
 show (fokB f.n f.i f.s && inb 4 1 4) = true
 rw [h]
 rfl
theorem cput_any (a : Option Addr) (len cap : Nat) (F : Nat → It) (f : Fc) (w : World) (h : TSl w a len F) (hl : len ≤ 1048576) :
  Calls Tryz.prog 129 #[.slice a len cap, .agg #[.int .i64 f.n, .int .i64 f.i, .int .i64 f.s, .bool f.g]] w fun e w' => ∃ v, e = .returned v ∧ w'.ownsRow w.heap.size 127 5 v (cpT len F f).length (fl (cpT len F f)) ∧ Below w.heap.size w w' := by
 have p0 : (w.alloc (.cells #[.int .i64 f.n, .int .i64 f.i, .int .i64 f.s, .bool f.g] 96)).heap[w.heap.size]? = some (.cells #[.int .i64 f.n, .int .i64 f.i, .int .i64 f.s, .bool f.g] 96 (0, 0)) := heap_alloc_new _ _
 have B0 : Below w.heap.size w (w.alloc (.cells #[.int .i64 f.n, .int .i64 f.i, .int .i64 f.s, .bool f.g] 96)) := balloc _ (Below.refl _ _)
 cases hok0 : cokB len F
 ·have hok : Hid (cokB len F = false) := hok0
  have e1 : cpT len F f = [] := by unfold cpT; rw [hok0]; rfl
  rw [e1]
  clear hok0 e1
  go_enter Tryz.func129, Tryz.ntmps129
  go_wp2_with fail
  generalize (w.alloc (.cells #[.int .i64 f.n, .int .i64 f.i, .int .i64 f.s, .bool f.g] 96)) = W0 at *
  refine (cok_lit a len cap F false _ (h.below B0) hl hok.out).mono ?_
  rintro r w1 ⟨rfl, b1⟩
  have B1 := btrans B0 b1
  clear p0 b1 B0
  go_wp2
  go_ret
  exact ⟨_, rfl, World.ownsRow_nil _ _ _ _, B1⟩
 ·have hok : Hid (cokB len F = true) := hok0
  cases hfk0 : fokB f.n f.i f.s
  ·have hfk : Hid (fokB f.n f.i f.s = false) := hfk0
   have e1 : cpT len F f = [] := by unfold cpT; rw [hok0, hfk0]; rfl
   rw [e1]
   clear hok0 hfk0 e1
   go_enter Tryz.func129, Tryz.ntmps129
   go_wp2_with fail
   generalize (w.alloc (.cells #[.int .i64 f.n, .int .i64 f.i, .int .i64 f.s, .bool f.g] 96)) = W0 at *
   refine (cok_lit a len cap F true _ (h.below B0) hl hok.out).mono ?_
   rintro r w1 ⟨rfl, b1⟩
   have B1 := btrans B0 b1
   have p1 := blk_below b1 p0
   have c0 : w1.cell? ⟨w.heap.size, 0, none⟩ = some (.int .i64 f.n) := cell_block (o := 0) p1 rfl
   have c1 : w1.cell? ⟨w.heap.size, 1, none⟩ = some (.int .i64 f.i) := cell_block (o := 1) p1 rfl
   have c2 : w1.cell? ⟨w.heap.size, 2, none⟩ = some (.int .i64 f.s) := cell_block (o := 2) p1 rfl
   have c3 : w1.cell? ⟨w.heap.size, 3, none⟩ = some (.bool f.g) := cell_block (o := 3) p1 rfl
   clear p0 b1 B0
   go_wp2_with fail
   refine (fok_lit _ _ _ _ false hfk.out _).mono ?_
   rintro r w2 ⟨rfl, b2⟩
   have B2 := btrans B1 b2
   clear p1 c0 c1 c2 c3 B1 b2
   go_wp2
   go_ret
   exact ⟨_, rfl, World.ownsRow_nil _ _ _ _, B2⟩
  ·have hfk : Hid (fokB f.n f.i f.s = true) := hfk0
   have e1 : cpT len F f = tput (seqF F len) (tIt f) := by unfold cpT; rw [hok0, hfk0]; rfl
   rw [e1]
   have hl8 := tok_len hok0
   clear hok0 hfk0 e1
   go_enter Tryz.func129, Tryz.ntmps129
   go_wp2_with fail
   generalize (w.alloc (.cells #[.int .i64 f.n, .int .i64 f.i, .int .i64 f.s, .bool f.g] 96)) = W0 at *
   refine (cok_lit a len cap F true _ (h.below B0) hl hok.out).mono ?_
   rintro r w1 ⟨rfl, b1⟩
   have B1 := btrans B0 b1
   have p1 := blk_below b1 p0
   have c0 : w1.cell? ⟨w.heap.size, 0, none⟩ = some (.int .i64 f.n) := cell_block (o := 0) p1 rfl
   have c1 : w1.cell? ⟨w.heap.size, 1, none⟩ = some (.int .i64 f.i) := cell_block (o := 1) p1 rfl
   have c2 : w1.cell? ⟨w.heap.size, 2, none⟩ = some (.int .i64 f.s) := cell_block (o := 2) p1 rfl
   have c3 : w1.cell? ⟨w.heap.size, 3, none⟩ = some (.bool f.g) := cell_block (o := 3) p1 rfl
   clear p0 b1 B0
   go_wp2_with fail
   refine (fok_lit _ _ _ _ true hfk.out _).mono ?_
   rintro r w2 ⟨rfl, b2⟩
   have B2 := btrans B1 b2
   have d0 := keep_below b2 c0
   have d1 := keep_below b2 c1
   have d2 := keep_below b2 c2
   have d3 := keep_below b2 c3
   clear c0 c1 c2 c3 B1 b2 p1
   go_wp2_with fail
   refine (joined_any a len cap F _ 1 1 (fun _ => tIt f) _ (h.below (balloc _ B2)) (fun _ => ⟨w2.heap.size, 0, rfl, by simp, fun k hk => ?_⟩) hok.out (cok_one f hfk.out)).mono ?_
   ·obtain rfl : k = 0 := by omega
    simp [go_sem, tIt]
   rintro r w3 ⟨v, rfl, o3, b3⟩
   have B3 := btrans (balloc _ B2) b3
   clear d0 d1 d2 d3 b3
   go_wp2
   go_ret
   exact ⟨v, rfl, own_mono (by have := B2.size; simp; omega) o3, B3⟩
end Go.Proofs.YtgcdcfjaeehnbaaGreat.I
namespace Go.Proofs.YtgcdcfjaeehnbaaGreat.I
open Go.ChangeShapes Go.WideShapes Go.ChangeAt Go.RowKit
set_option maxRecDepth 20000
attribute [local go_sem ↓] Go.wp_at_zero Go.wp_at_succ
theorem facts_cell {w : World} {b off n : Nat} {T : List It} (h : ItemsIn w b off n (fun k => T.getD k It.zero)) (hl : T.length = n) : ∀ j u, (fl T)[j]? = some u → w.cell? ((⟨b, off, none⟩ : Addr).add j) = some u := by
 intro j u hj
 have e : (⟨b, off, none⟩ : Addr).add j = ⟨b, off + j, none⟩ := by unfold Addr.add; split <;> simp_all
 rw [e]
 have hlt : j < n * 5 := by
  have := (List.getElem?_eq_some_iff.1 hj).1
  rw [fl_len] at this
  omega
 obtain ⟨h0, h1, h2, h3, h4⟩ := h (j / 5) (by omega)
 obtain ⟨e0, e1, e2, e3, e4⟩ := fl_get T (j / 5) (by omega)
 have : j % 5 = 0 ∨ j % 5 = 1 ∨ j % 5 = 2 ∨ j % 5 = 3 ∨ j % 5 = 4 := by omega
 rcases this with hr | hr | hr | hr | hr
 ·rw [show j / 5 * 5 = j by omega] at e0 h0
  rw [e0] at hj
  rw [h0, ← hj]
 ·rw [show off + j / 5 * 5 + 1 = off + j by omega] at h1
  rw [show j / 5 * 5 + 1 = j by omega] at e1
  rw [e1] at hj
  rw [h1, ← hj]
 ·rw [show off + j / 5 * 5 + 2 = off + j by omega] at h2
  rw [show j / 5 * 5 + 2 = j by omega] at e2
  rw [e2] at hj
  rw [h2, ← hj]
 ·rw [show off + j / 5 * 5 + 3 = off + j by omega] at h3
  rw [show j / 5 * 5 + 3 = j by omega] at e3
  rw [e3] at hj
  rw [h3, ← hj]
 ·rw [show off + j / 5 * 5 + 4 = off + j by omega] at h4
  rw [show j / 5 * 5 + 4 = j by omega] at e4
  rw [e4] at hj
  rw [h4, ← hj]
theorem fl_one {T : List It} : ∀ u ∈ fl T, u.oneCell' = true := by
 intro u hu
 obtain ⟨f, _, hf⟩ := List.mem_flatMap.1 hu
 simp at hf
 rcases hf with rfl | rfl | rfl | rfl | rfl <;> rfl
theorem own_sliceF {w : World} {base n : Nat} {v : Value} {xs : List Value} (h : w.ownsRow base 127 5 v n xs) : (v = .slice none 0 0 ∧ n = 0) ∨ ∃ g cap, v = .slice (some ⟨g, 0, none⟩) n cap ∧ base ≤ g ∧ g < w.heap.size ∧ n ≤ cap := by
 rcases h.2 with ⟨rfl, hn⟩ | ⟨g, cap, cur, rfl, hg, hh, hc, _⟩
 ·exact .inl ⟨rfl, hn⟩
 ·exact .inr ⟨g, cap, rfl, hg, lt_of_block hh, hc⟩
theorem wpList_appF {w : World} {ops : Array Oper} {rest : List Oper} {o : Oper} {a : Act} {Q : Exit → Act → World → Prop} (hgd : o.guard = none) (s x : Operand)
  (ho : o.op = .call { callee := .builtin .append, args := #[s, x], argTypes := #[35, 35] })
  (base : Nat) (v : Value) (n : Nat) (T : List It) (hs : a.eval s = v) (hv : v ≠ .slice none 0 0) (hown : w.ownsRow base 127 5 v n (fl T))
  (g o' : Nat) (m c : Nat) (T' : List It) (hx : a.eval x = .slice (some ⟨g, o', none⟩) m c) (hl : T'.length = m)
  (hnews : ItemsIn w g o' m (fun k => T'.getD k It.zero)) (nm : Nat) (hnm : n + m = nm) (hn : nm ≤ 2000000) (hbase : base ≤ w.heap.size)
  (h : ∀ g' cap' w', w'.ownsRow base 127 5 (.slice (some ⟨g', 0, none⟩) nm cap') nm (fl (T ++ T')) → w.grownBy w' v.ownBlock → nm ≤ cap' → wpList Tryz.prog ops Q rest (a.put o.dst (.slice (some ⟨g', 0, none⟩) nm cap')) w') :
  wpList Tryz.prog ops Q (o :: rest) a w := by
 subst hnm
 obtain ⟨ti, hi, hz0, hz1, hz2⟩ := info_parts info78
 refine wpList_append_own w hgd s x 35 ho base 127 ti (fval It.zero) 5 40 Tryz.underlying35 hi hz0 hz1 hz2 rfl (by decide) v n (fl T) hs hown ⟨g, o', none⟩ m c (fl T') hx (by rw [fl_len, hl]) (facts_cell hnews hl) fl_one (by unfold maxLen; omega) (by omega) hbase (fun v' w' h1 h2 h3 => ?_)
 rw [← fl_append] at h1
 rcases own_sliceF h1 with ⟨e, _⟩ | ⟨g', cap', rfl, _, _, hc⟩
 ·exact absurd (h3.1 e).1 hv
 ·exact h g' cap' w' h1 h2 hc
theorem new_one (V : World) (f : It) : ItemsIn (V.alloc (.cells #[.int .i64 f.n, .int .i64 f.i, .int .i64 f.s, .bool f.g, .int .i64 f.l] 127)) V.heap.size 0 1 (fun j => [f].getD j It.zero) := fun j hj => by
 obtain rfl : j = 0 := by omega
 exact ⟨by simp [go_sem], by simp [go_sem], by simp [go_sem], by simp [go_sem]⟩
theorem seqF_getD (F : Nat → It) {len k : Nat} (h : k < len) : (seqF F len).getD k It.zero = F k := by simp [List.getD, seqF, h]
theorem ItemsIn.alloc {w : World} {b off len : Nat} {F : Nat → It} (h : ItemsIn w b off len F) (o : Obj) : ItemsIn (w.alloc o) b off len F := fun k hk => by
 obtain ⟨h0, h1, h2, h3, h4⟩ := h k hk
 exact ⟨keep_alloc o h0, keep_alloc o h1, keep_alloc o h2, keep_alloc o h3, keep_alloc o h4⟩
theorem getD_asc {T : List It} (h : Asc T) : ∀ j k, j < k → k < T.length → (T.getD j It.zero).n < (T.getD k It.zero).n := fun j k hj hk => by
 have := List.pairwise_iff_getElem.1 h j k (by omega) hk hj
 simpa [List.getD, hk, show j < T.length by omega] using this
theorem own_emptyF (w : World) (base : Nat) (h : base ≤ w.heap.size) : (w.alloc (.cells #[] 127)).ownsRow base 127 5 (.slice (some ⟨w.heap.size, 0, none⟩) 0 0) 0 (fl []) := World.ownsRow_lit w #[] 0 h (by unfold maxLen; omega) rfl
theorem tput_ne (T : List It) (f : It) : (tput T f).length ≠ 0 := by
 cases T with
 | nil => simp [tput]
 | cons g r => unfold tput; split; simp; split; split <;> simp; simp
theorem l3_ov (f : Fc) (g : It) (q : Bool) (w : World) (h : ovr (tIt f) g = q) :
  Calls Tryz.prog 141 #[.agg #[.int .i64 f.n, .int .i64 f.i, .int .i64 f.s, .bool f.g], .agg #[.int .i64 g.n, .int .i64 g.i, .int .i64 g.s, .bool g.g]] w fun e w' => e = .returned (.bool q) ∧ Below w.heap.size w w' := by
 subst h
 refine (l3_any f.n f.i f.s f.g g.n g.i g.s g.g w).mono ?_
 rintro e w' ⟨rfl, o1, o2, rfl⟩
 exact ⟨rfl, balloc _ (balloc _ (Below.refl _ _))⟩
def Inv5 (T : List It) (x : It) (O : List It) (d : Bool) (k : Nat) : Prop := (if d = true then O ++ T.drop k else O ++ tput (T.drop k) x) = tput T x ∧ (d = true → ∀ j, k ≤ j → j < T.length → x.n < (T.getD j It.zero).n) ∧ O.length ≤ k + 1 ∧ (O.length = k + 1 → d = true)
theorem drop_cons (T : List It) (k : Nat) (h : k < T.length) : T.drop k = T.getD k It.zero :: T.drop (k + 1) := by
 rw [List.drop_eq_getElem_cons h]
 simp [List.getD, h]
theorem inv5_start (T : List It) (x : It) : Inv5 T x [] false 0 := ⟨by simp, by simp, by simp, by simp⟩
theorem inv5_low {T : List It} {x : It} {O : List It} {k : Nat} (h : Inv5 T x O false k) (hk : k < T.length) (hn : (T.getD k It.zero).n < x.n) : Inv5 T x (O ++ [T.getD k It.zero]) false (k + 1) := by
 obtain ⟨h1, h2, h3, h4⟩ := h
 have h5 : O.length ≠ k + 1 := fun e => by simpa using h4 e
 rw [drop_cons T k hk] at h1
 simp only [tput, hn, if_true] at h1
 refine ⟨by simpa using h1, by simp, by simp; omega, fun e => ?_⟩
 simp at e; omega
theorem inv5_same {T : List It} {x : It} {O : List It} {k : Nat} (hT : Asc T) (h : Inv5 T x O false k) (hk : k < T.length) (hn : (T.getD k It.zero).n = x.n) (ho : ovr x (T.getD k It.zero) = true) : Inv5 T x (O ++ [x]) true (k + 1) := by
 obtain ⟨h1, h2, h3, h4⟩ := h
 have h5 : O.length ≠ k + 1 := fun e => by simpa using h4 e
 rw [drop_cons T k hk] at h1
 have e : tput (T.getD k It.zero :: T.drop (k + 1)) x = x :: T.drop (k + 1) := by
  unfold tput
  rw [if_neg (by omega), if_pos hn, if_pos ho]
 rw [e] at h1
 refine ⟨by simpa using h1, fun _ j hj1 hj2 => ?_, by simp; omega, by simp⟩
 rw [← hn]
 exact getD_asc hT k j (by omega) hj2
theorem inv5_new {T : List It} {x : It} {O : List It} {k : Nat} (hT : Asc T) (h : Inv5 T x O false k) (hk : k < T.length) (hn : x.n < (T.getD k It.zero).n) : Inv5 T x (O ++ [x] ++ [T.getD k It.zero]) true (k + 1) := by
 obtain ⟨h1, h2, h3, h4⟩ := h
 have h5 : O.length ≠ k + 1 := fun e => by simpa using h4 e
 rw [drop_cons T k hk] at h1
 have e : tput (T.getD k It.zero :: T.drop (k + 1)) x = x :: T.getD k It.zero :: T.drop (k + 1) := by
  unfold tput
  rw [if_neg (by omega), if_neg (by omega)]
 rw [e] at h1
 refine ⟨by simpa using h1, fun _ j hj1 hj2 => ?_, by simp; omega, by simp⟩
 have := getD_asc hT k j (by omega) hj2
 omega
theorem inv5_on {T : List It} {x : It} {O : List It} {k : Nat} (h : Inv5 T x O true k) (hk : k < T.length) : Inv5 T x (O ++ [T.getD k It.zero]) true (k + 1) := by
 obtain ⟨h1, h2, h3, h4⟩ := h
 rw [drop_cons T k hk] at h1
 exact ⟨by simpa using h1, fun _ j hj1 hj2 => h2 rfl j (by omega) hj2, by simp; omega, by simp⟩
theorem inv5_end {T : List It} {x : It} {O : List It} {d : Bool} (h : Inv5 T x O d T.length) : (if d = true then O else O ++ [x]) = tput T x := by
 obtain ⟨h1, _⟩ := h
 rw [List.drop_length] at h1
 cases d
 ·simpa [tput] using h1
 ·simpa using h1
end Go.Proofs.YtgcdcfjaeehnbaaGreat.I
