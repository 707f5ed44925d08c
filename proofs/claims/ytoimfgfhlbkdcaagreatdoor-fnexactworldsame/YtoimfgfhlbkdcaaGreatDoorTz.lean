/- Registers of lists, and what they tell: the program's tables. -/
import Derived.Test.YtoimfgfhlbkdcaaGreatDoorTa
import Derived.Test.YtoimfgfhlbkdcaaGreatDoorNz
import Derived.Test.YtoimfgfhlbkdcaaGreatDoorSTable
import Derived.Lib.Strings
import Derived.Lib.Slices
import Derived.Lib.Walk
import Derived.Lib.Builder
import Derived.Lib.AppendStr
import Derived.Lib.UnsafeStr
import Derived.Laws.Externs
import Derived.Laws.IdiomCopy
import Derived.Shelf.RegionOpenPlain
namespace Go.Proofs.YtoimfgfhlbkdcaaGreatDoor
open Go.ChangeShapes Go.WideShapes Go.ChangeAt Go.RowKit
attribute [local go_sem ↓] Go.wp_at_zero Go.wp_at_succ
set_option maxRecDepth 20000 in
theorem seqF_succ (F : Nat → Fc) (n : Nat) : seqF F (n + 1) = seqF F n ++ [F n] := by simp [seqF, List.range_succ]
set_option maxRecDepth 20000 in
theorem seqF_mem {F : Nat → Fc} {n : Nat} {f : Fc} (h : f ∈ seqF F n) : ∃ k, k < n ∧ F k = f := by
  obtain ⟨k, hk, rfl⟩ := List.mem_map.1 h
  exact ⟨k, by simpa using hk, rfl⟩
set_option maxRecDepth 20000 in
theorem asc_mono {F : Nat → Fc} {len : Nat} (h : ∀ k, k < len → 0 < k → (F (k - 1)).n < (F k).n) : ∀ j k, j < k → k < len → (F j).n < (F k).n
  | j, 0, h1, _ => by omega
  | j, k + 1, h1, h2 => by
    have e := h (k + 1) h2 (by omega)
    simp at e
    rcases Nat.lt_or_ge j k with h3 | h3
    · have := asc_mono h j k h3 (by omega); omega
    · obtain rfl : j = k := by omega
      exact e
set_option maxRecDepth 20000 in
theorem tok_all {len : Nat} {F : Nat → Fc} (h : tokB len F = true) : (∀ k, k < len → fok (F k) = true) ∧ ∀ j k, j < k → k < len → (F j).n < (F k).n := by
  unfold tokB at h
  rw [Bool.and_eq_true] at h
  exact ⟨fun k hk => (of_decide_eq_true h.1) k hk, asc_mono (of_decide_eq_true h.2)⟩
set_option maxRecDepth 20000 in
theorem seqF_asc {F : Nat → Fc} {len : Nat} (h : ∀ j k, j < k → k < len → (F j).n < (F k).n) : ∀ n, n ≤ len → Asc (seqF F n)
  | 0, _ => List.Pairwise.nil
  | n + 1, hn => by
    rw [seqF_succ]
    unfold Asc
    rw [List.pairwise_append]
    refine ⟨seqF_asc h n (by omega), List.pairwise_singleton _ _, fun a ha b hb => ?_⟩
    obtain ⟨k, hk, rfl⟩ := seqF_mem ha
    simp at hb
    subst hb
    exact h k n hk (by omega)
set_option maxRecDepth 20000 in
theorem tput_last : ∀ {T : List Fc} {f : Fc}, (∀ g ∈ T, g.n < f.n) → tput T f = T ++ [f]
  | [], _, _ => rfl
  | g :: r, f, h => by
    unfold tput
    rw [if_pos (h g (by simp)), tput_last (fun x hx => h x (by simp [hx]))]
    rfl
set_option maxRecDepth 20000 in
theorem seqF_put {F : Nat → Fc} {len n : Nat} (h : ∀ j k, j < k → k < len → (F j).n < (F k).n) (hn : n < len) : tput (seqF F n) (F n) = seqF F (n + 1) := by
  rw [seqF_succ, tput_last]
  intro g hg
  obtain ⟨k, hk, rfl⟩ := seqF_mem hg
  exact h k n hk hn
set_option maxRecDepth 20000 in
theorem tok_len {len : Nat} {F : Nat → Fc} (h : tokB len F = true) : len ≤ 8 := by
  obtain ⟨h1, h2⟩ := tok_all h
  rcases asc_short (seqF F len) 0 (seqF_asc h2 len (Nat.le_refl _)) (fun g hg => by obtain ⟨k, hk, rfl⟩ := seqF_mem hg; have := h1 k hk; unfold fok fokB inb at this; simp at this; omega) with h | h
  · rw [seqF_len] at h; omega
  · have := congrArg List.length h; rw [seqF_len] at this; simp at this; omega
/-- the facts as cells -/
def fl (T : List Fc) : List Value := T.flatMap fun f => [.int .i64 f.n, .int .i64 f.i, .int .i64 f.s, .bool f.g]
set_option maxRecDepth 20000 in
theorem fl_len (T : List Fc) : (fl T).length = T.length * 4 := by
  induction T with
  | nil => rfl
  | cons f r ih => simp [fl] at *; omega
set_option maxRecDepth 20000 in
theorem fl_snoc (T : List Fc) (f : Fc) : fl (T ++ [f]) = fl T ++ [.int .i64 f.n, .int .i64 f.i, .int .i64 f.s, .bool f.g] := by simp [fl]
set_option maxRecDepth 20000 in
theorem fl_append (T T' : List Fc) : fl (T ++ T') = fl T ++ fl T' := by simp [fl]
set_option maxRecDepth 20000 in
theorem fl_get (T : List Fc) : ∀ k, k < T.length → (fl T)[k * 4]? = some (.int .i64 (T.getD k Fc.zero).n) ∧ (fl T)[k * 4 + 1]? = some (.int .i64 (T.getD k Fc.zero).i) ∧ (fl T)[k * 4 + 2]? = some (.int .i64 (T.getD k Fc.zero).s) ∧ (fl T)[k * 4 + 3]? = some (.bool (T.getD k Fc.zero).g) := by
  induction T with
  | nil => intro k hk; simp at hk
  | cons f r ih =>
    intro k hk
    have e : fl (f :: r) = [.int .i64 f.n, .int .i64 f.i, .int .i64 f.s, .bool f.g] ++ fl r := by simp [fl]
    rw [e]
    match k, hk with
    | 0, _ => simp
    | k + 1, hk =>
      have := ih k (by simpa using hk)
      rw [show (k + 1) * 4 = k * 4 + 4 by omega]
      simpa [List.getElem?_append] using this
set_option maxRecDepth 20000 in
/-- a list of its own, as the laws read it -/
theorem own_facts {w : World} {base : Nat} {v : Value} {n : Nat} {T : List Fc} (h : w.ownsRow base 57 4 v n (fl T)) : ∃ a cap, v = .slice a n cap ∧ n ≤ cap ∧ T.length = n ∧ FSl w a n (fun k => T.getD k Fc.zero) := by
  have h0 := h
  have hl : T.length = n := by have := h.1; rw [fl_len] at this; omega
  rcases h.2 with ⟨rfl, rfl⟩ | ⟨g, cap, cur, rfl, hg, hh, hc, _⟩
  · exact ⟨none, 0, rfl, Nat.le_refl _, hl, fun h => by omega⟩
  · refine ⟨_, cap, rfl, hc, hl, fun _ => ⟨g, 0, rfl, lt_of_block hh, fun k hk => ?_⟩⟩
    obtain ⟨e0, e1, e2, e3⟩ := fl_get T k (by omega)
    simp only [Nat.zero_add]
    exact ⟨(h0.cellAt _ (by omega)).trans e0, (h0.cellAt _ (by omega)).trans e1, (h0.cellAt _ (by omega)).trans e2, (h0.cellAt _ (by omega)).trans e3⟩
set_option maxRecDepth 20000 in
set_option maxHeartbeats 2000000 in
theorem regOf_any (a : Option Addr) (len cap : Nat) (F : Nat → Fc) (w : World) (h : FSl w a len F) (hok : tokB len F = true) :
    Calls Tryz.prog 164 #[.slice a len cap] w fun e w' => ∃ rb, e = .returned (.pointer (some ⟨rb, 0, none⟩)) ∧ Reg w' w.heap.size rb len (seqF F len) ∧ Below w.heap.size w w' := by
  have hl := tok_len hok
  obtain ⟨t1, t2⟩ := tok_all hok
  have hok' : Hid (tokB len F = true) := hok
  clear hok hok'
  have hmm := @run_makeMap Tryz.prog
  go_enter Tryz.func164, Tryz.ntmps164
  go_wp2_with fail
  have B0 : Below w.heap.size w ((w.alloc (.map #[] 0)).alloc (.cells #[.slice none 0 0, .map (some w.heap.size)] 213)) := balloc _ (balloc _ (Below.refl _ _))
  have R0 : Reg ((w.alloc (.map #[] 0)).alloc (.cells #[.slice none 0 0, .map (some w.heap.size)] 213)) w.heap.size (w.heap.size + 1) 0 (seqF F 0) :=
    ⟨_, w.heap.size, _, by have := heap_alloc_new (w.alloc (.map #[] 0)) (.cells #[.slice none 0 0, .map (some w.heap.size)] 213); simpa using this, by omega, Nat.le_refl _, World.ownsRow_nil _ _ _ _, (World.ownsMap_made w _ _ _).alloc _, kept_nil⟩
  generalize ((w.alloc (.map #[] 0)).alloc (.cells #[.slice none 0 0, .map (some w.heap.size)] 213)) = W0 at *
  go_loopw [11] (fun i wr => ∃ k : Nat, k ≤ len ∧ i = .int .i64 k ∧ Reg wr w.heap.size (w.heap.size + 1) k (seqF F k) ∧ Below w.heap.size w wr) (fun i _ => len - (intOf i).toNat)
  case atStart => exact ⟨0, Nat.zero_le _, rfl, R0, B0⟩
  case round =>
    obtain ⟨k, hk, rfl, hR, hb⟩ := hrel
    clear hmm R0 B0
    by_cases hlt : k < len
    · obtain ⟨b, off, rfl, hbl, hf⟩ := h (by omega)
      obtain ⟨c0, c1, c2, c3⟩ := (hf.below hb hbl) k hlt
      go_wp2_with fail
      refine (put_any w.heap.size (w.heap.size + 1) k (seqF F k) (F k) _ (hR.below (balloc _ (Below.refl _ _))) (seqF_asc t2 k (by omega)) (fun g hg => by obtain ⟨j, hj, rfl⟩ := seqF_mem hg; exact t1 j (by omega)) (t1 k hlt) (by have := hb.size; simp; omega) (by omega)).mono ?_
      rintro e w1 ⟨rfl, R1, b1⟩
      rw [seqF_put t2 hlt] at R1
      have B1 := (balloc _ hb).trans b1
      clear hR c0 c1 c2 c3 b1
      go_wp2
      go_roundw
      case rel => exact ⟨k + 1, by omega, by go_num, R1, B1⟩
      case measure => simp [intOf]; omega
    · go_wp2
      go_ret
      have e : k = len := by omega
      subst e
      exact ⟨_, rfl, hR, hb⟩
end Go.Proofs.YtoimfgfhlbkdcaaGreatDoor
/- What a register tells; the program's TableOf, TablePut, TableJoin. -/
namespace Go.Proofs.YtoimfgfhlbkdcaaGreatDoor
open Go.ChangeShapes Go.WideShapes Go.ChangeAt Go.RowKit
attribute [local go_sem ↓] Go.wp_at_zero Go.wp_at_succ
set_option maxRecDepth 20000 in
theorem tget_at : ∀ {T : List Fc} (k : Nat), Asc T → k < T.length → tget T (T.getD k Fc.zero).n = some (T.getD k Fc.zero)
  | [], k, _, h => by simp at h
  | g :: r, 0, _, _ => by rw [tget_cons]; simp
  | g :: r, k + 1, h, hk => by
    obtain ⟨h1, h2⟩ := asc_cons.1 h
    have hk' : k < r.length := by simpa using hk
    have e : (g :: r).getD (k + 1) Fc.zero = r.getD k Fc.zero := by simp
    rw [e, tget_cons, if_neg, tget_at k h2 hk']
    have := h1 (r.getD k Fc.zero) (by simp [List.getD, hk'])
    omega
set_option maxRecDepth 20000 in
theorem take_snoc (T : List Fc) (k : Nat) (h : k < T.length) : T.take (k + 1) = T.take k ++ [T.getD k Fc.zero] := by
  rw [List.take_add_one]
  simp [List.getD, h]
set_option maxRecDepth 20000 in
theorem wpList_lookup_fact0 {w : World} {ops : Array Oper} {rest : List Oper} {o : Oper} {a : Act} {Q : Exit → Act → World → Prop} (hg : o.guard = none) (m x : Operand) (hop : o.op = Op.lookup 211 m x false)
    (b n : Nat) (D : DataW Unit) (T : List Fc) (hm : a.eval m = .map (some b)) (hown : w.ownsMap Tryz.prog 3 fE b n D) (hT : Kept D T) (k : Int) (hx : a.eval x = .int .i64 k) (hk : (Lit.int .i64 k).wf = true)
    (g : Fc) (hgk : (tget T k).getD Fc.zero = g) (hK : wpList Tryz.prog ops Q rest (a.put o.dst (fval g)) w) :
    wpList Tryz.prog ops Q (o :: rest) a w := by
  refine wpList_plain hg fun K' hK' => ?_
  obtain ⟨v, ps, hrun, hv⟩ := hown.lookup keyed3 Tryz.underlying211 (zero30 w) (fE_mk Fc.zero) (Maps.keyOf_int_mk Tryz.underlying3 hk)
  obtain ⟨f, rfl, hz⟩ := fE_inv hv
  simp only [Prod.mk.injEq] at hz
  rw [(hT k).2, hgk] at hz
  rw [← fd_inj hz.1] at hrun
  unfold Oper.wp
  simp [execOp, hop, hm, hx, hrun, Result.andThen]
  exact hK' _ _ hK
set_option maxRecDepth 20000 in
set_option maxHeartbeats 2000000 in
theorem list_any (base rb c : Nat) (T : List Fc) (w : World) (hR : Reg w base rb c T) (hT : Asc T) (hok : ∀ g ∈ T, fok g = true) (hl : T.length ≤ 100) :
    Calls Tryz.prog 166 #[.pointer (some ⟨rb, 0, none⟩)] w fun e w' => ∃ v, e = .returned v ∧ w'.ownsRow w.heap.size 57 4 v T.length (fl T) ∧ Below w.heap.size w w' := by
  obtain ⟨ti, hi, hz0, hz1, hz2⟩ := info_parts info24
  obtain ⟨v, mb, D, h1, h2, h3, h4, h5, h6⟩ := hR
  have r0 := cell_block (o := 0) h1 rfl
  have h4' : w.ownsRow base 3 1 v (T.map (·.n)).length (lv (T.map (·.n))) := by rw [List.length_map]; exact h4
  obtain ⟨av, cv, rfl, _, hI⟩ := own_list h4'
  clear h4'
  simp only [List.length_map] at hI
  rw [List.length_map] at r0 h1
  clear h4
  go_enter Tryz.func166, Tryz.ntmps166
  go_wp2_with fail
  go_loopw [3, 5, 11] (fun x _ i wr => ∃ k : Nat, k ≤ T.length ∧ i = .int .i64 k ∧ wr.ownsRow w.heap.size 57 4 x k (fl (T.take k)) ∧ Below w.heap.size w wr) (fun _ _ i _ => T.length - (intOf i).toNat)
  case atStart => exact ⟨0, Nat.zero_le _, rfl, World.ownsRow_nil _ _ _ _, Below.refl _ _⟩
  case round =>
    obtain ⟨k, hk, rfl, hown, hb⟩ := hrel
    clear r0
    by_cases hlt : k < T.length
    · obtain ⟨b, off, rfl, hbl, hf⟩ := hI (by omega)
      have c1 : ((T.map (·.n)).getD k 0) = (T.getD k Fc.zero).n := by simp [List.getD, hlt]
      have c0 : wr.cell? ⟨b, off + k, none⟩ = some (.int .i64 (T.getD k Fc.zero).n) := by rw [← c1]; exact (hf.below hb hbl) k hlt
      clear c1
      have ts := take_snoc T k hlt
      have i0 : (0 : Int) ≤ (k : Int) := by omega
      have i1 : (k : Int) < (T.length : Int) := by omega
      have r1 := cell_block (o := 1) ((hb.block rb (lt_of_block h1)).trans h1) rfl
      have hk0 := tget_at k hT hlt
      have hfk : fok (T.getD k Fc.zero) = true := hok _ (tget_mem hk0).1
      have hmm := map_below h5 hb
      generalize T.getD k Fc.zero = f at *
      go_wp2_with (first | (at_lookup; refine wpList_lookup_fact0 rfl _ _ rfl mb c D T rfl hmm h6 f.n rfl (fok_wf hfk) f (by rw [hk0]; rfl) ?_) | (at_builtin; refine wpList_append_own _ rfl _ _ 32 rfl w.heap.size 57 ti (fval Fc.zero) 4 32 Tryz.underlying32 hi hz0 hz1 hz2 rfl (by decide) _ _ _ rfl (hown.alloc _) ⟨wr.heap.size, 0, none⟩ 1 1 [.int .i64 f.n, .int .i64 f.i, .int .i64 f.s, .bool f.g] rfl rfl ?c1 ?c2 ?c3 ?c4 ?c5 ?_))
      case c1 =>
        intro j u hj
        match j, hj with
        | 0, hj => simp at hj; subst hj; simp [Addr.add]
        | 1, hj => simp at hj; subst hj; simp [Addr.add]
        | 2, hj => simp at hj; subst hj; simp [Addr.add]
        | 3, hj => simp at hj; subst hj; simp [Addr.add]
      case c2 => intro u hu; simp at hu; rcases hu with rfl | rfl | rfl | rfl <;> rfl
      case c3 => unfold maxLen; omega
      case c4 => omega
      case c5 => have := hb.size; simp; omega
      · intro v' w2 hown' hgrow _
        have B2 := own_grow (balloc (.cells #[.int .i64 f.n, .int .i64 f.i, .int .i64 f.s, .bool f.g] 57) hb) (by have := hb.size; simp; omega) (hown.alloc _) hgrow
        clear hown hgrow hb c0 r1 hmm
        go_wp2
        go_roundw
        case rel => exact ⟨k + 1, by omega, by go_num, by rw [ts, fl_snoc]; exact hown', B2⟩
        case measure => simp [intOf]; omega
    · go_wp2
      go_ret
      have e : k = T.length := by omega
      subst e
      rw [List.take_length] at hown
      exact ⟨_, rfl, hown, hb⟩
end Go.Proofs.YtoimfgfhlbkdcaaGreatDoor
/- What two tables say together: the program's way and the model's. -/
namespace Go.Proofs.YtoimfgfhlbkdcaaGreatDoor
open Go.ChangeShapes Go.WideShapes Go.ChangeAt Go.RowKit
attribute [local go_sem ↓] Go.wp_at_zero Go.wp_at_succ
/-- all of U put to T -/
def tjoin (T U : List Fc) : List Fc := U.foldl tput T
set_option maxRecDepth 20000 in
theorem tjoin_succ (T : List Fc) (G : Nat → Fc) (k : Nat) : tjoin T (seqF G (k + 1)) = tput (tjoin T (seqF G k)) (G k) := by
  unfold tjoin
  rw [seqF_succ, List.foldl_append]
  rfl
set_option maxRecDepth 20000 in
theorem tjoin_asc {T : List Fc} (h : Asc T) (G : Nat → Fc) : ∀ k, Asc (tjoin T (seqF G k))
  | 0 => h
  | k + 1 => by rw [tjoin_succ]; exact tput_asc (tjoin_asc h G k)
set_option maxRecDepth 20000 in
theorem tjoin_ok {T : List Fc} {G : Nat → Fc} {len : Nat} (h : ∀ g ∈ T, fok g = true) (hG : ∀ k, k < len → fok (G k) = true) : ∀ k, k ≤ len → ∀ g ∈ tjoin T (seqF G k), fok g = true
  | 0, _ => h
  | k + 1, hk => by
    rw [tjoin_succ]
    intro g hg
    rcases tput_mem hg with rfl | hg
    · exact hG k (by omega)
    · exact tjoin_ok h hG k (by omega) g hg
set_option maxRecDepth 20000 in
theorem ok_short {T : List Fc} (h : Asc T) (hok : ∀ g ∈ T, fok g = true) : T.length ≤ 8 := by
  rcases asc_short T 0 h (fun g hg => by have := hok g hg; unfold fok fokB inb at this; simp at this; omega) with h | h
  · omega
  · simp [h]
def tj (len : Nat) (F : Nat → Fc) (len2 : Nat) (G : Nat → Fc) : List Fc := if (tokB len F && tokB len2 G) = true then tjoin (seqF F len) (seqF G len2) else []
set_option maxRecDepth 20000 in
theorem seqF_ok {F : Nat → Fc} {len : Nat} (h : ∀ k, k < len → fok (F k) = true) : ∀ g ∈ seqF F len, fok g = true := fun g hg => by
  obtain ⟨k, hk, rfl⟩ := seqF_mem hg
  exact h k hk
set_option maxRecDepth 20000 in
theorem tj_len (len : Nat) (F : Nat → Fc) (len2 : Nat) (G : Nat → Fc) : (tj len F len2 G).length ≤ 8 := by
  unfold tj
  split
  · rename_i h
    rw [Bool.and_eq_true] at h
    obtain ⟨t1, t2⟩ := tok_all h.1
    obtain ⟨u1, _⟩ := tok_all h.2
    exact ok_short (tjoin_asc (seqF_asc t2 len (Nat.le_refl _)) G len2) (tjoin_ok (seqF_ok t1) u1 len2 (Nat.le_refl _))
  · simp
set_option maxRecDepth 20000 in
set_option maxHeartbeats 2000000 in
theorem joined_any (a : Option Addr) (len cap : Nat) (F : Nat → Fc) (a2 : Option Addr) (len2 cap2 : Nat) (G : Nat → Fc) (w : World) (h : FSl w a len F) (h2 : FSl w a2 len2 G) (hok : tokB len F = true) (hok2 : tokB len2 G = true) :
    Calls Tryz.prog 107 #[.slice a len cap, .slice a2 len2 cap2] w fun e w' => ∃ v, e = .returned v ∧ w'.ownsRow w.heap.size 57 4 v (tjoin (seqF F len) (seqF G len2)).length (fl (tjoin (seqF F len) (seqF G len2))) ∧ Below w.heap.size w w' := by
  have hl := tok_len hok
  have hl2 := tok_len hok2
  obtain ⟨t1, t2⟩ := tok_all hok
  obtain ⟨u1, u2⟩ := tok_all hok2
  have hokH : Hid (tokB len F = true) := hok
  clear hok hok2
  have hA := tjoin_asc (seqF_asc t2 len (Nat.le_refl _)) G
  have hO := tjoin_ok (seqF_ok t1) u1
  go_enter Tryz.func107, Tryz.ntmps107
  go_wp2_with fail
  refine (regOf_any a len cap F _ h hokH.out).mono ?_
  rintro r w1 ⟨rb, rfl, R1, b1⟩
  go_wp2_with fail
  go_loopw [12] (fun i wr => ∃ k : Nat, k ≤ len2 ∧ i = .int .i64 k ∧ Reg wr w.heap.size rb (len + k) (tjoin (seqF F len) (seqF G k)) ∧ Below w.heap.size w wr) (fun i _ => len2 - (intOf i).toNat)
  case atStart => exact ⟨0, Nat.zero_le _, rfl, R1, b1⟩
  case round =>
    obtain ⟨k, hk, rfl, hR, hb⟩ := hrel
    clear R1 b1
    by_cases hlt : k < len2
    · obtain ⟨b, off, rfl, hbl, hf⟩ := h2 (by omega)
      obtain ⟨c0, c1, c2, c3⟩ := (hf.below hb hbl) k hlt
      go_wp2_with fail
      refine (put_any w.heap.size rb (len + k) (tjoin (seqF F len) (seqF G k)) (G k) _ (hR.below (balloc _ (Below.refl _ _))) (hA k) (hO k (by omega)) (u1 k hlt) (by have := hb.size; simp; omega) (by omega)).mono ?_
      rintro e w2 ⟨rfl, R2, b2⟩
      rw [← tjoin_succ] at R2
      have B2 := (balloc _ hb).trans b2
      clear hR c0 c1 c2 c3 b2
      go_wp2
      go_roundw
      case rel => exact ⟨k + 1, by omega, by go_num, R2, B2⟩
      case measure => simp [intOf]; omega
    · have e : k = len2 := by omega
      subst e
      have hs := ok_short (hA k) (hO k (Nat.le_refl _))
      go_wp2_with fail
      refine (list_any w.heap.size rb (len + k) _ _ hR (hA k) (hO k (Nat.le_refl _)) (by omega)).mono ?_
      rintro r w2 ⟨v, rfl, o2, b2⟩
      go_wp2
      go_ret
      exact ⟨v, rfl, own_mono hb.size o2, btrans hb b2⟩
set_option maxRecDepth 20000 in
set_option maxHeartbeats 4000000 in
theorem fjoin_any (a : Option Addr) (len cap : Nat) (F : Nat → Fc) (a2 : Option Addr) (len2 cap2 : Nat) (G : Nat → Fc) (w : World) (h : FSl w a len F) (h2 : FSl w a2 len2 G) (hl : len ≤ 1048576) (hl2 : len2 ≤ 1048576) :
    Calls Tryz.prog 56 #[.slice a len cap, .slice a2 len2 cap2] w fun e w' => ∃ v, e = .returned v ∧ w'.ownsRow w.heap.size 57 4 v (tj len F len2 G).length (fl (tj len F len2 G)) ∧ Below w.heap.size w w' := by
  cases hok0 : tokB len F
  · have hok : Hid (tokB len F = false) := hok0
    have e1 : tj len F len2 G = [] := by unfold tj; rw [hok0]; rfl
    rw [e1]
    clear hok0 e1
    go_enter Tryz.func56, Tryz.ntmps56
    go_wp2_with fail
    refine (tok_lit a len cap F false _ h hl hok.out).mono ?_
    rintro r w1 ⟨rfl, b1⟩
    go_wp2
    go_ret
    exact ⟨_, rfl, World.ownsRow_nil _ _ _ _, b1⟩
  · have hok : Hid (tokB len F = true) := hok0
    cases hok1 : tokB len2 G
    · have hokG : Hid (tokB len2 G = false) := hok1
      have e1 : tj len F len2 G = [] := by unfold tj; rw [hok0, hok1]; rfl
      rw [e1]
      clear hok0 hok1 e1
      go_enter Tryz.func56, Tryz.ntmps56
      go_wp2_with fail
      refine (tok_lit a len cap F true _ h hl hok.out).mono ?_
      rintro r w1 ⟨rfl, b1⟩
      go_wp2_with fail
      refine (tok_lit a2 len2 cap2 G false _ (h2.below b1) hl2 hokG.out).mono ?_
      rintro r w2 ⟨rfl, b2⟩
      go_wp2
      go_ret
      exact ⟨_, rfl, World.ownsRow_nil _ _ _ _, btrans b1 b2⟩
    · have hokG : Hid (tokB len2 G = true) := hok1
      have e1 : tj len F len2 G = tjoin (seqF F len) (seqF G len2) := by unfold tj; rw [hok0, hok1]; rfl
      rw [e1]
      clear hok0 hok1 e1
      go_enter Tryz.func56, Tryz.ntmps56
      go_wp2_with fail
      refine (tok_lit a len cap F true _ h hl hok.out).mono ?_
      rintro r w1 ⟨rfl, b1⟩
      go_wp2_with fail
      refine (tok_lit a2 len2 cap2 G true _ (h2.below b1) hl2 hokG.out).mono ?_
      rintro r w2 ⟨rfl, b2⟩
      have B2 := btrans b1 b2
      go_wp2_with fail
      refine (joined_any a len cap F a2 len2 cap2 G _ (h.below B2) (h2.below B2) hok.out hokG.out).mono ?_
      rintro r w3 ⟨v, rfl, o3, b3⟩
      go_wp2
      go_ret
      exact ⟨v, rfl, own_mono B2.size o3, btrans B2 b3⟩
end Go.Proofs.YtoimfgfhlbkdcaaGreatDoor
/- How tables are written: the program's way and the model's. -/
namespace Go.Proofs.YtoimfgfhlbkdcaaGreatDoor
open Go.ChangeShapes Go.WideShapes Go.ChangeAt Go.RowKit
attribute [local go_sem ↓] Go.wp_at_zero Go.wp_at_succ
theorem dec_lit (n : Int) (x : ByteArray) (h0 : 0 ≤ n) (h1 : n ≤ 999) (hx : bs (Lib.itoa n) = x) (w : World) :
    Calls Tryz.prog 33 #[.int .i64 n] w fun e w' => e = .returned (.string x) ∧ Below w.heap.size w w' := by
  have := dec_any (n.toNat + 1) n.toNat (by omega) (by omega) w
  have e1 : ((n.toNat : Nat) : Int) = n := by omega
  rw [e1] at this
  have e2 : Lib.itoa n = Lib.decDigits n.toNat := by unfold Lib.itoa; rw [if_neg (by omega)]
  rw [← hx, e2]
  exact this
theorem sword_any (s : Int) (h1 : 1 ≤ s) (h4 : s ≤ 4) (w : World) :
    Calls Tryz.prog 173 #[.int .i64 s] w fun e w' => e = .returned (.string (bs (wordL s))) ∧ Below w.heap.size w w' := by
  have hs : s = 1 ∨ s = 2 ∨ s = 3 ∨ s = 4 := by omega
  clear h1 h4
  rcases hs with rfl | rfl | rfl | rfl
  all_goals
    go_enter Tryz.func173, Tryz.ntmps173
    go_wp2
    go_ret
    exact ⟨rfl, balloc _ (Below.refl _ _)⟩
theorem sword_lit (s : Int) (x : ByteArray) (h1 : 1 ≤ s) (h4 : s ≤ 4) (hx : bs (wordL s) = x) (w : World) :
    Calls Tryz.prog 173 #[.int .i64 s] w fun e w' => e = .returned (.string x) ∧ Below w.heap.size w w' := hx ▸ sword_any s h1 h4 w
/-- a table's text -/
def ttx (T : List Fc) : List UInt8 := Lib.join (T.map ftx) [44]
theorem ttx_nil : ttx [] = [] := rfl
theorem join_snoc (sep : List UInt8) (x : List UInt8) : ∀ (r : List (List UInt8)), r ≠ [] → Lib.join (r ++ [x]) sep = Lib.join r sep ++ sep ++ x
  | [], h => absurd rfl h
  | y :: r, _ => by
    rw [List.cons_append, Lib.join_cons, Lib.join_cons]
    simp [Lib.joinTail]
theorem ttx_snoc (T : List Fc) (f : Fc) : ttx (T ++ [f]) = ttx T ++ (if T = [] then [] else [44]) ++ ftx f := by
  unfold ttx
  cases T with
  | nil => simp [Lib.join_one, Lib.join_nil]
  | cons g r =>
    rw [List.map_append, show List.map ftx [f] = [ftx f] from rfl, join_snoc _ _ _ (by simp), if_neg (by simp)]
theorem ftx_len {f : Fc} (h : fok f = true) : (ftx f).length ≤ 16 := by
  obtain ⟨n0, n7, i0, i9, _, _⟩ := fok_all h
  have a1 := itoa_len n0 (by omega : f.n ≤ 999)
  have a2 := itoa_len i0 i9
  have a3 := word_len f.s
  simp only [ByteArray.size, List.size_toArray] at a1 a2 a3
  unfold ftx
  simp only [List.length_append, List.length_cons, List.length_nil]
  split <;> simp <;> omega
theorem ttx_len (F : Nat → Fc) : ∀ k, (∀ j, j < k → fok (F j) = true) → (ttx (seqF F k)).length ≤ 17 * k
  | 0, _ => by simp [seqF, ttx_nil]
  | k + 1, h => by
    rw [seqF_succ, ttx_snoc]
    have h1 := ttx_len F k (fun j hj => h j (by omega))
    have h2 := ftx_len (h k (by omega))
    simp only [List.length_append]
    split <;> simp <;> omega
theorem info9 : (Tryz.prog.info? 9).map (fun i => (i.zero, i.size, i.bytes)) = some (some (.string ByteArray.empty), 1, 16) := by kernel_rfl
/-- the texts of facts, in memory -/
def sl (T : List Fc) : List Value := T.map fun f => .string (bs (ftx f))
/-- what TableText writes -/
def txt (len : Nat) (F : Nat → Fc) : ByteArray := if tokB len F = true then (if len = 0 then bs [45] else bs (ttx (seqF F len))) else bs []
theorem ftext_lit (f : Fc) (x : ByteArray) (hf : fok f = true) (hx : bs (ftx f) = x) (w : World) (ht : Tabs w) :
    Calls Tryz.prog 59 #[.agg #[.int .i64 f.n, .int .i64 f.i, .int .i64 f.s, .bool f.g]] w fun e w' => e = .returned (.string x) ∧ Below w.heap.size w w' := hx ▸ ftext_any f hf w ht
theorem tok_litt (a : Option Addr) (len cap : Nat) (F : Nat → Fc) (q : Bool) (w : World) (h : FSl w a len F) (hl : len ≤ 1048576) (hq : tokB len F = q) :
    Calls Tryz.prog 58 #[.slice a len cap] w fun e w' => e = .returned (.bool q) ∧ Below w.heap.size w w' := hq ▸ tok_any a len cap F w h hl
theorem stok_litt (a : Option Addr) (len cap : Nat) (F : Nat → Fc) (q : Bool) (w : World) (h : FSl w a len F) (hl : len ≤ 1048576) (hq : tokB len F = q) :
    Calls Tryz.prog 72 #[.slice a len cap] w fun e w' => e = .returned (.bool q) ∧ Below w.heap.size w w' := hq ▸ stok_any a len cap F w h hl
theorem own_str {w : World} {base n : Nat} {v : Value} {xs : List Value} (h : w.ownsRow base 9 1 v n xs) : (v = .slice none 0 0 ∧ n = 0) ∨ ∃ g cap, v = .slice (some ⟨g, 0, none⟩) n cap ∧ base ≤ g ∧ g < w.heap.size ∧ n ≤ cap := by
  rcases h.2 with ⟨rfl, rfl⟩ | ⟨g, cap, cur, rfl, hg, hh, hc, _⟩
  · exact .inl ⟨rfl, rfl⟩
  · exact .inr ⟨g, cap, rfl, hg, (Array.getElem?_eq_some_iff.1 hh).1, hc⟩
set_option maxRecDepth 20000 in
set_option maxHeartbeats 4000000 in
theorem text_any (a : Option Addr) (len cap : Nat) (F : Nat → Fc) (w : World) (h : FSl w a len F) (hl : len ≤ 1048576) (ht : Tabs w) :
    Calls Tryz.prog 28 #[.slice a len cap] w fun e w' => e = .returned (.string (txt len F)) ∧ Below w.heap.size w w' := by
  cases hok0 : tokB len F
  · have hok : Hid (tokB len F = false) := hok0
    have e1 : txt len F = bs [] := by unfold txt; rw [hok0]; rfl
    rw [e1]
    clear hok0 e1
    go_enter Tryz.func28, Tryz.ntmps28
    go_wp2_with fail
    refine (tok_litt a len cap F false _ h hl hok.out).mono ?_
    rintro r w1 ⟨rfl, b1⟩
    go_wp2
    go_ret
    exact ⟨rfl, b1⟩
  · have hok : Hid (tokB len F = true) := hok0
    by_cases h0 : len = 0
    · have e1 : txt len F = bs [45] := by unfold txt; rw [hok0, if_pos rfl, if_pos h0]
      rw [e1]
      subst h0
      clear hok0 e1
      go_enter Tryz.func28, Tryz.ntmps28
      go_wp2_with fail
      refine (tok_litt a 0 cap F true _ h hl hok.out).mono ?_
      rintro r w1 ⟨rfl, b1⟩
      go_wp2
      go_ret
      exact ⟨rfl, b1⟩
    · have e1 : txt len F = bs (ttx (seqF F len)) := by unfold txt; rw [hok0, if_pos rfl, if_neg h0]
      obtain ⟨t1, _⟩ := tok_all hok0
      have hm8 := tok_len hok0
      have hj : ¬ (len : Int) = 0 := by omega
      have hjb : ((len : Int) == 0) = false := by simpa using hj
      have hlen := ttx_len F len t1
      rw [e1]
      clear hok0 e1
      obtain ⟨ti, hi, hz0, hz1, hz2⟩ := info_parts info9
      go_enter Tryz.func28, Tryz.ntmps28
      go_wp2_with fail
      refine (tok_litt a len cap F true _ h hl hok.out).mono ?_
      rintro r w1 ⟨rfl, B1⟩
      go_wp2_with fail
      go_loopw [3, 14] (fun v i wr => ∃ k : Nat, i = .int .i64 k ∧ k ≤ len ∧ wr.ownsRow w.heap.size 9 1 v k (sl (seqF F k)) ∧ Below w.heap.size w wr) (fun _ i _ => len - (intOf i).toNat)
      case atStart => exact ⟨0, rfl, Nat.zero_le _, World.ownsRow_nil _ _ _ _, B1⟩
      case round =>
        obtain ⟨k, rfl, hk, hown, hb⟩ := hrel
        by_cases hlt : k < len
        · have i0 : (0 : Int) ≤ (k : Int) := by omega
          have i1 : (k : Int) < (len : Int) := by omega
          obtain ⟨b, off, rfl, hbl, hfi⟩ := h (by omega)
          obtain ⟨c0, c1, c2, c3⟩ := (hfi.below hb hbl) k hlt
          have hfk := t1 k hlt
          have hs : Hid (sl (seqF F (k + 1)) = sl (seqF F k) ++ [.string (bs (ftx (F k)))]) := by unfold Hid sl; rw [seqF_succ, List.map_append]; rfl
          generalize F k = f at *
          obtain ⟨x, hx⟩ : ∃ x, Hid (bs (ftx f) = x) := ⟨_, rfl⟩
          rw [hx.out] at hs
          have b2 : Below wr.heap.size wr (wr.alloc (.cells #[.int .i64 f.n, .int .i64 f.i, .int .i64 f.s, .bool f.g] 57)) := balloc _ (Below.refl _ _)
          go_wp2_with fail
          have B2 := btrans hb b2
          have O2 := own_below hown b2
          clear c0 c1 c2 c3 b2 hown hb
          generalize (wr.alloc (.cells #[.int .i64 f.n, .int .i64 f.i, .int .i64 f.s, .bool f.g] 57)) = w2 at *
          refine (ftext_lit f x hfk hx.out _ (ht.below B2)).mono ?_
          rintro r w3 ⟨rfl, b3⟩
          have B3 := btrans B2 b3
          have O3 := own_below O2 b3
          clear b3 B2 O2
          go_wp2_with (at_builtin; refine wpList_append_own _ rfl _ _ 112 rfl w.heap.size 9 ti (.string ByteArray.empty) 1 16 Tryz.underlying112 hi hz0 hz1 hz2 rfl (by decide) _ _ _ rfl (O3.alloc _) ⟨w3.heap.size, 0, none⟩ 1 1 [.string x] rfl rfl ?c1 ?c2 ?c3 ?c4 ?c5 ?_)
          case c1 =>
            intro j u hj
            match j, hj with
            | 0, hj => simp at hj; subst hj; simp [Addr.add]
          case c2 => intro u hu; simp at hu; subst hu; rfl
          case c3 => unfold maxLen; omega
          case c4 => omega
          case c5 => have := B3.size; simp; omega
          · intro v' w4 hown' hgrow _
            have B4 := own_grow (balloc (.cells #[.string x] 9) B3) (by have := B3.size; simp; omega) (O3.alloc _) hgrow
            clear O3 hgrow B3
            go_wp2
            go_roundw
            case rel => exact ⟨k + 1, by go_num, by omega, by rw [hs.out]; exact hown', B4⟩
            case measure => simp [intOf]; omega
        · obtain rfl : k = len := by omega
          rcases own_str hown with ⟨_, e0⟩ | ⟨g, cc, rfl, hg1, hg2, hg3⟩
          · exact absurd e0 h0
          have hJ := Tryz.strings_Join g 0 cc ((seqF F k).map fun f => bs (ftx f)) (bs [44]) wr (fun j x hx => by
            have := hown.cells (g := g) rfl j (.string x) (by
              unfold sl
              simp only [List.getElem?_map, Option.map_eq_some_iff] at hx ⊢
              obtain ⟨f, hf, rfl⟩ := hx
              exact ⟨f, hf, rfl⟩)
            cases j <;> simpa [Addr.add] using this) hg2 (by simp [seqF]; omega) (by simp [seqF]; omega) (by
              have e1 : (((seqF F k).map fun f => bs (ftx f)).map (·.data.toList)) = (seqF F k).map ftx := by simp [List.map_map, Function.comp_def]
              rw [e1]
              have : (ttx (seqF F k)).length ≤ 17 * k := hlen
              unfold ttx at this
              show (Lib.join (List.map ftx (seqF F k)) [44]).length ≤ _
              omega)
          have e1 : (((seqF F k).map fun f => bs (ftx f)).map (·.data.toList)) = (seqF F k).map ftx := by simp [List.map_map, Function.comp_def]
          have e2 : ((seqF F k).map fun f => bs (ftx f)).length = k := by simp [seqF]
          rw [e1, e2] at hJ
          have hJ' : Calls Tryz.prog 60 #[.slice (some ⟨g, 0, none⟩) k cc, .string (bs [44])] wr fun e w' => e = .returned (.string (bs (ttx (seqF F k)))) ∧ Below wr.heap.size wr w' := hJ
          obtain ⟨y, hy⟩ : ∃ y, Hid (bs (ttx (seqF F k)) = y) := ⟨_, rfl⟩
          rw [hy.out] at hJ'
          clear hJ e1 e2 hown
          go_wp2_with fail
          refine hJ'.mono ?_
          rintro r w5 ⟨rfl, b5⟩
          have B5 := btrans hb b5
          clear b5 hJ'
          go_wp2
          go_ret
          exact ⟨by rw [hy.out]; rfl, B5⟩
end Go.Proofs.YtoimfgfhlbkdcaaGreatDoor
/- How tables are written: the model's way. -/
namespace Go.Proofs.YtoimfgfhlbkdcaaGreatDoor
open Go.ChangeShapes Go.WideShapes Go.ChangeAt Go.RowKit
attribute [local go_sem ↓] Go.wp_at_zero Go.wp_at_succ
theorem bs_nil (y : ByteArray) : y ++ bs [] = y := by
  apply ByteArray.ext
  simp [ByteArray.data_append]
set_option maxRecDepth 20000 in
set_option maxHeartbeats 4000000 in
theorem l3text_any (a : Option Addr) (len cap : Nat) (F : Nat → Fc) (w : World) (h : FSl w a len F) (hok : tokB len F = true) :
    Calls Tryz.prog 119 #[.slice a len cap] w fun e w' => e = .returned (.string (bs (ttx (seqF F len)))) ∧ Below w.heap.size w w' := by
  obtain ⟨t1, _⟩ := tok_all hok
  have hm8 := tok_len hok
  clear hok
  go_enter Tryz.func119, Tryz.ntmps119
  go_wp2_with fail
  go_loopw [3, 4] (fun v i wr => ∃ (k : Nat) (y : ByteArray), i = .int .i64 k ∧ k ≤ len ∧ v = .string y ∧ Hid (bs (ttx (seqF F k)) = y) ∧ Below w.heap.size w wr) (fun _ i _ => len - (intOf i).toNat)
  case atStart => exact ⟨0, _, rfl, Nat.zero_le _, rfl, rfl, Below.refl _ _⟩
  case round =>
    obtain ⟨k, y, rfl, hk, rfl, hy, hb⟩ := hrel
    by_cases hlt : k < len
    · have j0 : (0 : Int) ≤ (k : Int) := by omega
      have j1 : (k : Int) < (len : Int) := by omega
      obtain ⟨b, off, rfl, hbl, hfi⟩ := h (by omega)
      obtain ⟨c0, c1, c2, c3⟩ := (hfi.below hb hbl) k hlt
      have hfk := t1 k hlt
      have hyl : y.size ≤ 17 * k := by rw [← hy.out]; simpa [ByteArray.size] using ttx_len F k (fun j hj => t1 j (by omega))
      have hs : Hid (bs (ttx (seqF F (k + 1))) = y ++ bs (if k = 0 then [] else [44]) ++ bs (ftx (F k))) := by
        unfold Hid
        rw [← hy.out, bs_append, bs_append, seqF_succ, ttx_snoc]
        have : (seqF F k = []) ↔ k = 0 := by
          constructor
          · intro e
            have := seqF_len F k
            rw [e] at this
            exact this.symm
          · rintro rfl
            rfl
        by_cases e : k = 0
        · rw [if_pos e, if_pos (this.2 e)]
        · rw [if_neg e, if_neg (fun z => e (this.1 z))]
      obtain ⟨n0, n7, i0, i9, s1, s4⟩ := fok_all hfk
      generalize F k = f at *
      obtain ⟨x1, hx1⟩ : ∃ x, Hid (bs (Lib.itoa f.n) = x) := ⟨_, rfl⟩
      obtain ⟨x2, hx2⟩ : ∃ x, Hid (bs (Lib.itoa f.i) = x) := ⟨_, rfl⟩
      obtain ⟨x3, hx3⟩ : ∃ x, Hid (bs (wordL f.s) = x) := ⟨_, rfl⟩
      have z1 := itoa_len n0 (by omega : f.n ≤ 999)
      have z2 := itoa_len i0 i9
      have z3 := word_len f.s
      rw [hx1.out] at z1
      rw [hx2.out] at z2
      rw [hx3.out] at z3
      have hft : Hid (bs (ftx f) = x1 ++ bs [58] ++ x2 ++ bs [58] ++ x3 ++ bs (if f.g = true then [42] else [])) := by
        unfold Hid
        rw [← hx1.out, ← hx2.out, ← hx3.out, bs_append, bs_append, bs_append, bs_append, bs_append]
        rfl
      by_cases hk0 : k = 0
      · have g0 : ¬ (0 : Int) < (k : Int) := by omega
        have ho : Hid (y ++ bs (if k = 0 then [] else [44]) = y) := by unfold Hid; rw [if_pos hk0, bs_nil]
        rw [ho.out] at hs
        clear ho
        subst hk0
        simp only [Nat.zero_mul, Nat.add_zero] at c0 c1 c2 c3
        clear g0
        go_wp2_with fail
        have m1 : ¬ 9223372036854775807 < y.size + x1.size := by omega
        have m2 : ¬ 9223372036854775807 < y.size + x1.size + 1 := by omega
        have m3 : ¬ 9223372036854775807 < y.size + x1.size + 1 + x2.size := by omega
        have m4 : ¬ 9223372036854775807 < y.size + x1.size + 1 + x2.size + 1 := by omega
        have m5 : ¬ 9223372036854775807 < y.size + x1.size + 1 + x2.size + 1 + x3.size := by omega
        have m6 : ¬ 9223372036854775807 < y.size + x1.size + 1 + x2.size + 1 + x3.size + 1 := by omega
        refine wp_region_held_drew (S := fun w' => w'.cell? ⟨b, off, none⟩ = some (.int .i64 f.n) ∧ w'.cell? ⟨b, off + 1, none⟩ = some (.int .i64 f.i) ∧ w'.cell? ⟨b, off + 2, none⟩ = some (.int .i64 f.s) ∧ w'.cell? ⟨b, off + 3, none⟩ = some (.bool f.g)) (by kernel_rfl) ?_ (fun hHeld => ?_)
        · (try dsimp only); (refine ⟨?_, ?_, ?_, ?_⟩ <;> (repeat (first | with_reducible assumption | with_reducible refine keep_drew ?_ | with_reducible refine keep_below (by assumption) ?_)))
        refine wpAnyH_take (i := 0) (oi := { dst := some 15, op := Go.Op.move (Go.Operand.tmp 3), type := 9, pos := "l3_fact.go:125", after := #[], guard := none }) (v := ?_) rfl (by kernel_rfl) (by kernel_rfl) (by kernel_rfl) (fun _ _ _ h => h) (Or.inl ⟨by rfl, ?_⟩) (by assumption) ?_
        rotate_left 1
        · (intro w hSw; (try dsimp only at hSw); go_simp; try with_reducible rfl)
        (try simp only [Act.put, List.setIfInBounds_toArray, List.set_cons_zero, List.set_cons_succ])
        refine wpAnyH_take (i := 1) (oi := { dst := some 16, op := Go.Op.move (Go.Operand.tmp 0), type := 32, pos := "l3_fact.go:125", after := #[], guard := none }) (v := ?_) rfl (by kernel_rfl) (by kernel_rfl) (by kernel_rfl) (fun _ _ _ h => h) (Or.inl ⟨by rfl, ?_⟩) (by assumption) ?_
        rotate_left 1
        · (intro w hSw; (try dsimp only at hSw); go_simp; try with_reducible rfl)
        (try simp only [Act.put, List.setIfInBounds_toArray, List.set_cons_zero, List.set_cons_succ])
        refine wpAnyH_take (i := 2) (oi := { dst := some 17, op := Go.Op.move (Go.Operand.tmp 4), type := 3, pos := "l3_fact.go:125", after := #[], guard := none }) (v := ?_) rfl (by kernel_rfl) (by kernel_rfl) (by kernel_rfl) (fun _ _ _ h => h) (Or.inl ⟨by rfl, ?_⟩) (by assumption) ?_
        rotate_left 1
        · (intro w hSw; (try dsimp only at hSw); go_simp; try with_reducible rfl)
        (try simp only [Act.put, List.setIfInBounds_toArray, List.set_cons_zero, List.set_cons_succ])
        refine wpAnyH_take (i := 3) (oi := { dst := some 18, op := Go.Op.indexAddr 32 (Go.Operand.tmp 16) (Go.Operand.tmp 17), type := 0, pos := "l3_fact.go:125", after := #[{ on := 1, ground := Go.Ground.data }, { on := 2, ground := Go.Ground.data }], guard := none }) (v := ?_) rfl (by kernel_rfl) (by kernel_rfl) (by kernel_rfl) (fun _ _ _ h => h) (Or.inl ⟨by rfl, ?_⟩) (by assumption) ?_
        rotate_left 1
        · (intro w hSw; (try dsimp only at hSw); go_simp; try with_reducible rfl)
        (try simp only [Act.put, List.setIfInBounds_toArray, List.set_cons_zero, List.set_cons_succ])
        refine wpAnyH_take (i := 4) (oi := { dst := some 19, op := Go.Op.fieldAddr 57 (Go.Operand.tmp 18) 0, type := 0, pos := "l3_fact.go:125", after := #[{ on := 3, ground := Go.Ground.data }], guard := none }) (v := ?_) rfl (by kernel_rfl) (by kernel_rfl) (by kernel_rfl) (fun _ _ _ h => h) (Or.inl ⟨by rfl, ?_⟩) (by assumption) ?_
        rotate_left 1
        · (intro w hSw; (try dsimp only at hSw); go_simp; try with_reducible rfl)
        (try simp only [Act.put, List.setIfInBounds_toArray, List.set_cons_zero, List.set_cons_succ])
        refine wpAnyH_take (i := 5) (oi := { dst := some 20, op := Go.Op.load 3 (Go.Operand.tmp 19), type := 3, pos := "l3_fact.go:125", after := #[{ on := 4, ground := Go.Ground.data }], guard := none }) (v := ?_) rfl (by kernel_rfl) (by kernel_rfl) (by kernel_rfl) (fun _ _ _ h => h) (Or.inl ⟨by rfl, ?_⟩) (by assumption) ?_
        rotate_left 1
        · (intro w hSw; (try dsimp only at hSw); go_simp; try with_reducible rfl)
        (try simp only [Act.put, List.setIfInBounds_toArray, List.set_cons_zero, List.set_cons_succ])
        refine wpAnyH_take (i := 9) (oi := { dst := some 24, op := Go.Op.move (Go.Operand.tmp 0), type := 32, pos := "l3_fact.go:125", after := #[], guard := none }) (v := ?_) rfl (by kernel_rfl) (by kernel_rfl) (by kernel_rfl) (fun _ _ _ h => h) (Or.inl ⟨by rfl, ?_⟩) (by assumption) ?_
        rotate_left 1
        · (intro w hSw; (try dsimp only at hSw); go_simp; try with_reducible rfl)
        (try simp only [Act.put, List.setIfInBounds_toArray, List.set_cons_zero, List.set_cons_succ])
        refine wpAnyH_take (i := 10) (oi := { dst := some 25, op := Go.Op.move (Go.Operand.tmp 4), type := 3, pos := "l3_fact.go:125", after := #[], guard := none }) (v := ?_) rfl (by kernel_rfl) (by kernel_rfl) (by kernel_rfl) (fun _ _ _ h => h) (Or.inl ⟨by rfl, ?_⟩) (by assumption) ?_
        rotate_left 1
        · (intro w hSw; (try dsimp only at hSw); go_simp; try with_reducible rfl)
        (try simp only [Act.put, List.setIfInBounds_toArray, List.set_cons_zero, List.set_cons_succ])
        refine wpAnyH_take (i := 11) (oi := { dst := some 26, op := Go.Op.indexAddr 32 (Go.Operand.tmp 24) (Go.Operand.tmp 25), type := 0, pos := "l3_fact.go:125", after := #[{ on := 9, ground := Go.Ground.data }, { on := 10, ground := Go.Ground.data }], guard := none }) (v := ?_) rfl (by kernel_rfl) (by kernel_rfl) (by kernel_rfl) (fun _ _ _ h => h) (Or.inl ⟨by rfl, ?_⟩) (by assumption) ?_
        rotate_left 1
        · (intro w hSw; (try dsimp only at hSw); go_simp; try with_reducible rfl)
        (try simp only [Act.put, List.setIfInBounds_toArray, List.set_cons_zero, List.set_cons_succ])
        refine wpAnyH_take (i := 12) (oi := { dst := some 27, op := Go.Op.fieldAddr 57 (Go.Operand.tmp 26) 1, type := 0, pos := "l3_fact.go:125", after := #[{ on := 11, ground := Go.Ground.data }], guard := none }) (v := ?_) rfl (by kernel_rfl) (by kernel_rfl) (by kernel_rfl) (fun _ _ _ h => h) (Or.inl ⟨by rfl, ?_⟩) (by assumption) ?_
        rotate_left 1
        · (intro w hSw; (try dsimp only at hSw); go_simp; try with_reducible rfl)
        (try simp only [Act.put, List.setIfInBounds_toArray, List.set_cons_zero, List.set_cons_succ])
        refine wpAnyH_take (i := 13) (oi := { dst := some 28, op := Go.Op.load 3 (Go.Operand.tmp 27), type := 3, pos := "l3_fact.go:125", after := #[{ on := 12, ground := Go.Ground.data }], guard := none }) (v := ?_) rfl (by kernel_rfl) (by kernel_rfl) (by kernel_rfl) (fun _ _ _ h => h) (Or.inl ⟨by rfl, ?_⟩) (by assumption) ?_
        rotate_left 1
        · (intro w hSw; (try dsimp only at hSw); go_simp; try with_reducible rfl)
        (try simp only [Act.put, List.setIfInBounds_toArray, List.set_cons_zero, List.set_cons_succ])
        refine wpAnyH_take (i := 17) (oi := { dst := some 32, op := Go.Op.move (Go.Operand.tmp 0), type := 32, pos := "l3_fact.go:125", after := #[], guard := none }) (v := ?_) rfl (by kernel_rfl) (by kernel_rfl) (by kernel_rfl) (fun _ _ _ h => h) (Or.inl ⟨by rfl, ?_⟩) (by assumption) ?_
        rotate_left 1
        · (intro w hSw; (try dsimp only at hSw); go_simp; try with_reducible rfl)
        (try simp only [Act.put, List.setIfInBounds_toArray, List.set_cons_zero, List.set_cons_succ])
        refine wpAnyH_take (i := 18) (oi := { dst := some 33, op := Go.Op.move (Go.Operand.tmp 4), type := 3, pos := "l3_fact.go:125", after := #[], guard := none }) (v := ?_) rfl (by kernel_rfl) (by kernel_rfl) (by kernel_rfl) (fun _ _ _ h => h) (Or.inl ⟨by rfl, ?_⟩) (by assumption) ?_
        rotate_left 1
        · (intro w hSw; (try dsimp only at hSw); go_simp; try with_reducible rfl)
        (try simp only [Act.put, List.setIfInBounds_toArray, List.set_cons_zero, List.set_cons_succ])
        refine wpAnyH_take (i := 19) (oi := { dst := some 34, op := Go.Op.indexAddr 32 (Go.Operand.tmp 32) (Go.Operand.tmp 33), type := 0, pos := "l3_fact.go:125", after := #[{ on := 17, ground := Go.Ground.data }, { on := 18, ground := Go.Ground.data }], guard := none }) (v := ?_) rfl (by kernel_rfl) (by kernel_rfl) (by kernel_rfl) (fun _ _ _ h => h) (Or.inl ⟨by rfl, ?_⟩) (by assumption) ?_
        rotate_left 1
        · (intro w hSw; (try dsimp only at hSw); go_simp; try with_reducible rfl)
        (try simp only [Act.put, List.setIfInBounds_toArray, List.set_cons_zero, List.set_cons_succ])
        refine wpAnyH_take (i := 20) (oi := { dst := some 35, op := Go.Op.fieldAddr 57 (Go.Operand.tmp 34) 2, type := 0, pos := "l3_fact.go:125", after := #[{ on := 19, ground := Go.Ground.data }], guard := none }) (v := ?_) rfl (by kernel_rfl) (by kernel_rfl) (by kernel_rfl) (fun _ _ _ h => h) (Or.inl ⟨by rfl, ?_⟩) (by assumption) ?_
        rotate_left 1
        · (intro w hSw; (try dsimp only at hSw); go_simp; try with_reducible rfl)
        (try simp only [Act.put, List.setIfInBounds_toArray, List.set_cons_zero, List.set_cons_succ])
        refine wpAnyH_take (i := 21) (oi := { dst := some 36, op := Go.Op.load 3 (Go.Operand.tmp 35), type := 3, pos := "l3_fact.go:125", after := #[{ on := 20, ground := Go.Ground.data }], guard := none }) (v := ?_) rfl (by kernel_rfl) (by kernel_rfl) (by kernel_rfl) (fun _ _ _ h => h) (Or.inl ⟨by rfl, ?_⟩) (by assumption) ?_
        rotate_left 1
        · (intro w hSw; (try dsimp only at hSw); go_simp; try with_reducible rfl)
        (try simp only [Act.put, List.setIfInBounds_toArray, List.set_cons_zero, List.set_cons_succ])
        refine wpAnyH_ready (rs := [6]) (by kernel_rfl) (by simp) ?_
        refine AllReadyH.cons (o := { dst := some 21, op := Go.Op.call { callee := Go.Callee.value (Go.Operand.func 33), args := #[Go.Operand.tmp 20], argTypes := #[3] }, type := 9, pos := "l3_fact.go:125", after := #[{ on := 5, ground := Go.Ground.data }], guard := none }) rfl (fun K hK => ?_) AllReadyH.nil
        go_simp
        refine (dec_lit f.n _ n0 (by omega) hx1.out _).mono ?_; rintro e w1 ⟨rfl, b1⟩
        go_wp2_with fail
        refine hK.out _ _ ?_ (fun hHeld => ?_)
        · (try dsimp only); (refine ⟨?_, ?_, ?_, ?_⟩ <;> (repeat (first | with_reducible assumption | with_reducible refine keep_drew ?_ | with_reducible refine keep_below (by assumption) ?_)))
        clear hK K
        (try simp only [Act.put, List.setIfInBounds_toArray, List.set_cons_zero, List.set_cons_succ])
        refine wpAnyH_take (i := 7) (oi := { dst := some 22, op := Go.Op.binOp Go.BinOp.add 9 (Go.Operand.tmp 15) (Go.Operand.tmp 21) 9, type := 9, pos := "l3_fact.go:125", after := #[{ on := 0, ground := Go.Ground.data }, { on := 6, ground := Go.Ground.data }], guard := none }) (v := ?_) rfl (by kernel_rfl) (by kernel_rfl) (by kernel_rfl) (fun _ _ _ h => h) (Or.inl ⟨by rfl, ?_⟩) (by assumption) ?_
        rotate_left 1
        · (intro w hSw; (try dsimp only at hSw); go_simp; try with_reducible rfl)
        (try simp only [Act.put, List.setIfInBounds_toArray, List.set_cons_zero, List.set_cons_succ])
        refine wpAnyH_take (i := 8) (oi := { dst := some 23, op := Go.Op.binOp Go.BinOp.add 9 (Go.Operand.tmp 22) (Go.Operand.const (Go.Value.string { data := #[58] })) 9, type := 9, pos := "l3_fact.go:125", after := #[{ on := 7, ground := Go.Ground.data }], guard := none }) (v := ?_) rfl (by kernel_rfl) (by kernel_rfl) (by kernel_rfl) (fun _ _ _ h => h) (Or.inl ⟨by rfl, ?_⟩) (by assumption) ?_
        rotate_left 1
        · (intro w hSw; (try dsimp only at hSw); go_simp; try with_reducible rfl)
        (try simp only [Act.put, List.setIfInBounds_toArray, List.set_cons_zero, List.set_cons_succ])
        refine wpAnyH_ready (rs := [14]) (by kernel_rfl) (by simp) ?_
        refine AllReadyH.cons (o := { dst := some 29, op := Go.Op.call { callee := Go.Callee.value (Go.Operand.func 33), args := #[Go.Operand.tmp 28], argTypes := #[3] }, type := 9, pos := "l3_fact.go:125", after := #[{ on := 13, ground := Go.Ground.data }, { on := 6, ground := Go.Ground.chain }], guard := none }) rfl (fun K hK => ?_) AllReadyH.nil
        go_simp
        refine (dec_lit f.i _ i0 i9 hx2.out _).mono ?_; rintro e w2 ⟨rfl, b2⟩
        go_wp2_with fail
        refine hK.out _ _ ?_ (fun hHeld => ?_)
        · (try dsimp only); (refine ⟨?_, ?_, ?_, ?_⟩ <;> (repeat (first | with_reducible assumption | with_reducible refine keep_drew ?_ | with_reducible refine keep_below (by assumption) ?_)))
        clear hK K
        (try simp only [Act.put, List.setIfInBounds_toArray, List.set_cons_zero, List.set_cons_succ])
        refine wpAnyH_take (i := 15) (oi := { dst := some 30, op := Go.Op.binOp Go.BinOp.add 9 (Go.Operand.tmp 23) (Go.Operand.tmp 29) 9, type := 9, pos := "l3_fact.go:125", after := #[{ on := 8, ground := Go.Ground.data }, { on := 14, ground := Go.Ground.data }], guard := none }) (v := ?_) rfl (by kernel_rfl) (by kernel_rfl) (by kernel_rfl) (fun _ _ _ h => h) (Or.inl ⟨by rfl, ?_⟩) (by assumption) ?_
        rotate_left 1
        · (intro w hSw; (try dsimp only at hSw); go_simp; try with_reducible rfl)
        (try simp only [Act.put, List.setIfInBounds_toArray, List.set_cons_zero, List.set_cons_succ])
        refine wpAnyH_take (i := 16) (oi := { dst := some 31, op := Go.Op.binOp Go.BinOp.add 9 (Go.Operand.tmp 30) (Go.Operand.const (Go.Value.string { data := #[58] })) 9, type := 9, pos := "l3_fact.go:125", after := #[{ on := 15, ground := Go.Ground.data }], guard := none }) (v := ?_) rfl (by kernel_rfl) (by kernel_rfl) (by kernel_rfl) (fun _ _ _ h => h) (Or.inl ⟨by rfl, ?_⟩) (by assumption) ?_
        rotate_left 1
        · (intro w hSw; (try dsimp only at hSw); go_simp; try with_reducible rfl)
        (try simp only [Act.put, List.setIfInBounds_toArray, List.set_cons_zero, List.set_cons_succ])
        refine wpAnyH_ready (rs := [22]) (by kernel_rfl) (by simp) ?_
        refine AllReadyH.cons (o := { dst := some 37, op := Go.Op.call { callee := Go.Callee.value (Go.Operand.func 173), args := #[Go.Operand.tmp 36], argTypes := #[3] }, type := 9, pos := "l3_fact.go:125", after := #[{ on := 21, ground := Go.Ground.data }, { on := 14, ground := Go.Ground.chain }], guard := none }) rfl (fun K hK => ?_) AllReadyH.nil
        go_simp
        refine (sword_lit f.s _ s1 s4 hx3.out _).mono ?_; rintro e w3 ⟨rfl, b3⟩
        go_wp2_with fail
        refine hK.out _ _ ?_ (fun hHeld => ?_)
        · (try dsimp only); (refine ⟨?_, ?_, ?_, ?_⟩ <;> (repeat (first | with_reducible assumption | with_reducible refine keep_drew ?_ | with_reducible refine keep_below (by assumption) ?_)))
        clear hK K
        (try simp only [Act.put, List.setIfInBounds_toArray, List.set_cons_zero, List.set_cons_succ])
        refine wpAnyH_take (i := 23) (oi := { dst := some 38, op := Go.Op.binOp Go.BinOp.add 9 (Go.Operand.tmp 31) (Go.Operand.tmp 37) 9, type := 9, pos := "l3_fact.go:125", after := #[{ on := 16, ground := Go.Ground.data }, { on := 22, ground := Go.Ground.data }], guard := none }) (v := ?_) rfl (by kernel_rfl) (by kernel_rfl) (by kernel_rfl) (fun _ _ _ h => h) (Or.inl ⟨by rfl, ?_⟩) (by assumption) ?_
        rotate_left 1
        · (intro w hSw; (try dsimp only at hSw); go_simp; try with_reducible rfl)
        (try simp only [Act.put, List.setIfInBounds_toArray, List.set_cons_zero, List.set_cons_succ])
        refine wpAnyH_take (i := 24) (oi := { dst := some 3, op := Go.Op.assign (Go.Operand.tmp 38), type := 9, pos := "l3_fact.go:125", after := #[{ on := 23, ground := Go.Ground.data }, { on := 22, ground := Go.Ground.chain }, { on := 0, ground := Go.Ground.phase }, { on := 1, ground := Go.Ground.phase }, { on := 2, ground := Go.Ground.phase }, { on := 3, ground := Go.Ground.phase }, { on := 4, ground := Go.Ground.phase }, { on := 5, ground := Go.Ground.phase }, { on := 6, ground := Go.Ground.phase }, { on := 7, ground := Go.Ground.phase }, { on := 8, ground := Go.Ground.phase }, { on := 9, ground := Go.Ground.phase }, { on := 10, ground := Go.Ground.phase }, { on := 11, ground := Go.Ground.phase }, { on := 12, ground := Go.Ground.phase }, { on := 13, ground := Go.Ground.phase }, { on := 14, ground := Go.Ground.phase }, { on := 15, ground := Go.Ground.phase }, { on := 16, ground := Go.Ground.phase }, { on := 17, ground := Go.Ground.phase }, { on := 18, ground := Go.Ground.phase }, { on := 19, ground := Go.Ground.phase }, { on := 20, ground := Go.Ground.phase }, { on := 21, ground := Go.Ground.phase }, { on := 22, ground := Go.Ground.phase }, { on := 23, ground := Go.Ground.phase }], guard := none }) (v := ?_) rfl (by kernel_rfl) (by kernel_rfl) (by kernel_rfl) (fun _ _ _ h => h) (Or.inl ⟨by rfl, ?_⟩) (by assumption) ?_
        rotate_left 1
        · (intro w hSw; (try dsimp only at hSw); go_simp; try with_reducible rfl)
        (try simp only [Act.put, List.setIfInBounds_toArray, List.set_cons_zero, List.set_cons_succ])
        refine wpAnyH_done (by kernel_rfl) ?_ _
        have B3 := btrans (btrans (btrans (qd hb) b1) b2) b3
        have d3 := keep_below b3 (keep_below b2 (keep_below b1 (keep_drew c3)))
        clear hHeld b1 b2 b3 c0 c1 c2 c3 hb
        cases hg : f.g
        · have hE : Hid (bs (ttx (seqF F (0 + 1))) = y ++ x1 ++ bs [58] ++ x2 ++ bs [58] ++ x3) := by
            unfold Hid
            rw [hs.out, hft.out, hg, if_neg (by simp), bs_nil]
            simp [ByteArray.append_assoc]
          rw [hg] at d3
          clear hs hft hg hx1 hx2 hx3
          go_wp2
          go_roundw
          case rel => exact ⟨0 + 1, _, by go_num, by omega, rfl, hE, B3⟩
          case measure => simp [intOf]; omega
        · have hE : Hid (bs (ttx (seqF F (0 + 1))) = y ++ x1 ++ bs [58] ++ x2 ++ bs [58] ++ x3 ++ bs [42]) := by
            unfold Hid
            rw [hs.out, hft.out, hg, if_pos rfl]
            simp [ByteArray.append_assoc]
          rw [hg] at d3
          clear hs hft hg hx1 hx2 hx3
          go_wp2
          go_roundw
          case rel => exact ⟨0 + 1, _, by go_num, by omega, rfl, hE, B3⟩
          case measure => simp [intOf]; omega
      · have g0 : (0 : Int) < (k : Int) := by omega
        have p1 : ¬ 9223372036854775807 < y.size + 1 := by omega
        have ho : Hid (y ++ bs (if k = 0 then [] else [44]) = y ++ bs [44]) := by unfold Hid; rw [if_neg hk0]
        rw [ho.out] at hs
        clear ho
        have hyl2 : (y ++ bs [44]).size ≤ 17 * k + 1 := by
          simp only [ByteArray.size_append]
          have : (bs [44]).size = 1 := rfl
          omega
        go_wp2_with fail
        clear hyl
        obtain ⟨y0, hy0⟩ : ∃ y0, y ++ bs [44] = y0 := ⟨_, rfl⟩
        have hy0' : y ++ ({ data := #[44] } : ByteArray) = y0 := hy0
        rw [hy0] at hs hyl2
        rw [hy0']
        have hyl : y0.size ≤ 17 * k + 1 := hyl2
        clear hy0 hy0' hyl2 p1 hy
        have m1 : ¬ 9223372036854775807 < y0.size + x1.size := by omega
        have m2 : ¬ 9223372036854775807 < y0.size + x1.size + 1 := by omega
        have m3 : ¬ 9223372036854775807 < y0.size + x1.size + 1 + x2.size := by omega
        have m4 : ¬ 9223372036854775807 < y0.size + x1.size + 1 + x2.size + 1 := by omega
        have m5 : ¬ 9223372036854775807 < y0.size + x1.size + 1 + x2.size + 1 + x3.size := by omega
        have m6 : ¬ 9223372036854775807 < y0.size + x1.size + 1 + x2.size + 1 + x3.size + 1 := by omega
        refine wp_region_held_drew (S := fun w' => w'.cell? ⟨b, off + k * 4, none⟩ = some (.int .i64 f.n) ∧ w'.cell? ⟨b, off + k * 4 + 1, none⟩ = some (.int .i64 f.i) ∧ w'.cell? ⟨b, off + k * 4 + 2, none⟩ = some (.int .i64 f.s) ∧ w'.cell? ⟨b, off + k * 4 + 3, none⟩ = some (.bool f.g)) (by kernel_rfl) ?_ (fun hHeld => ?_)
        · (try dsimp only); (refine ⟨?_, ?_, ?_, ?_⟩ <;> (repeat (first | with_reducible assumption | with_reducible refine keep_drew ?_ | with_reducible refine keep_below (by assumption) ?_)))
        refine wpAnyH_take (i := 0) (oi := { dst := some 15, op := Go.Op.move (Go.Operand.tmp 3), type := 9, pos := "l3_fact.go:125", after := #[], guard := none }) (v := ?_) rfl (by kernel_rfl) (by kernel_rfl) (by kernel_rfl) (fun _ _ _ h => h) (Or.inl ⟨by rfl, ?_⟩) (by assumption) ?_
        rotate_left 1
        · (intro w hSw; (try dsimp only at hSw); go_simp; try with_reducible rfl)
        (try simp only [Act.put, List.setIfInBounds_toArray, List.set_cons_zero, List.set_cons_succ])
        refine wpAnyH_take (i := 1) (oi := { dst := some 16, op := Go.Op.move (Go.Operand.tmp 0), type := 32, pos := "l3_fact.go:125", after := #[], guard := none }) (v := ?_) rfl (by kernel_rfl) (by kernel_rfl) (by kernel_rfl) (fun _ _ _ h => h) (Or.inl ⟨by rfl, ?_⟩) (by assumption) ?_
        rotate_left 1
        · (intro w hSw; (try dsimp only at hSw); go_simp; try with_reducible rfl)
        (try simp only [Act.put, List.setIfInBounds_toArray, List.set_cons_zero, List.set_cons_succ])
        refine wpAnyH_take (i := 2) (oi := { dst := some 17, op := Go.Op.move (Go.Operand.tmp 4), type := 3, pos := "l3_fact.go:125", after := #[], guard := none }) (v := ?_) rfl (by kernel_rfl) (by kernel_rfl) (by kernel_rfl) (fun _ _ _ h => h) (Or.inl ⟨by rfl, ?_⟩) (by assumption) ?_
        rotate_left 1
        · (intro w hSw; (try dsimp only at hSw); go_simp; try with_reducible rfl)
        (try simp only [Act.put, List.setIfInBounds_toArray, List.set_cons_zero, List.set_cons_succ])
        refine wpAnyH_take (i := 3) (oi := { dst := some 18, op := Go.Op.indexAddr 32 (Go.Operand.tmp 16) (Go.Operand.tmp 17), type := 0, pos := "l3_fact.go:125", after := #[{ on := 1, ground := Go.Ground.data }, { on := 2, ground := Go.Ground.data }], guard := none }) (v := ?_) rfl (by kernel_rfl) (by kernel_rfl) (by kernel_rfl) (fun _ _ _ h => h) (Or.inl ⟨by rfl, ?_⟩) (by assumption) ?_
        rotate_left 1
        · (intro w hSw; (try dsimp only at hSw); go_simp; try with_reducible rfl)
        (try simp only [Act.put, List.setIfInBounds_toArray, List.set_cons_zero, List.set_cons_succ])
        refine wpAnyH_take (i := 4) (oi := { dst := some 19, op := Go.Op.fieldAddr 57 (Go.Operand.tmp 18) 0, type := 0, pos := "l3_fact.go:125", after := #[{ on := 3, ground := Go.Ground.data }], guard := none }) (v := ?_) rfl (by kernel_rfl) (by kernel_rfl) (by kernel_rfl) (fun _ _ _ h => h) (Or.inl ⟨by rfl, ?_⟩) (by assumption) ?_
        rotate_left 1
        · (intro w hSw; (try dsimp only at hSw); go_simp; try with_reducible rfl)
        (try simp only [Act.put, List.setIfInBounds_toArray, List.set_cons_zero, List.set_cons_succ])
        refine wpAnyH_take (i := 5) (oi := { dst := some 20, op := Go.Op.load 3 (Go.Operand.tmp 19), type := 3, pos := "l3_fact.go:125", after := #[{ on := 4, ground := Go.Ground.data }], guard := none }) (v := ?_) rfl (by kernel_rfl) (by kernel_rfl) (by kernel_rfl) (fun _ _ _ h => h) (Or.inl ⟨by rfl, ?_⟩) (by assumption) ?_
        rotate_left 1
        · (intro w hSw; (try dsimp only at hSw); go_simp; try with_reducible rfl)
        (try simp only [Act.put, List.setIfInBounds_toArray, List.set_cons_zero, List.set_cons_succ])
        refine wpAnyH_take (i := 9) (oi := { dst := some 24, op := Go.Op.move (Go.Operand.tmp 0), type := 32, pos := "l3_fact.go:125", after := #[], guard := none }) (v := ?_) rfl (by kernel_rfl) (by kernel_rfl) (by kernel_rfl) (fun _ _ _ h => h) (Or.inl ⟨by rfl, ?_⟩) (by assumption) ?_
        rotate_left 1
        · (intro w hSw; (try dsimp only at hSw); go_simp; try with_reducible rfl)
        (try simp only [Act.put, List.setIfInBounds_toArray, List.set_cons_zero, List.set_cons_succ])
        refine wpAnyH_take (i := 10) (oi := { dst := some 25, op := Go.Op.move (Go.Operand.tmp 4), type := 3, pos := "l3_fact.go:125", after := #[], guard := none }) (v := ?_) rfl (by kernel_rfl) (by kernel_rfl) (by kernel_rfl) (fun _ _ _ h => h) (Or.inl ⟨by rfl, ?_⟩) (by assumption) ?_
        rotate_left 1
        · (intro w hSw; (try dsimp only at hSw); go_simp; try with_reducible rfl)
        (try simp only [Act.put, List.setIfInBounds_toArray, List.set_cons_zero, List.set_cons_succ])
        refine wpAnyH_take (i := 11) (oi := { dst := some 26, op := Go.Op.indexAddr 32 (Go.Operand.tmp 24) (Go.Operand.tmp 25), type := 0, pos := "l3_fact.go:125", after := #[{ on := 9, ground := Go.Ground.data }, { on := 10, ground := Go.Ground.data }], guard := none }) (v := ?_) rfl (by kernel_rfl) (by kernel_rfl) (by kernel_rfl) (fun _ _ _ h => h) (Or.inl ⟨by rfl, ?_⟩) (by assumption) ?_
        rotate_left 1
        · (intro w hSw; (try dsimp only at hSw); go_simp; try with_reducible rfl)
        (try simp only [Act.put, List.setIfInBounds_toArray, List.set_cons_zero, List.set_cons_succ])
        refine wpAnyH_take (i := 12) (oi := { dst := some 27, op := Go.Op.fieldAddr 57 (Go.Operand.tmp 26) 1, type := 0, pos := "l3_fact.go:125", after := #[{ on := 11, ground := Go.Ground.data }], guard := none }) (v := ?_) rfl (by kernel_rfl) (by kernel_rfl) (by kernel_rfl) (fun _ _ _ h => h) (Or.inl ⟨by rfl, ?_⟩) (by assumption) ?_
        rotate_left 1
        · (intro w hSw; (try dsimp only at hSw); go_simp; try with_reducible rfl)
        (try simp only [Act.put, List.setIfInBounds_toArray, List.set_cons_zero, List.set_cons_succ])
        refine wpAnyH_take (i := 13) (oi := { dst := some 28, op := Go.Op.load 3 (Go.Operand.tmp 27), type := 3, pos := "l3_fact.go:125", after := #[{ on := 12, ground := Go.Ground.data }], guard := none }) (v := ?_) rfl (by kernel_rfl) (by kernel_rfl) (by kernel_rfl) (fun _ _ _ h => h) (Or.inl ⟨by rfl, ?_⟩) (by assumption) ?_
        rotate_left 1
        · (intro w hSw; (try dsimp only at hSw); go_simp; try with_reducible rfl)
        (try simp only [Act.put, List.setIfInBounds_toArray, List.set_cons_zero, List.set_cons_succ])
        refine wpAnyH_take (i := 17) (oi := { dst := some 32, op := Go.Op.move (Go.Operand.tmp 0), type := 32, pos := "l3_fact.go:125", after := #[], guard := none }) (v := ?_) rfl (by kernel_rfl) (by kernel_rfl) (by kernel_rfl) (fun _ _ _ h => h) (Or.inl ⟨by rfl, ?_⟩) (by assumption) ?_
        rotate_left 1
        · (intro w hSw; (try dsimp only at hSw); go_simp; try with_reducible rfl)
        (try simp only [Act.put, List.setIfInBounds_toArray, List.set_cons_zero, List.set_cons_succ])
        refine wpAnyH_take (i := 18) (oi := { dst := some 33, op := Go.Op.move (Go.Operand.tmp 4), type := 3, pos := "l3_fact.go:125", after := #[], guard := none }) (v := ?_) rfl (by kernel_rfl) (by kernel_rfl) (by kernel_rfl) (fun _ _ _ h => h) (Or.inl ⟨by rfl, ?_⟩) (by assumption) ?_
        rotate_left 1
        · (intro w hSw; (try dsimp only at hSw); go_simp; try with_reducible rfl)
        (try simp only [Act.put, List.setIfInBounds_toArray, List.set_cons_zero, List.set_cons_succ])
        refine wpAnyH_take (i := 19) (oi := { dst := some 34, op := Go.Op.indexAddr 32 (Go.Operand.tmp 32) (Go.Operand.tmp 33), type := 0, pos := "l3_fact.go:125", after := #[{ on := 17, ground := Go.Ground.data }, { on := 18, ground := Go.Ground.data }], guard := none }) (v := ?_) rfl (by kernel_rfl) (by kernel_rfl) (by kernel_rfl) (fun _ _ _ h => h) (Or.inl ⟨by rfl, ?_⟩) (by assumption) ?_
        rotate_left 1
        · (intro w hSw; (try dsimp only at hSw); go_simp; try with_reducible rfl)
        (try simp only [Act.put, List.setIfInBounds_toArray, List.set_cons_zero, List.set_cons_succ])
        refine wpAnyH_take (i := 20) (oi := { dst := some 35, op := Go.Op.fieldAddr 57 (Go.Operand.tmp 34) 2, type := 0, pos := "l3_fact.go:125", after := #[{ on := 19, ground := Go.Ground.data }], guard := none }) (v := ?_) rfl (by kernel_rfl) (by kernel_rfl) (by kernel_rfl) (fun _ _ _ h => h) (Or.inl ⟨by rfl, ?_⟩) (by assumption) ?_
        rotate_left 1
        · (intro w hSw; (try dsimp only at hSw); go_simp; try with_reducible rfl)
        (try simp only [Act.put, List.setIfInBounds_toArray, List.set_cons_zero, List.set_cons_succ])
        refine wpAnyH_take (i := 21) (oi := { dst := some 36, op := Go.Op.load 3 (Go.Operand.tmp 35), type := 3, pos := "l3_fact.go:125", after := #[{ on := 20, ground := Go.Ground.data }], guard := none }) (v := ?_) rfl (by kernel_rfl) (by kernel_rfl) (by kernel_rfl) (fun _ _ _ h => h) (Or.inl ⟨by rfl, ?_⟩) (by assumption) ?_
        rotate_left 1
        · (intro w hSw; (try dsimp only at hSw); go_simp; try with_reducible rfl)
        (try simp only [Act.put, List.setIfInBounds_toArray, List.set_cons_zero, List.set_cons_succ])
        refine wpAnyH_ready (rs := [6]) (by kernel_rfl) (by simp) ?_
        refine AllReadyH.cons (o := { dst := some 21, op := Go.Op.call { callee := Go.Callee.value (Go.Operand.func 33), args := #[Go.Operand.tmp 20], argTypes := #[3] }, type := 9, pos := "l3_fact.go:125", after := #[{ on := 5, ground := Go.Ground.data }], guard := none }) rfl (fun K hK => ?_) AllReadyH.nil
        go_simp
        refine (dec_lit f.n _ n0 (by omega) hx1.out _).mono ?_; rintro e w1 ⟨rfl, b1⟩
        go_wp2_with fail
        refine hK.out _ _ ?_ (fun hHeld => ?_)
        · (try dsimp only); (refine ⟨?_, ?_, ?_, ?_⟩ <;> (repeat (first | with_reducible assumption | with_reducible refine keep_drew ?_ | with_reducible refine keep_below (by assumption) ?_)))
        clear hK K
        (try simp only [Act.put, List.setIfInBounds_toArray, List.set_cons_zero, List.set_cons_succ])
        refine wpAnyH_take (i := 7) (oi := { dst := some 22, op := Go.Op.binOp Go.BinOp.add 9 (Go.Operand.tmp 15) (Go.Operand.tmp 21) 9, type := 9, pos := "l3_fact.go:125", after := #[{ on := 0, ground := Go.Ground.data }, { on := 6, ground := Go.Ground.data }], guard := none }) (v := ?_) rfl (by kernel_rfl) (by kernel_rfl) (by kernel_rfl) (fun _ _ _ h => h) (Or.inl ⟨by rfl, ?_⟩) (by assumption) ?_
        rotate_left 1
        · (intro w hSw; (try dsimp only at hSw); go_simp; try with_reducible rfl)
        (try simp only [Act.put, List.setIfInBounds_toArray, List.set_cons_zero, List.set_cons_succ])
        refine wpAnyH_take (i := 8) (oi := { dst := some 23, op := Go.Op.binOp Go.BinOp.add 9 (Go.Operand.tmp 22) (Go.Operand.const (Go.Value.string { data := #[58] })) 9, type := 9, pos := "l3_fact.go:125", after := #[{ on := 7, ground := Go.Ground.data }], guard := none }) (v := ?_) rfl (by kernel_rfl) (by kernel_rfl) (by kernel_rfl) (fun _ _ _ h => h) (Or.inl ⟨by rfl, ?_⟩) (by assumption) ?_
        rotate_left 1
        · (intro w hSw; (try dsimp only at hSw); go_simp; try with_reducible rfl)
        (try simp only [Act.put, List.setIfInBounds_toArray, List.set_cons_zero, List.set_cons_succ])
        refine wpAnyH_ready (rs := [14]) (by kernel_rfl) (by simp) ?_
        refine AllReadyH.cons (o := { dst := some 29, op := Go.Op.call { callee := Go.Callee.value (Go.Operand.func 33), args := #[Go.Operand.tmp 28], argTypes := #[3] }, type := 9, pos := "l3_fact.go:125", after := #[{ on := 13, ground := Go.Ground.data }, { on := 6, ground := Go.Ground.chain }], guard := none }) rfl (fun K hK => ?_) AllReadyH.nil
        go_simp
        refine (dec_lit f.i _ i0 i9 hx2.out _).mono ?_; rintro e w2 ⟨rfl, b2⟩
        go_wp2_with fail
        refine hK.out _ _ ?_ (fun hHeld => ?_)
        · (try dsimp only); (refine ⟨?_, ?_, ?_, ?_⟩ <;> (repeat (first | with_reducible assumption | with_reducible refine keep_drew ?_ | with_reducible refine keep_below (by assumption) ?_)))
        clear hK K
        (try simp only [Act.put, List.setIfInBounds_toArray, List.set_cons_zero, List.set_cons_succ])
        refine wpAnyH_take (i := 15) (oi := { dst := some 30, op := Go.Op.binOp Go.BinOp.add 9 (Go.Operand.tmp 23) (Go.Operand.tmp 29) 9, type := 9, pos := "l3_fact.go:125", after := #[{ on := 8, ground := Go.Ground.data }, { on := 14, ground := Go.Ground.data }], guard := none }) (v := ?_) rfl (by kernel_rfl) (by kernel_rfl) (by kernel_rfl) (fun _ _ _ h => h) (Or.inl ⟨by rfl, ?_⟩) (by assumption) ?_
        rotate_left 1
        · (intro w hSw; (try dsimp only at hSw); go_simp; try with_reducible rfl)
        (try simp only [Act.put, List.setIfInBounds_toArray, List.set_cons_zero, List.set_cons_succ])
        refine wpAnyH_take (i := 16) (oi := { dst := some 31, op := Go.Op.binOp Go.BinOp.add 9 (Go.Operand.tmp 30) (Go.Operand.const (Go.Value.string { data := #[58] })) 9, type := 9, pos := "l3_fact.go:125", after := #[{ on := 15, ground := Go.Ground.data }], guard := none }) (v := ?_) rfl (by kernel_rfl) (by kernel_rfl) (by kernel_rfl) (fun _ _ _ h => h) (Or.inl ⟨by rfl, ?_⟩) (by assumption) ?_
        rotate_left 1
        · (intro w hSw; (try dsimp only at hSw); go_simp; try with_reducible rfl)
        (try simp only [Act.put, List.setIfInBounds_toArray, List.set_cons_zero, List.set_cons_succ])
        refine wpAnyH_ready (rs := [22]) (by kernel_rfl) (by simp) ?_
        refine AllReadyH.cons (o := { dst := some 37, op := Go.Op.call { callee := Go.Callee.value (Go.Operand.func 173), args := #[Go.Operand.tmp 36], argTypes := #[3] }, type := 9, pos := "l3_fact.go:125", after := #[{ on := 21, ground := Go.Ground.data }, { on := 14, ground := Go.Ground.chain }], guard := none }) rfl (fun K hK => ?_) AllReadyH.nil
        go_simp
        refine (sword_lit f.s _ s1 s4 hx3.out _).mono ?_; rintro e w3 ⟨rfl, b3⟩
        go_wp2_with fail
        refine hK.out _ _ ?_ (fun hHeld => ?_)
        · (try dsimp only); (refine ⟨?_, ?_, ?_, ?_⟩ <;> (repeat (first | with_reducible assumption | with_reducible refine keep_drew ?_ | with_reducible refine keep_below (by assumption) ?_)))
        clear hK K
        (try simp only [Act.put, List.setIfInBounds_toArray, List.set_cons_zero, List.set_cons_succ])
        refine wpAnyH_take (i := 23) (oi := { dst := some 38, op := Go.Op.binOp Go.BinOp.add 9 (Go.Operand.tmp 31) (Go.Operand.tmp 37) 9, type := 9, pos := "l3_fact.go:125", after := #[{ on := 16, ground := Go.Ground.data }, { on := 22, ground := Go.Ground.data }], guard := none }) (v := ?_) rfl (by kernel_rfl) (by kernel_rfl) (by kernel_rfl) (fun _ _ _ h => h) (Or.inl ⟨by rfl, ?_⟩) (by assumption) ?_
        rotate_left 1
        · (intro w hSw; (try dsimp only at hSw); go_simp; try with_reducible rfl)
        (try simp only [Act.put, List.setIfInBounds_toArray, List.set_cons_zero, List.set_cons_succ])
        refine wpAnyH_take (i := 24) (oi := { dst := some 3, op := Go.Op.assign (Go.Operand.tmp 38), type := 9, pos := "l3_fact.go:125", after := #[{ on := 23, ground := Go.Ground.data }, { on := 22, ground := Go.Ground.chain }, { on := 0, ground := Go.Ground.phase }, { on := 1, ground := Go.Ground.phase }, { on := 2, ground := Go.Ground.phase }, { on := 3, ground := Go.Ground.phase }, { on := 4, ground := Go.Ground.phase }, { on := 5, ground := Go.Ground.phase }, { on := 6, ground := Go.Ground.phase }, { on := 7, ground := Go.Ground.phase }, { on := 8, ground := Go.Ground.phase }, { on := 9, ground := Go.Ground.phase }, { on := 10, ground := Go.Ground.phase }, { on := 11, ground := Go.Ground.phase }, { on := 12, ground := Go.Ground.phase }, { on := 13, ground := Go.Ground.phase }, { on := 14, ground := Go.Ground.phase }, { on := 15, ground := Go.Ground.phase }, { on := 16, ground := Go.Ground.phase }, { on := 17, ground := Go.Ground.phase }, { on := 18, ground := Go.Ground.phase }, { on := 19, ground := Go.Ground.phase }, { on := 20, ground := Go.Ground.phase }, { on := 21, ground := Go.Ground.phase }, { on := 22, ground := Go.Ground.phase }, { on := 23, ground := Go.Ground.phase }], guard := none }) (v := ?_) rfl (by kernel_rfl) (by kernel_rfl) (by kernel_rfl) (fun _ _ _ h => h) (Or.inl ⟨by rfl, ?_⟩) (by assumption) ?_
        rotate_left 1
        · (intro w hSw; (try dsimp only at hSw); go_simp; try with_reducible rfl)
        (try simp only [Act.put, List.setIfInBounds_toArray, List.set_cons_zero, List.set_cons_succ])
        refine wpAnyH_done (by kernel_rfl) ?_ _
        have B3 := btrans (btrans (btrans (qd hb) b1) b2) b3
        have d3 := keep_below b3 (keep_below b2 (keep_below b1 (keep_drew c3)))
        clear hHeld b1 b2 b3 c0 c1 c2 c3 hb
        cases hg : f.g
        · have hE : Hid (bs (ttx (seqF F (k + 1))) = y0 ++ x1 ++ bs [58] ++ x2 ++ bs [58] ++ x3) := by
            unfold Hid
            rw [hs.out, hft.out, hg, if_neg (by simp), bs_nil]
            simp [ByteArray.append_assoc]
          rw [hg] at d3
          clear hs hft hg hx1 hx2 hx3
          go_wp2
          go_roundw
          case rel => exact ⟨k + 1, _, by go_num, by omega, rfl, hE, B3⟩
          case measure => simp [intOf]; omega
        · have hE : Hid (bs (ttx (seqF F (k + 1))) = y0 ++ x1 ++ bs [58] ++ x2 ++ bs [58] ++ x3 ++ bs [42]) := by
            unfold Hid
            rw [hs.out, hft.out, hg, if_pos rfl]
            simp [ByteArray.append_assoc]
          rw [hg] at d3
          clear hs hft hg hx1 hx2 hx3
          go_wp2
          go_roundw
          case rel => exact ⟨k + 1, _, by go_num, by omega, rfl, hE, B3⟩
          case measure => simp [intOf]; omega
    · obtain rfl : k = len := by omega
      go_wp2
      go_ret
      exact ⟨by rw [hy.out]; rfl, hb⟩
set_option maxRecDepth 20000 in
theorem stext_any (a : Option Addr) (len cap : Nat) (F : Nat → Fc) (w : World) (h : FSl w a len F) (hl : len ≤ 1048576) :
    Calls Tryz.prog 64 #[.slice a len cap] w fun e w' => e = .returned (.string (txt len F)) ∧ Below w.heap.size w w' := by
  cases hok0 : tokB len F
  · have hok : Hid (tokB len F = false) := hok0
    have e1 : txt len F = bs [] := by unfold txt; rw [hok0]; rfl
    rw [e1]
    clear hok0 e1
    go_enter Tryz.func64, Tryz.ntmps64
    go_wp2_with fail
    refine (stok_litt a len cap F false _ h hl hok.out).mono ?_
    rintro r w1 ⟨rfl, b1⟩
    go_wp2
    go_ret
    exact ⟨rfl, b1⟩
  · have hok : Hid (tokB len F = true) := hok0
    by_cases h0 : len = 0
    · have e1 : txt len F = bs [45] := by unfold txt; rw [hok0, if_pos rfl, if_pos h0]
      rw [e1]
      subst h0
      clear hok0 e1
      go_enter Tryz.func64, Tryz.ntmps64
      go_wp2_with fail
      refine (stok_litt a 0 cap F true _ h hl hok.out).mono ?_
      rintro r w1 ⟨rfl, b1⟩
      go_wp2
      go_ret
      exact ⟨rfl, b1⟩
    · have e1 : txt len F = bs (ttx (seqF F len)) := by unfold txt; rw [hok0, if_pos rfl, if_neg h0]
      have hj : ¬ (len : Int) = 0 := by omega
      have hjb : ((len : Int) == 0) = false := by simpa using hj
      have hl3 := fun w h => l3text_any a len cap F w h hok0
      rw [e1]
      obtain ⟨y, hy⟩ : ∃ y, Hid (bs (ttx (seqF F len)) = y) := ⟨_, rfl⟩
      rw [hy.out] at hl3
      have hl3' : Hid _ := hl3
      clear hok0 e1 hl3
      go_enter Tryz.func64, Tryz.ntmps64
      go_wp2_with fail
      refine (stok_litt a len cap F true _ h hl hok.out).mono ?_
      rintro r w1 ⟨rfl, b1⟩
      go_wp2_with fail
      refine (hl3'.out _ (h.below b1)).mono ?_
      rintro r w2 ⟨rfl, b2⟩
      have B2 := btrans b1 b2
      go_wp2
      go_ret
      exact ⟨by rw [hy.out]; rfl, B2⟩
end Go.Proofs.YtoimfgfhlbkdcaaGreatDoor
/- Numbers of any size as texts; a node's line on the board. -/
namespace Go.Proofs.YtoimfgfhlbkdcaaGreatDoor
open Go.ChangeShapes Go.WideShapes Go.ChangeAt Go.RowKit
attribute [local go_sem ↓] Go.wp_at_zero Go.wp_at_succ
theorem itoaZ (n : Int) (x : ByteArray) (h0 : -9223372036854775807 ≤ n) (h1 : n ≤ 9223372036854775807) (hx : bs (Lib.itoa n) = x) (w : World) (ht : Tabs w) :
    Calls Tryz.prog 36 #[.int .i64 n] w fun e w' => e = .returned (.string x) ∧ Below w.heap.size w w' :=
  hx ▸ (Tryz.strconv_Itoa n (by omega) (by omega) w ht.p).mono (by rintro e w' ⟨rfl, k, os, rfl⟩; exact ⟨rfl, below_grow k os⟩)
theorem itoaZ_len {n : Int} (h0 : -9223372036854775807 ≤ n) (h1 : n ≤ 9223372036854775807) : (bs (Lib.itoa n)).size ≤ 20 := by
  unfold Lib.itoa
  split
  · have := dd_lenk 19 n.natAbs (by omega) (by omega)
    simp [ByteArray.size]
    omega
  · have := dd_lenk 19 n.toNat (by omega) (by omega)
    simp [ByteArray.size]
    omega
set_option maxRecDepth 20000 in
theorem decZ (n : Int) (x : ByteArray) (h0 : -9223372036854775807 ≤ n) (h1 : n ≤ 9223372036854775807) (hx : bs (Lib.itoa n) = x) (w : World) :
    Calls Tryz.prog 33 #[.int .i64 n] w fun e w' => e = .returned (.string x) ∧ Below w.heap.size w w' := by
  subst hx
  by_cases hn : n < 0
  · have e1 : Lib.itoa n = 45 :: Lib.decDigits n.natAbs := by unfold Lib.itoa; rw [if_pos hn]
    have ih := dec_any (n.natAbs + 1) n.natAbs (by omega) (by omega)
    have e2 : ((n.natAbs : Nat) : Int) = -n := by omega
    rw [e2] at ih
    have hl := dd_lenk 19 n.natAbs (by omega) (by omega)
    rw [e1]
    obtain ⟨x, hx⟩ : ∃ x, Hid (bs (Lib.decDigits n.natAbs) = x) := ⟨_, rfl⟩
    have z1 : x.size ≤ 19 := by rw [← hx.out]; simpa [ByteArray.size] using hl
    rw [hx.out] at ih
    have ih' : Hid (∀ w, Calls Tryz.prog 33 #[.int .i64 (-n)] w fun e w' => e = .returned (.string x) ∧ Below w.heap.size w w') := ih
    have e3 : Hid (bs (45 :: Lib.decDigits n.natAbs) = bs [45] ++ x) := by
      unfold Hid
      rw [← hx.out, bs_append]
      rfl
    rw [e3.out]
    have i0 : ¬ n < -9223372036854775807 := by omega
    have k1 : ¬ 9223372036854775807 < 1 + x.size := by omega
    have r1 : IntKind.i64.wrap (-n) = -n := by rw [IntKind.wrap_i64]; omega
    clear ih e1 e2 hl hx e3
    go_enter Tryz.func33, Tryz.ntmps33
    go_wp2_with fail
    refine (ih'.out _).mono ?_
    rintro e w1 ⟨rfl, b1⟩
    go_wp2
    go_ret
    exact ⟨rfl, b1⟩
  · have e1 : Lib.itoa n = Lib.decDigits n.toNat := by unfold Lib.itoa; rw [if_neg hn]
    have ih := dec_any (n.toNat + 1) n.toNat (by omega) (by omega) w
    have e2 : ((n.toNat : Nat) : Int) = n := by omega
    rw [e2] at ih
    rw [e1]
    exact ih
theorem txt_len (len : Nat) (F : Nat → Fc) : (txt len F).size ≤ 200 := by
  unfold txt
  cases h : tokB len F
  · simp [ByteArray.size]
  · rw [if_pos rfl]
    split
    · simp [ByteArray.size]
    · have h8 := tok_len h
      have := ttx_len F len (tok_all h).1
      simp [ByteArray.size]
      omega
theorem textI (a : Option Addr) (len cap : Nat) (F : Nat → Fc) (x : ByteArray) (w : World) (h : FSl w a len F) (hl : len ≤ 1048576) (ht : Tabs w) (hx : txt len F = x) :
    Calls Tryz.prog 28 #[.slice a len cap] w fun e w' => e = .returned (.string x) ∧ Below w.heap.size w w' := hx ▸ text_any a len cap F w h hl ht
theorem textS (a : Option Addr) (len cap : Nat) (F : Nat → Fc) (x : ByteArray) (w : World) (h : FSl w a len F) (hl : len ≤ 1048576) (hx : txt len F = x) :
    Calls Tryz.prog 64 #[.slice a len cap] w fun e w' => e = .returned (.string x) ∧ Below w.heap.size w w' := hx ▸ stext_any a len cap F w h hl
end Go.Proofs.YtoimfgfhlbkdcaaGreatDoor
/- A strings.Builder that lies in a page: what is written, how long it is, what it comes to; a line. -/
namespace Go.Proofs.YtoimfgfhlbkdcaaGreatDoor
open Go.ChangeShapes Go.WideShapes Go.ChangeAt Go.RowKit
attribute [local go_sem ↓] Go.wp_at_zero Go.wp_at_succ
/-- a page at block b: its builder's own address (p), its bytes, how many lines -/
def PgP (B b : Nat) (p : Value) (bs : List Value) (n : Int) (w : World) : Prop :=
  B ≤ b ∧ ∃ v, w.heap[b]? = some (.cells #[p, v, .int .i64 n] 77 (0, 0)) ∧ w.ownsRow B 5 1 v bs.length bs ∧ v.ownBlock ≠ some b
/-- never written, or written -/
def Pg (B b : Nat) (bs : List Value) (n : Int) (w : World) : Prop := PgP B b (.pointer none) bs n w ∨ PgP B b (.pointer (some ⟨b, 0, none⟩)) bs n w
theorem Pg.at {B b : Nat} {bs : List Value} {n : Int} {w : World} (h : Pg B b bs n w) : ∃ p, PgP B b p bs n w := by
  rcases h with h | h <;> exact ⟨_, h⟩
theorem PgP.lt {B b : Nat} {p : Value} {bs : List Value} {n : Int} {w : World} (h : PgP B b p bs n w) : b < w.heap.size := by
  obtain ⟨_, v, hb, _⟩ := h
  exact lt_of_block hb
theorem PgP.below {B b : Nat} {p : Value} {bs : List Value} {n : Int} {w w' : World} (h : PgP B b p bs n w) (hb : Below w.heap.size w w') : PgP B b p bs n w' := by
  have hl := h.lt
  obtain ⟨h1, v, h2, h3, h4⟩ := h
  exact ⟨h1, v, (hb.block b hl).trans h2, own_below h3 hb, h4⟩
theorem Pg.below {B b : Nat} {bs : List Value} {n : Int} {w w' : World} (h : Pg B b bs n w) (hb : Below w.heap.size w w') : Pg B b bs n w' := h.imp (·.below hb) (·.below hb)
theorem pg_set {w : World} {b o : Nat} {v : Value} {cs : Array Value} {t : TypeId} {fr : Nat × Nat} (hb : w.heap[b]? = some (.cells cs t fr)) : (w.setCell ⟨b, o, none⟩ v).heap[b]? = some (.cells (cs.setIfInBounds o v) t fr) := by
  simp [World.setCell, Array.getElem?_modify, hb]
theorem own_set {w : World} {B b o : Nat} {v v' : Value} {n : Nat} {xs : List Value} (h : w.ownsRow B 5 1 v n xs) (hne : v.ownBlock ≠ some b) : (w.setCell ⟨b, o, none⟩ v').ownsRow B 5 1 v n xs :=
  h.kept (row := some b) ⟨rfl, rfl, rfl, by simp [World.setCell], fun k _ hk => Below.heap_setCell _ _ _ _ (fun e => hk (by simp [e]))⟩ (.inr hne)
/-- blocks that are no rows of bytes, but for one, are kept -/
def Kp (b : Nat) (w w' : World) : Prop := ∀ k cs t fr, w.heap[k]? = some (.cells cs t fr) → t ≠ 5 → k ≠ b → w'.heap[k]? = some (.cells cs t fr)
theorem Kp.refl (b : Nat) (w : World) : Kp b w w := fun _ _ _ _ h _ _ => h
theorem Kp.trans {b : Nat} {w w' w'' : World} (h : Kp b w w') (h' : Kp b w' w'') : Kp b w w'' := fun k cs t fr e ht hk => h' k cs t fr (h k cs t fr e ht hk) ht hk
theorem Kp.set (b o : Nat) (v : Value) (w : World) : Kp b w (w.setCell ⟨b, o, none⟩ v) := fun k cs t fr e _ hk => by
  simp only [World.setCell, Array.getElem?_modify]
  rw [if_neg (fun h => hk h.symm)]
  exact e
theorem own_kind {w : World} {B : Nat} {v : Value} {n : Nat} {xs : List Value} (h : w.ownsRow B 5 1 v n xs) {k : Nat} {cs : Array Value} {t : TypeId} {fr : Nat × Nat} (e : w.heap[k]? = some (.cells cs t fr)) (ht : t ≠ 5) : v.ownBlock ≠ some k := by
  rcases h.2 with ⟨rfl, _⟩ | ⟨g, cap, cur, rfl, _, hg, _⟩
  · simp [Value.ownBlock]
  · intro h'
    have : g = k := by simpa [Value.ownBlock] using h'
    subst this
    rw [hg] at e
    injection e with e
    injection e with _ e2
    exact ht e2.symm
theorem sizeB : (Tryz.prog.info? 75).map (·.size) = some 2 := by kernel_rfl
theorem liesB : liesAt Tryz.prog Tryz.prog.depth 77 (3 / Tryz.prog.cellsOf 77) 0 75 1 = true := by kernel_rfl
theorem infoByte : (Tryz.prog.info? 5).map (fun i => (i.zero, i.size, i.bytes)) = some (some (.int .u8 0), 1, 1) := by kernel_rfl
theorem mixedOk : Tryz.prog.follows .mixedOrders = true := by kernel_rfl
theorem cellsByte : Tryz.prog.cellsOf 5 = 1 := by kernel_rfl
set_option maxHeartbeats 1000000 in
set_option maxRecDepth 100000 in
theorem check_used (b : Nat) (w : World) (h0 : w.cell? ⟨b, 0, none⟩ = some (.pointer (some ⟨b, 0, none⟩))) :
    Calls Tryz.prog 120 #[.pointer (some ⟨b, 0, none⟩)] w fun e w' => e = .returned (.tuple #[]) ∧ w' = w := by
  obtain ⟨j, hj, _⟩ := Option.map_eq_some_iff.1 sizeB
  go_enter Tryz.func120, Tryz.ntmps120
  go_wp2
  rw [Lib.run_neq_ptr_same w _ Tryz.underlying72 hj]
  go_wp2
  go_end0
  exact ⟨rfl, rfl⟩
set_option maxHeartbeats 1000000 in
set_option maxRecDepth 100000 in
theorem check_fresh (b : Nat) (w : World) (h0 : w.cell? ⟨b, 0, none⟩ = some (.pointer none)) (hsh : w.shape? b = some (77, 3)) (hfz : w.frozen? ⟨b, 0, none⟩ = false) :
    Calls Tryz.prog 120 #[.pointer (some ⟨b, 0, none⟩)] w fun e w' => e = .returned (.tuple #[]) ∧ w' = w.setCell ⟨b, 0, none⟩ (.pointer (some ⟨b, 0, none⟩)) := by
  obtain ⟨j, hj, hjs⟩ := Option.map_eq_some_iff.1 sizeB
  go_enter Tryz.func120, Tryz.ntmps120
  go_wp2
  rw [Lib.run_to_unsafe w ⟨b, 0, none⟩ Tryz.underlying72 Tryz.underlying201 hj (by rw [hjs]; decide) hsh (Nat.zero_lt_succ 2)]
  simp only [Result.andThen]
  rw [Oper.upon_value]
  go_wp2
  rw [run_callFunc_extern Tryz.func174 (by kernel_rfl) (by kernel_rfl) (by kernel_rfl) (e := Extern.AbiNoEscape.same) (by kernel_rfl)]
  rw [Lib.run_noEscape]
  simp only [Result.andThen]
  rw [Oper.upon_value]
  go_wp2
  rw [Lib.run_from_unsafe w ⟨b, 0, none⟩ Tryz.underlying201 Tryz.underlying72 hj hsh liesB]
  simp only [Result.andThen]
  rw [Oper.upon_value]
  go_wp2
  go_end0
  exact ⟨rfl, rfl⟩
theorem check_any (B b : Nat) (bs : List Value) (n : Int) (w : World) (h : Pg B b bs n w) :
    Calls Tryz.prog 120 #[.pointer (some ⟨b, 0, none⟩)] w fun e w' => e = .returned (.tuple #[]) ∧ PgP B b (.pointer (some ⟨b, 0, none⟩)) bs n w' ∧ Below B w w' ∧ Kp b w w' := by
  rcases h with ⟨hB, v, hb, ho, hne⟩ | h
  · refine (check_fresh b w (by rw [Lib.cell_of_heap hb]; rfl) (by simp [World.shape?, hb]) (Lib.frozen_of_heap hb 0)).mono ?_
    rintro e w' ⟨rfl, rfl⟩
    exact ⟨rfl, ⟨hB, v, pg_set hb, own_set ho hne, hne⟩, (Below.refl B w).setCell (p := ⟨b, 0, none⟩) hB _, Kp.set b 0 _ w⟩
  · obtain ⟨hB, v, hb, ho, hne⟩ := h
    refine (check_used b w (by rw [Lib.cell_of_heap hb]; rfl)).mono ?_
    rintro e w' ⟨rfl, rfl⟩
    exact ⟨rfl, ⟨hB, v, hb, ho, hne⟩, Below.refl B _, Kp.refl b _⟩
set_option maxHeartbeats 2000000 in
set_option maxRecDepth 100000 in
theorem wstr_any (B b : Nat) (bs : List Value) (n : Int) (s : ByteArray) (w : World) (h : Pg B b bs n w) (hlen : bs.length + s.size ≤ 140737488355328) (hBw : B ≤ w.heap.size) :
    Calls Tryz.prog 65 #[.pointer (some ⟨b, 0, none⟩), .string s] w fun e w' => e = .returned (.tuple #[.int .i64 s.size, .nilIface]) ∧ PgP B b (.pointer (some ⟨b, 0, none⟩)) (bs ++ Lib.strCells s) n w' ∧ Below B w w' ∧ Kp b w w' := by
  obtain ⟨i0, hi, hz0, hz1, hz2⟩ := info_parts infoByte
  go_enter Tryz.func65, Tryz.ntmps65
  go_wp2_with (go_at_call 120; refine (check_any B b bs n _ h).mono ?_)
  rintro e w1 ⟨rfl, h1, hb1, kp1⟩
  have hlt := h1.lt
  obtain ⟨hB, v, hbk, hown, hne⟩ := h1
  have c0 : w1.cell? ⟨b, 0, none⟩ = some (.pointer (some ⟨b, 0, none⟩)) := by rw [Lib.cell_of_heap hbk]; rfl
  have c1 : w1.cell? ⟨b, 1, none⟩ = some v := by rw [Lib.cell_of_heap hbk]; rfl
  go_wp2_with (at_builtin; refine Lib.wpList_append_own_string _ rfl _ _ 73 9 rfl B 5 i0 Tryz.underlying73 Tryz.underlying9 hi hz0 hz1 hz2 _ _ _ rfl hown s rfl ?c3 ?c4 ?c5 ?_)
  case c3 => unfold maxLen; omega
  case c4 => omega
  case c5 => have := hb1.size; omega
  intro v' w2 hown' hgrow _
  have hb2 : w2.heap[b]? = some (.cells #[.pointer (some ⟨b, 0, none⟩), v, .int .i64 n] 77 (0, 0)) := by
    rw [hgrow.block b hlt (fun e => hne e.symm)]
    exact hbk
  have d0 : w2.cell? ⟨b, 0, none⟩ = some (.pointer (some ⟨b, 0, none⟩)) := by rw [Lib.cell_of_heap hb2]; rfl
  have d1 : w2.cell? ⟨b, 1, none⟩ = some v := by rw [Lib.cell_of_heap hb2]; rfl
  have f1 : w2.frozen? ⟨b, 1, none⟩ = false := Lib.frozen_of_heap hb2 1
  obtain ⟨ao, n', cap, rfl⟩ : ∃ ao n' cap, v' = .slice ao n' cap := by
    rcases hown'.2 with ⟨hv, _⟩ | ⟨g, cap, cur, hv, _⟩
    · exact ⟨_, _, _, hv⟩
    · exact ⟨_, _, _, hv⟩
  have hne' := Lib.ownBlock_ne hown' hb2 (by decide)
  have hown2 : w2.ownsRow B 5 1 (.slice ao n' cap) (bs ++ Lib.strCells s).length (bs ++ Lib.strCells s) := by simpa [Lib.strCells_length] using hown'
  have fin : PgP B b (.pointer (some ⟨b, 0, none⟩)) (bs ++ Lib.strCells s) n (w2.setCell ⟨b, 1, none⟩ (.slice ao n' cap)) := ⟨hB, _, pg_set hb2, own_set hown2 hne', hne'⟩
  have fin2 : Below B w (w2.setCell ⟨b, 1, none⟩ (.slice ao n' cap)) := (hb1.grown hgrow (by have := hb1.size; omega) (fun k hk => (hown.lt k hk).1)).setCell (p := ⟨b, 1, none⟩) hB _
  have fin3 : Kp b w (w2.setCell ⟨b, 1, none⟩ (.slice ao n' cap)) := kp1.trans (Kp.trans (fun k cs t fr e ht _ => (hgrow.block k (lt_of_block e) (fun e' => own_kind hown e ht e'.symm)).trans e) (Kp.set b 1 _ w2))
  clear hown' hgrow hown hbk hb2 hown2 hne' hne h hb1 kp1
  go_wp2
  go_ret2
  exact ⟨rfl, fin, fin2, fin3⟩
set_option maxHeartbeats 2000000 in
set_option maxRecDepth 100000 in
theorem wbyte_any (B b : Nat) (bs : List Value) (n : Int) (c : Int) (w : World) (h : Pg B b bs n w) (hlen : bs.length + 1 ≤ 140737488355328) (hBw : B ≤ w.heap.size) :
    Calls Tryz.prog 66 #[.pointer (some ⟨b, 0, none⟩), .int .u8 c] w fun e w' => e = .returned .nilIface ∧ PgP B b (.pointer (some ⟨b, 0, none⟩)) (bs ++ [Value.int .u8 c]) n w' ∧ Below B w w' ∧ Kp b w w' := by
  obtain ⟨i0, hi, hz0, hz1, hz2⟩ := info_parts infoByte
  go_enter Tryz.func66, Tryz.ntmps66
  go_wp2_with (go_at_call 120; refine (check_any B b bs n _ h).mono ?_)
  rintro e w1 ⟨rfl, h1, hb1, kp1⟩
  have hlt := h1.lt
  obtain ⟨hB, v, hbk, hown, hne⟩ := h1
  have c0 : w1.cell? ⟨b, 0, none⟩ = some (.pointer (some ⟨b, 0, none⟩)) := by rw [Lib.cell_of_heap hbk]; rfl
  have c1 : w1.cell? ⟨b, 1, none⟩ = some v := by rw [Lib.cell_of_heap hbk]; rfl
  go_wp2_with (at_builtin; refine wpList_append_own _ rfl _ _ 73 rfl B 5 i0 (.int .u8 0) 1 1 Tryz.underlying73 hi hz0 hz1 hz2 rfl (by decide) _ _ _ rfl (hown.alloc _) ⟨w1.heap.size, 0, none⟩ 1 1 [.int .u8 c] rfl rfl ?c1 ?c2 ?c3 ?c4 ?c5 ?_)
  case c1 =>
    intro j u hj
    match j, hj with
    | 0, hj => simp at hj; subst hj; simp [Addr.add]
  case c2 => intro u hu; simp at hu; subst hu; rfl
  case c3 => unfold maxLen; omega
  case c4 => omega
  case c5 => have := hb1.size; simp; omega
  intro v' w2 hown' hgrow _
  have hb2 : w2.heap[b]? = some (.cells #[.pointer (some ⟨b, 0, none⟩), v, .int .i64 n] 77 (0, 0)) := by
    rw [hgrow.block b (by simp; omega) (fun e => hne e.symm), Lib.alloc_old w1 _ b hlt]
    exact hbk
  have d0 : w2.cell? ⟨b, 0, none⟩ = some (.pointer (some ⟨b, 0, none⟩)) := by rw [Lib.cell_of_heap hb2]; rfl
  have d1 : w2.cell? ⟨b, 1, none⟩ = some v := by rw [Lib.cell_of_heap hb2]; rfl
  have f1 : w2.frozen? ⟨b, 1, none⟩ = false := Lib.frozen_of_heap hb2 1
  obtain ⟨ao, n', cap, rfl⟩ : ∃ ao n' cap, v' = .slice ao n' cap := by
    rcases hown'.2 with ⟨hv, _⟩ | ⟨g, cap, cur, hv, _⟩
    · exact ⟨_, _, _, hv⟩
    · exact ⟨_, _, _, hv⟩
  have hne' := Lib.ownBlock_ne hown' hb2 (by decide)
  have hown2 : w2.ownsRow B 5 1 (.slice ao n' cap) (bs ++ [Value.int .u8 c]).length (bs ++ [Value.int .u8 c]) := by simpa using hown'
  have fin : PgP B b (.pointer (some ⟨b, 0, none⟩)) (bs ++ [Value.int .u8 c]) n (w2.setCell ⟨b, 1, none⟩ (.slice ao n' cap)) := ⟨hB, _, pg_set hb2, own_set hown2 hne', hne'⟩
  have fin2 : Below B w (w2.setCell ⟨b, 1, none⟩ (.slice ao n' cap)) := ((hb1.alloc (by have := hb1.size; omega) _).grown hgrow (by have := hb1.size; simp; omega) (fun k hk => (hown.lt k hk).1)).setCell (p := ⟨b, 1, none⟩) hB _
  have fin3 : Kp b w (w2.setCell ⟨b, 1, none⟩ (.slice ao n' cap)) := kp1.trans (Kp.trans (fun k cs t fr e ht _ => (hgrow.block k (by have := lt_of_block e; simp; omega) (fun e' => own_kind hown e ht e'.symm)).trans ((Lib.alloc_old w1 _ k (lt_of_block e)).trans e)) (Kp.set b 1 _ w2))
  clear hown' hgrow hown hbk hb2 hown2 hne' hne h hb1 kp1
  go_wp2
  go_ret
  exact ⟨rfl, fin, fin2, fin3⟩
set_option maxHeartbeats 1000000 in
set_option maxRecDepth 100000 in
theorem str_some (B b : Nat) (l : List UInt8) (n : Int) (w : World) (h : Pg B b (Lib.byteCells l) n w) (h0 : l ≠ []) :
    Calls Tryz.prog 38 #[.pointer (some ⟨b, 0, none⟩)] w fun e w' => e = .returned (.string ⟨l.toArray⟩) ∧ Below B w w' := by
  obtain ⟨p, hB, v, hbk, hown, hne⟩ := h.at
  have hl0 : l.length ≠ 0 := by simpa using h0
  rw [Lib.byteCells_length] at hown
  obtain ⟨g, cap, cur, rfl, hbg, hg, hnc, hcm, hcs, htake⟩ : ∃ g cap cur, v = .slice (some ⟨g, 0, none⟩) l.length cap ∧ B ≤ g ∧ w.heap[g]? = some (.cells cur 5 (0, 0)) ∧ l.length ≤ cap ∧ cap ≤ maxLen ∧ cur.size = cap * 1 ∧ cur.toList.take (l.length * 1) = Lib.byteCells l := by
    rcases hown.2 with ⟨_, hz⟩ | ⟨g, cap, cur, hv, r⟩
    · exact absurd hz hl0
    · exact ⟨g, cap, cur, hv, r⟩
  have c1 : w.drew.cell? ⟨b, 1, none⟩ = some (.slice (some ⟨g, 0, none⟩) l.length cap) := by
    have : w.drew.heap[b]? = some (.cells #[p, .slice (some ⟨g, 0, none⟩) l.length cap, .int .i64 n] 77 (0, 0)) := hbk
    rw [Lib.cell_of_heap this]; rfl
  have hSD : (Builtin.unsafeSliceData_ #[73] 122 #[.slice (some ⟨g, 0, none⟩) l.length cap]).run Tryz.prog w.drew = .ok (.pointer (some ⟨g, 0, none⟩)) w.drew :=
    Lib.run_unsafeSliceData_row _ _ _ _ _ _ (by omega)
  have hUS : (Builtin.unsafeString_ #[122, 3] 9 #[.pointer (some ⟨g, 0, none⟩), .int .i64 l.length]).run Tryz.prog w.drew = .ok (.string ⟨l.toArray⟩) (w.drew.freeze ⟨g, 0, none⟩ l.length) := by
    refine Lib.run_unsafeString_row w.drew 122 3 9 5 Tryz.underlying122 cellsByte g cur.size (by have hg' : w.drew.heap[g]? = some (.cells cur 5 (0, 0)) := hg; simp [World.shape?, hg']) l h0 (by omega) (by unfold maxLen at hcm; omega) ?_
    intro j x hx
    have := hown.cells (g := g) rfl j (.int .u8 x.toNat) (by simp [Lib.byteCells, hx])
    exact this
  have mixed := mixedOk
  go_enter Tryz.func38, Tryz.ntmps38
  go_wp2
  go_region_o
  all_goals (go_wp2; go_ret; exact ⟨rfl, Lib.below_freeze (Below.drew (Below.refl B w)) (p := ⟨g, 0, none⟩) hbg _⟩)
set_option maxHeartbeats 2000000 in
set_option maxRecDepth 100000 in
theorem str_nil (B b : Nat) (p : Value) (n : Int) (w : World) (hbk : w.heap[b]? = some (.cells #[p, .slice none 0 0, .int .i64 n] 77 (0, 0))) :
    Calls Tryz.prog 38 #[.pointer (some ⟨b, 0, none⟩)] w fun e w' => e = .returned (.string ⟨#[]⟩) ∧ Below B w w' := by
  have hUS : ∀ (W : World) (q : Option Addr), (Builtin.unsafeString_ #[122, 3] 9 #[.pointer q, .int .i64 0]).run Tryz.prog W = .ok (.string .empty) W := fun W q => Lib.run_unsafeString_none W _ _ _ q
  have c1 : w.drew.cell? ⟨b, 1, none⟩ = some (.slice none 0 0) := by
    have : w.drew.heap[b]? = some (.cells #[p, .slice none 0 0, .int .i64 n] 77 (0, 0)) := hbk
    rw [Lib.cell_of_heap this]; rfl
  have hSD : (Builtin.unsafeSliceData_ #[73] 122 #[.slice none 0 0]).run Tryz.prog w.drew = .ok (.pointer none) w.drew := rfl
  have mixed := mixedOk
  go_enter Tryz.func38, Tryz.ntmps38
  go_wp2
  go_region_o
  all_goals (go_wp2; go_ret; exact ⟨rfl, Below.drew (Below.refl B w)⟩)
/-- pieces, one behind the other -/
def cat : List ByteArray → List Value
  | [] => []
  | x :: r => Lib.strCells x ++ cat r
def szs : List ByteArray → Nat
  | [] => 0
  | x :: r => x.size + szs r
theorem cat_len : ∀ l, (cat l).length = szs l
  | [] => rfl
  | x :: r => by simp [cat, szs, Lib.strCells_length, cat_len r]
theorem cat_snoc (x : ByteArray) : ∀ l, cat (l ++ [x]) = cat l ++ Lib.strCells x
  | [] => by simp [cat]
  | y :: r => by simp [cat, cat_snoc x r]
theorem szs_take : ∀ (l : List ByteArray) (k : Nat), szs (l.take k) ≤ szs l
  | [], k => by simp [szs]
  | x :: r, 0 => by simp [szs]
  | x :: r, k + 1 => by
    have := szs_take r k
    simp only [List.take_succ_cons, szs]
    omega
theorem szs_snoc (x : ByteArray) : ∀ l, szs (l ++ [x]) = szs l + x.size
  | [] => by simp [szs]
  | y :: r => by
    have := szs_snoc x r
    simp only [List.cons_append, szs]
    omega
set_option maxHeartbeats 2000000 in
set_option maxRecDepth 100000 in
theorem line_any (B b g : Nat) (bs : List Value) (n : Int) (xs : List ByteArray) (w : World) (h : Pg B b bs n w) (hg : w.heap[g]? = some (.cells (xs.map Value.string).toArray 9 (0, 0))) (hne : g ≠ b) (hx : xs.length ≤ 4) (hlen : bs.length + szs xs + 1 ≤ 140737488355328) (hBw : B ≤ w.heap.size) (n0 : 0 ≤ n) (n1 : n ≤ 1048576) :
    Calls Tryz.prog 35 #[.pointer (some ⟨b, 0, none⟩), .slice (some ⟨g, 0, none⟩) xs.length xs.length] w fun e w' => e = .returned (.tuple #[]) ∧ Pg B b (bs ++ cat xs ++ [Value.int .u8 10]) (n + 1) w' ∧ Below B w w' := by
  go_enter Tryz.func35, Tryz.ntmps35
  go_wp2_with fail
  go_loopw [5, 8] (fun _ i wr => ∃ k : Nat, k ≤ xs.length ∧ i = .int .i64 k ∧ Pg B b (bs ++ cat (xs.take k)) n wr ∧ Below B w wr ∧ Kp b w wr) (fun _ i _ => xs.length - (intOf i).toNat)
  case atStart => exact ⟨0, Nat.zero_le _, rfl, by simpa [cat] using h, Below.refl _ _, Kp.refl _ _⟩
  case round =>
    obtain ⟨k, hk, rfl, hp, hb, hkp⟩ := hrel
    by_cases hlt : k < xs.length
    · have i0 : (0 : Int) ≤ (k : Int) := by omega
      have i1 : (k : Int) < (xs.length : Int) := by omega
      obtain ⟨x, hxk⟩ : ∃ x, xs[k]? = some x := ⟨xs[k], List.getElem?_eq_getElem hlt⟩
      have hc : wr.cell? ⟨g, 0 + k * 1, none⟩ = some (.string x) := by
        rw [Lib.cell_of_heap (hkp g _ _ _ hg (by decide) hne)]
        simp [hxk]
      have ht : Hid (xs.take (k + 1) = xs.take k ++ [x]) := by
        unfold Hid
        rw [List.take_add_one, hxk]
        rfl
      have hsz : szs (xs.take k) + x.size ≤ szs xs := by
        have := szs_take xs (k + 1)
        rw [ht.out, szs_snoc] at this
        exact this
      have hl : (bs ++ cat (xs.take k)).length + x.size ≤ 140737488355328 := by
        rw [List.length_append, cat_len]
        omega
      have hw := fun w1 (h1 : Pg B b (bs ++ cat (xs.take k)) n w1) (h2 : B ≤ w1.heap.size) => wstr_any B b (bs ++ cat (xs.take k)) n x w1 h1 hl h2
      have hBr : B ≤ wr.heap.size := by have := hb.size; omega
      have hfin : Hid (bs ++ cat (xs.take (k + 1)) = bs ++ cat (xs.take k) ++ Lib.strCells x) := by
        unfold Hid
        rw [ht.out, cat_snoc, List.append_assoc]
      have hw' : Hid _ := hw wr hp hBr
      clear hsz hl ht hxk hw
      simp only [Nat.zero_add, Nat.mul_one] at hc
      go_wp2_with fail
      refine Calls.mono hw'.out ?_
      rintro e w1 ⟨rfl, h1, hb1, hk1⟩
      have B1 : Below B w w1 := hb.trans hb1
      have K1 := hkp.trans hk1
      clear hb1 hk1 hw' hp hb hkp hc
      go_wp2
      go_roundw
      case rel => exact ⟨k + 1, by omega, by go_num, .inr (by rw [hfin.out]; exact h1), B1, K1⟩
      case measure => simp [intOf]; omega
    · obtain rfl : k = xs.length := by omega
      rw [List.take_length] at hp
      have hl : (bs ++ cat xs).length + 1 ≤ 140737488355328 := by
        rw [List.length_append, cat_len]
        omega
      have hBr : B ≤ wr.heap.size := by have := hb.size; omega
      have hw' : Hid _ := wbyte_any B b (bs ++ cat xs) n 10 wr hp hl hBr
      clear hl hg
      go_wp2_with fail
      refine Calls.mono hw'.out ?_
      rintro e w2 ⟨rfl, ⟨hB, v, hb2, ho2, hne2⟩, hbb, _⟩
      have c2 : w2.cell? ⟨b, 2, none⟩ = some (.int .i64 n) := by rw [Lib.cell_of_heap hb2]; rfl
      have f2 : w2.frozen? ⟨b, 2, none⟩ = false := Lib.frozen_of_heap hb2 2
      have fin : Pg B b (bs ++ cat xs ++ [Value.int .u8 10]) (n + 1) (w2.setCell ⟨b, 2, none⟩ (.int .i64 (n + 1))) := .inr ⟨hB, v, pg_set hb2, own_set ho2 hne2, hne2⟩
      have fin2 : Below B w (w2.setCell ⟨b, 2, none⟩ (.int .i64 (n + 1))) := (hb.trans hbb).setCell (p := ⟨b, 2, none⟩) hB _
      clear hbb hb ho2 hne2 hb2 hp h hw' hkp
      go_wp2
      go_end0
      exact ⟨rfl, fin, fin2⟩
end Go.Proofs.YtoimfgfhlbkdcaaGreatDoor
