/- Tables as lists: a fact more; what is there of a node. -/
import Derived.Test.YthekjfdggfbelaaGreatGatesF
import Derived.Test.YthekjfdggfbelaaGreatShelf
import Derived.Maps.OwnSet
import Derived.Lib.OwnBridge
import Derived.Sort.OwnSortedInts
import Derived.Sort.LotA
import Derived.Test.YthekjfdggfbelaaGreatSq
namespace Go.Proofs.YthekjfdggfbelaaGreat
/-- a fact overrides another one of its node -/
def ovr (f g : Fc) : Bool := l3B f.i f.s f.g g.i g.s g.g
/-- ascending by nodes -/
def Asc (T : List Fc) : Prop := T.Pairwise fun f g => f.n < g.n
def fok (f : Fc) : Bool := fokB f.n f.i f.s
/-- a table with a fact more -/
def tput : List Fc → Fc → List Fc
  | [], f => [f]
  | g :: r, f => if g.n < f.n then g :: tput r f else if g.n = f.n then (if ovr f g then f :: r else g :: r) else f :: g :: r
def tget (T : List Fc) (k : Int) : Option Fc := T.find? fun g => decide (g.n = k)
/-- whether that says anything new -/
def tnew (T : List Fc) (f : Fc) : Bool := match tget T f.n with
  | some g => ovr f g
  | none => true
theorem tget_cons (g : Fc) (r : List Fc) (k : Int) : tget (g :: r) k = if g.n = k then some g else tget r k := by
  unfold tget
  rw [List.find?_cons]
  by_cases h : g.n = k <;> simp [h]
theorem tget_mem {T : List Fc} {k : Int} {g : Fc} (h : tget T k = some g) : g ∈ T ∧ g.n = k := by
  have h1 := List.mem_of_find?_eq_some h
  have h2 := List.find?_some h
  exact ⟨h1, by simpa using h2⟩
theorem tget_none {T : List Fc} {k : Int} (h : tget T k = none) : ∀ g ∈ T, g.n ≠ k := by
  intro g hg
  have := List.find?_eq_none.1 h g hg
  simpa using this
theorem tget_low {r : List Fc} {k : Int} (h : ∀ g ∈ r, k < g.n) : tget r k = none := by
  unfold tget
  rw [List.find?_eq_none]
  intro g hg
  have := h g hg
  simp
  omega
theorem asc_cons {g : Fc} {r : List Fc} : Asc (g :: r) ↔ (∀ x ∈ r, g.n < x.n) ∧ Asc r := List.pairwise_cons
theorem tput_mem {T : List Fc} {f x : Fc} (h : x ∈ tput T f) : x = f ∨ x ∈ T := by
  induction T with
  | nil => simp [tput] at h; exact .inl h
  | cons g r ih =>
    unfold tput at h
    split at h
    · rcases List.mem_cons.1 h with h | h
      · exact .inr (by simp [h])
      · exact (ih h).imp id (fun h => List.mem_cons_of_mem _ h)
    · split at h
      · split at h
        · rcases List.mem_cons.1 h with h | h
          · exact .inl h
          · exact .inr (List.mem_cons_of_mem _ h)
        · exact .inr h
      · rcases List.mem_cons.1 h with h | h
        · exact .inl h
        · exact .inr h
theorem tput_asc {T : List Fc} {f : Fc} (h : Asc T) : Asc (tput T f) := by
  induction T with
  | nil => simp [tput, Asc]
  | cons g r ih =>
    obtain ⟨h1, h2⟩ := asc_cons.1 h
    unfold tput
    split
    · rename_i hlt
      refine asc_cons.2 ⟨fun x hx => ?_, ih h2⟩
      rcases tput_mem hx with rfl | hx
      · exact hlt
      · exact h1 x hx
    · split
      · rename_i heq
        split
        · exact asc_cons.2 ⟨fun x hx => by have := h1 x hx; omega, h2⟩
        · exact h
      · refine asc_cons.2 ⟨fun x hx => ?_, h⟩
        rcases List.mem_cons.1 hx with rfl | hx
        · omega
        · have := h1 x hx; omega
theorem tget_tput {T : List Fc} {f : Fc} (h : Asc T) (k : Int) : tget (tput T f) k = if k = f.n ∧ tnew T f = true then some f else tget T k := by
  induction T with
  | nil =>
    have e0 : tnew [] f = true := rfl
    rw [e0, show tput [] f = [f] from rfl, tget_cons]
    by_cases e : f.n = k
    · rw [if_pos e, if_pos ⟨e.symm, rfl⟩]
    · rw [if_neg e, if_neg (fun h => e h.1.symm)]
  | cons g r ih =>
    obtain ⟨h1, h2⟩ := asc_cons.1 h
    unfold tput
    split
    · rename_i hlt
      have e : tnew (g :: r) f = tnew r f := by
        unfold tnew
        rw [tget_cons, if_neg (by omega)]
      rw [tget_cons, ih h2, e, tget_cons]
      by_cases hk : g.n = k
      · rw [if_pos hk, if_pos hk, if_neg (by omega)]
      · rw [if_neg hk, if_neg hk]
    · rename_i hnl
      split
      · rename_i heq
        have e : tnew (g :: r) f = ovr f g := by
          unfold tnew
          rw [tget_cons, if_pos heq]
        rw [e]
        split
        · rename_i ho
          rw [tget_cons, tget_cons]
          by_cases hk : f.n = k
          · rw [if_pos hk, if_pos ⟨hk.symm, ho⟩]
          · rw [if_neg hk, if_neg (fun h => hk h.1.symm), if_neg (by omega)]
        · rename_i ho
          rw [if_neg (fun h => ho h.2)]
      · rename_i hne
        have e : tnew (g :: r) f = true := by
          unfold tnew
          rw [tget_cons, if_neg hne, tget_low (fun x hx => by have := h1 x hx; omega)]
        rw [e, tget_cons]
        by_cases hk : f.n = k
        · rw [if_pos hk, if_pos ⟨hk.symm, rfl⟩]
        · rw [if_neg hk, if_neg (fun h => hk h.1.symm)]
theorem tput_old {T : List Fc} {f g : Fc} (h : Asc T) (hg : tget T f.n = some g) : (tput T f).map (·.n) = T.map (·.n) := by
  induction T with
  | nil => simp [tget] at hg
  | cons x r ih =>
    obtain ⟨h1, h2⟩ := asc_cons.1 h
    rw [tget_cons] at hg
    unfold tput
    split
    · rename_i hlt
      rw [if_neg (by omega)] at hg
      simp [ih h2 hg]
    · rename_i hnl
      split
      · rename_i heq
        split
        · simp [heq]
        · rfl
      · rename_i hne
        rw [if_neg hne] at hg
        have := tget_low (r := r) (k := f.n) (fun y hy => by have := h1 y hy; omega)
        rw [this] at hg
        cases hg
theorem tput_no {T : List Fc} {f g : Fc} (h : Asc T) (hg : tget T f.n = some g) (ho : ovr f g = false) : tput T f = T := by
  induction T with
  | nil => simp [tget] at hg
  | cons x r ih =>
    obtain ⟨h1, h2⟩ := asc_cons.1 h
    rw [tget_cons] at hg
    unfold tput
    split
    · rename_i hlt
      rw [if_neg (by omega)] at hg
      rw [ih h2 hg]
    · rename_i hnl
      split
      · rename_i heq
        rw [if_pos heq] at hg
        cases hg
        simp [ho]
      · rename_i hne
        rw [if_neg hne] at hg
        have := tget_low (r := r) (k := f.n) (fun y hy => by have := h1 y hy; omega)
        rw [this] at hg
        cases hg
theorem tput_perm {T : List Fc} {f : Fc} (hg : tget T f.n = none) : (tput T f).Perm (T ++ [f]) := by
  induction T with
  | nil => exact List.Perm.refl _
  | cons x r ih =>
    rw [tget_cons] at hg
    by_cases hx : x.n = f.n
    · rw [if_pos hx] at hg; cases hg
    · rw [if_neg hx] at hg
      unfold tput
      split
      · exact (ih hg).cons x
      · have : (f :: (x :: r)).Perm ((x :: r) ++ [f]) := (List.perm_append_comm (l₁ := [f]) (l₂ := x :: r))
        exact this
theorem tput_len {T : List Fc} {f : Fc} (hg : tget T f.n = none) : (tput T f).length = T.length + 1 := by
  have := (tput_perm hg).length_eq
  simpa using this
theorem tput_len_le (T : List Fc) (f : Fc) : (tput T f).length ≤ T.length + 1 := by
  induction T with
  | nil => simp [tput]
  | cons g r ih =>
    unfold tput
    split
    · simp; omega
    · split
      · split <;> simp
      · simp
/-- an ascending list of nodes 0 to 7 is short -/
theorem asc_short : ∀ (T : List Fc) (lo : Nat), Asc T → (∀ f ∈ T, (lo : Int) ≤ f.n ∧ f.n ≤ 7) → T.length + lo ≤ 8 ∨ T = []
  | [], _, _, _ => .inr rfl
  | g :: r, lo, h, hall => by
    obtain ⟨h1, h2⟩ := asc_cons.1 h
    have hg := hall g (by simp)
    rcases asc_short r (lo + 1) h2 (fun f hf => by have := h1 f hf; have := hall f (by simp [hf]); omega) with h | h
    · left; simp; omega
    · left; subst h; simp; omega
end Go.Proofs.YthekjfdggfbelaaGreat
/- The register: a map of facts behind its order, in memory. -/
namespace Go.Proofs.YthekjfdggfbelaaGreat
open Go.ChangeShapes Go.WideShapes Go.ChangeAt Go.RowKit
attribute [local go_sem ↓] Go.wp_at_zero Go.wp_at_succ
/-- a fact as a value, and as it reads -/
abbrev fval (f : Fc) : Value := .agg #[.int .i64 f.n, .int .i64 f.i, .int .i64 f.s, .bool f.g]
def fd (f : Fc) : DataW Unit := .agg [.lit (.int .i64 f.n), .lit (.int .i64 f.i), .lit (.int .i64 f.s), .lit (.bool f.g)]
def fE : Value → Option (DataW Unit × List MemPlace)
  | .agg ⟨[.int .i64 a, .int .i64 b, .int .i64 c, .bool g]⟩ => some (fd ⟨a, b, c, g⟩, [])
  | _ => none
theorem fE_mk (f : Fc) : fE (fval f) = some (fd f, []) := rfl
theorem fE_inv {v : Value} {z : DataW Unit × List MemPlace} (h : fE v = some z) : ∃ f, v = fval f ∧ z = (fd f, []) := by
  unfold fE at h
  split at h
  · simp only [Option.some.injEq] at h
    exact ⟨⟨_, _, _, _⟩, rfl, h.symm⟩
  · cases h
theorem fd_inj {f g : Fc} (h : fd f = fd g) : f = g := by
  obtain ⟨a, b, c, d⟩ := f
  obtain ⟨a', b', c', d'⟩ := g
  simpa [fd] using h
/-- the map holds the table -/
def Kept (D : DataW Unit) (T : List Fc) : Prop := ∀ k : Int, Maps.has D (.int .i64 k) = (tget T k).isSome ∧ D.atKey (.int .i64 k) (fd Fc.zero) = fd ((tget T k).getD Fc.zero)
theorem kept_nil : Kept (.map []) [] := fun _ => ⟨rfl, rfl⟩
theorem kept_put {D : DataW Unit} {T : List Fc} {f : Fc} (hD : Maps.IsMap D) (h : Kept D T) (ha : Asc T) (hn : tnew T f = true) : Kept (D.put (.int .i64 f.n) (fd f)) (tput T f) := fun k => by
  rw [tget_tput ha]
  by_cases e : k = f.n
  · subst e
    rw [if_pos ⟨rfl, hn⟩]
    exact ⟨Maps.has_put_same hD (by trivial) _, Maps.atKey_put_same hD (by trivial) _ _⟩
  · rw [if_neg (fun h => e h.1)]
    have hne : (Lit.int .i64 k) ≠ .int .i64 f.n := fun h => e (by simpa using h)
    rw [Maps.has_put_other hne, Maps.atKey_put_other hne]
    exact h k
theorem keyed3 : Maps.Keyed Tryz.prog 3 := Maps.int_keyed Tryz.underlying3
theorem zero30 (w : World) : (zeroValue 59).run Tryz.prog w = .ok (fval Fc.zero) w := by kernel_rfl
theorem wpList_lookup_fact {w : World} {ops : Array Oper} {rest : List Oper} {o : Oper} {a : Act} {Q : Exit → Act → World → Prop} (hg : o.guard = none) (m x : Operand) (hop : o.op = Op.lookup 185 m x true)
    (b n : Nat) (D : DataW Unit) (T : List Fc) (hm : a.eval m = .map (some b)) (hown : w.ownsMap Tryz.prog 3 fE b n D) (hT : Kept D T) (k : Int) (hx : a.eval x = .int .i64 k) (hk : (Lit.int .i64 k).wf = true)
    (g : Fc) (q : Bool) (hgk : (tget T k).getD Fc.zero = g) (hq : (tget T k).isSome = q)
    (hK : wpList Tryz.prog ops Q rest (a.put o.dst (.tuple #[fval g, .bool q])) w) :
    wpList Tryz.prog ops Q (o :: rest) a w :=
  wpList_lookup_own_ok w hg m x 185 hop 3 59 keyed3 Tryz.underlying185 fE (zero30 w) (fd Fc.zero) [] rfl b n D hm hown _ _ hx (Maps.keyOf_int_mk Tryz.underlying3 hk) (fun v ps hv => by
    obtain ⟨f, rfl, hz⟩ := fE_inv hv
    simp only [Prod.mk.injEq] at hz
    rw [(hT k).2, hgk] at hz
    rw [(hT k).1, hq, ← fd_inj hz.1]
    exact hK)
/-- a register that holds a table -/
def Reg (w : World) (base rb c : Nat) (T : List Fc) : Prop :=
  ∃ v mb D, w.heap[rb]? = some (.cells #[v, .map (some mb)] 187 (0, 0)) ∧ base ≤ rb ∧ base ≤ mb ∧ w.ownsRow base 3 1 v T.length (lv (T.map (·.n))) ∧ w.ownsMap Tryz.prog 3 fE mb c D ∧ Kept D T
theorem Reg.below {w w' : World} {base rb c : Nat} {T : List Fc} (h : Reg w base rb c T) (hb : Below w.heap.size w w') : Reg w' base rb c T := by
  obtain ⟨v, mb, D, h1, h2, h3, h4, h5, h6⟩ := h
  have hm := h5
  obtain ⟨es, clock, e1, r⟩ := h5
  exact ⟨v, mb, D, (hb.block rb (lt_of_block h1)).trans h1, h2, h3, own_below h4 hb, ⟨es, clock, (hb.block mb hm.lt).trans e1, r⟩, h6⟩
end Go.Proofs.YthekjfdggfbelaaGreat
/- The library's sort at the register's order. -/
namespace Go.Proofs.YthekjfdggfbelaaGreat
open Go.ChangeShapes Go.WideShapes Go.ChangeAt Go.RowKit
attribute [local go_sem ↓] Go.wp_at_zero Go.wp_at_succ
open Go.Shelf Go.Lib Go.Sort
set_option maxRecDepth 20000 in
theorem siT : ∃ i, Tryz.prog.info? 24 = some i ∧ i.desc = .slice 3 := ⟨(Tryz.prog.info? 24).get (by kernel_rfl), by kernel_rfl, by kernel_rfl⟩
set_option maxRecDepth 20000 in
theorem siE : ∃ i, Tryz.prog.info? 3 = some i ∧ i.size = 1 ∧ i.hasPointers = false ∧ i.bytes = 8 := ⟨(Tryz.prog.info? 3).get (by kernel_rfl), by kernel_rfl, by kernel_rfl, by kernel_rfl, by kernel_rfl⟩
set_option maxRecDepth 20000 in
set_option maxHeartbeats 2000000 in
/-- the closure: it reads the box, the register's order, and two of its row -/
theorem sless_any (bx rb blk c size : Nat) (W : World) (G : Nat → Int) (hb : W.cell? ⟨bx, 0, none⟩ = some (.pointer (some ⟨rb, 0, none⟩))) (hs : W.cell? ⟨rb, 0, none⟩ = some (.slice (some ⟨blk, 0, none⟩) size c))
    (hc : ∀ t, t < size → W.cell? ⟨blk, t, none⟩ = some (.int .i64 (G t))) (i j : Nat) (hi : i < size) (hj : j < size) :
    Calls Tryz.prog 177 #[.int .i64 i, .int .i64 j, .pointer (some ⟨bx, 0, none⟩)] W fun e w' => e = .returned (.bool (decide (G i < G j))) ∧ ∃ q, w' = W.drewN q := by
  have ci := hc i hi
  have cj := hc j hj
  go_enter Tryz.func177, Tryz.ntmps177
  go_wp2
  go_quiet (fail)
  go_wp2
  go_ret
  exact ⟨rfl, nq, rfl⟩
set_option maxRecDepth 20000 in
set_option maxHeartbeats 2000000 in
theorem sort_two (bx rb g cap base : Nat) (L : List Int) (mv : Value) (w : World) (h2 : 2 ≤ L.length) (h12 : L.length ≤ 12) (hrb : w.heap[rb]? = some (.cells #[.slice (some ⟨g, 0, none⟩) L.length cap, mv] 187 (0, 0))) (hbx : w.heap[bx]? = some (.cells #[.pointer (some ⟨rb, 0, none⟩)] 178 (0, 0)))
    (hown : w.ownsRow base 3 1 (.slice (some ⟨g, 0, none⟩) L.length cap) L.length (lv L)) :
    Calls Tryz.prog 176 #[.iface 24 (.slice (some ⟨g, 0, none⟩) L.length cap), .func (.func 177) #[] #[.pointer (some ⟨bx, 0, none⟩)]] w fun e w' => e = .returned (.tuple #[]) ∧
      w'.ownsRow base 3 1 (.slice (some ⟨g, 0, none⟩) L.length cap) L.length (lv (L.mergeSort fun x y => decide (x ≤ y))) ∧ w.grownBy w' (some g) := by
  obtain ⟨iT, hiT, hdT⟩ := siT
  obtain ⟨iE, hiE, hsz, hpt, hby⟩ := siE
  have hK : Lib.swapperK L.toArray.size iE 2 = 5 := by
    have c : (L.length == 0) = false := by rw [beq_eq_false_iff_ne]; omega
    have d : (L.length == 1) = false := by rw [beq_eq_false_iff_ne]; omega
    simp [Lib.swapperK, hpt, hby, c, d]
  rcases hown.2 with ⟨h0, _⟩ | ⟨g1, cap1, cur, hv, hbase, hb, h1, h2', h3, h4⟩
  · cases h0
  cases hv
  have hH : Holds (Value.int .i64) w g 0 L.toArray := holds_of_blockI hb (by simpa [lv] using h4)
  have hgl : g < w.heap.size := lt_of_block hb
  have n1 : rb ≠ g := fun e => by subst e; rw [hrb] at hb; simp at hb
  have n2 : bx ≠ g := fun e => by subst e; rw [hbx] at hb; simp at hb
  have hless : LessReads Tryz.prog 177 #[.pointer (some ⟨bx, 0, none⟩)] (Value.int .i64) ltInt g 0 L.toArray.size w := by
    intro m os dk hs i j hi hj
    have e : sortWorld (Value.int .i64) w g 0 m dk os = putRow (Value.int .i64) (grow (Sort.ahead w m) os) g 0 dk := by
      unfold sortWorld; rw [putRow_grow _ (Sort.ahead w m) _ g 0 _ hgl]
    have hHg : Holds (Value.int .i64) (grow (Sort.ahead w m) os) g 0 L.toArray := holds_grow _ _ _ g 0 _ hgl (holds_ahead _ _ _ _ _ _ hH)
    refine sless_any bx rb g cap L.toArray.size _ (fun t => dk[t]!) ?_ ?_ (fun t ht => ?_) i j hi hj
    · rw [e, cell?_putRow_other _ _ g 0 dk _ (Or.inl (by show bx ≠ g; omega)), cell?_grow _ _ _ (lt_of_block hbx)]
      show w.cell? _ = _
      simp [World.cell?, hbx]
    · rw [e, cell?_putRow_other _ _ g 0 dk _ (Or.inl (by show rb ≠ g; omega)), cell?_grow _ _ _ (lt_of_block hrb)]
      show w.cell? _ = _
      simp [World.cell?, hrb]
    · rw [e]
      have := cell?_putRow _ _ g 0 _ dk hHg hs t (by omega)
      rw [Nat.zero_add] at this
      exact this
  have hS := Any.sort_Slice_small_sorted Tryz.laysGg6 24 3 iT iE hiT hdT (by kernel_rfl) hiE 2 (fun _ => by kernel_rfl) hsz (fun _ => by kernel_rfl) (Value.int .i64) (fun _ => rfl) ltInt swo_ltInt 177 _
    (enters_of Tryz.func177 (by kernel_rfl) rfl) g 0 cap L.toArray (by simpa using h2) (by simpa using h12) 187 (by rw [hK]; kernel_rfl) true
    (fun args W => run_callFunc_extern Tryz.func187 (by kernel_rfl) (by kernel_rfl) (by kernel_rfl) (e := Extern.ReflectliteSwapper.swap true) (by kernel_rfl) args W) w hless hH hgl
  change Calls Tryz.prog 176 _ _ _ at hS
  refine hS.mono ?_
  rintro e w' ⟨rfl, d', n, os, hp, hso, rfl⟩
  have hd : d' = (L.mergeSort fun x y => decide (x ≤ y)).toArray := by
    have h := sorted_unique_holds (lt := ltInt) swo_ltInt (fun x y h1 h2 => by simp only [ltInt, decide_eq_false_iff_not] at h1 h2; omega) L.toArray d' hp hso
    have e : (fun x y : Int => !ltInt y x) = fun x y => decide (x ≤ y) := by
      funext x y
      simp only [ltInt]
      by_cases h : x ≤ y
      · first | (simp [h]; done) | (simp [h]; omega)
      · first | (simp [h]; done) | (simp [h]; omega)
    rw [e] at h
    rw [← h]
  subst hd
  exact ⟨rfl, ownsRow_sortedI (by simp [List.length_mergeSort]) hbase hb h1 h2' h3, grownBy_sortedI _⟩
set_option maxRecDepth 20000 in
theorem sort_one (bx g cap base : Nat) (x : Int) (w : World) (hown : w.ownsRow base 3 1 (.slice (some ⟨g, 0, none⟩) 1 cap) 1 (lv [x])) :
    Calls Tryz.prog 176 #[.iface 24 (.slice (some ⟨g, 0, none⟩) 1 cap), .func (.func 177) #[] #[.pointer (some ⟨bx, 0, none⟩)]] w fun e w' => e = .returned (.tuple #[]) ∧
      w'.ownsRow base 3 1 (.slice (some ⟨g, 0, none⟩) 1 cap) 1 (lv [x]) ∧ w.grownBy w' (some g) := by
  obtain ⟨iT, hiT, hdT⟩ := siT
  obtain ⟨iE, hiE, _, _, _⟩ := siE
  have hK : Lib.swapperK 1 iE 2 = 2 := by simp [Lib.swapperK]
  have hS := Any.sort_Slice_tiny Tryz.laysGg6 24 3 iT iE hiT hdT (by kernel_rfl) hiE 2 (fun _ => by kernel_rfl) (some ⟨g, 0, none⟩) 1 cap (by omega) 184 (by rw [hK]; kernel_rfl) (.func 177) #[] #[.pointer (some ⟨bx, 0, none⟩)] w
  change Calls Tryz.prog 176 _ _ _ at hS
  refine hS.mono ?_
  rintro e w' ⟨rfl, os, rfl⟩
  have hg : w.grownBy (grow w os) (some g) := ⟨rfl, rfl, rfl, by simp, fun k hk _ => heap_grow_old _ _ hk⟩
  exact ⟨rfl, hown.kept (row := none) ⟨rfl, rfl, rfl, by simp, fun k hk _ => heap_grow_old _ _ hk⟩ (.inr (by simp [Value.ownBlock])), hg⟩
set_option maxRecDepth 20000 in
/-- at whatever short list -/
theorem sort_any (bx rb cap base n : Nat) (a : Option Addr) (L : List Int) (mv : Value) (w : World) (h1 : 1 ≤ n) (h12 : n ≤ 12) (hrb : w.heap[rb]? = some (.cells #[.slice a n cap, mv] 187 (0, 0))) (hbx : w.heap[bx]? = some (.cells #[.pointer (some ⟨rb, 0, none⟩)] 178 (0, 0)))
    (hown : w.ownsRow base 3 1 (.slice a n cap) n (lv L)) :
    Calls Tryz.prog 176 #[.iface 24 (.slice a n cap), .func (.func 177) #[] #[.pointer (some ⟨bx, 0, none⟩)]] w fun e w' => e = .returned (.tuple #[]) ∧
      w'.ownsRow base 3 1 (.slice a n cap) n (lv (L.mergeSort fun x y => decide (x ≤ y))) ∧ w.grownBy w' (Value.slice a n cap).ownBlock := by
  have hl : L.length = n := by have := hown.1; simp [lv] at this; omega
  rcases own_shape hown with ⟨e, h0⟩ | ⟨g, c, e, _⟩
  · omega
  · simp only [Value.slice.injEq, true_and] at e
    obtain ⟨rfl, rfl⟩ := e
    subst hl
    match L, h1, hrb, h12, hown with
    | [x], _, _, _, hown =>
      have := sort_one bx g cap base x w hown
      simpa [Value.ownBlock] using this
    | x :: y :: r, _, hrb, h12, hown => exact sort_two bx rb g cap base (x :: y :: r) mv w (by simp) h12 hrb hbx hown
end Go.Proofs.YthekjfdggfbelaaGreat
/- The register takes a fact: the program's way. -/
namespace Go.Proofs.YthekjfdggfbelaaGreat
open Go.ChangeShapes Go.WideShapes Go.ChangeAt Go.RowKit
attribute [local go_sem ↓] Go.wp_at_zero Go.wp_at_succ
set_option maxRecDepth 20000 in
theorem over_any (f g : Fc) (w : World) :
    Calls Tryz.prog 225 #[fval f, fval g] w fun r w' => r = .returned (.bool (overB f.n f.i f.s f.g g.n g.i g.s g.g)) ∧ Below w.heap.size w w' := by
  go_enter Tryz.func225, Tryz.ntmps225
  go_wp2_with (go_at_call 100; refine (fover_any _ _ _ _ _ _ _ _ _).mono ?_; rintro e w' ⟨rfl, b1⟩)
  go_ret
  exact ⟨rfl, btrans (balloc _ (balloc _ (Below.refl _ _))) b1⟩
set_option maxRecDepth 20000 in
theorem over_ok {f g : Fc} (hf : fok f = true) (hg : fok g = true) (e : g.n = f.n) : overB f.n f.i f.s f.g g.n g.i g.s g.g = ovr f g := by
  unfold fok at hf hg
  unfold overB ovr
  rw [hf, hg]
  simp [e]
set_option maxRecDepth 20000 in
theorem cell_block {w : World} {b o : Nat} {cs : Array Value} {t : TypeId} {v : Value} (h : w.heap[b]? = some (.cells cs t (0, 0))) (hc : cs[o]? = some v) : w.cell? ⟨b, o, none⟩ = some v := by
  simp [World.cell?, h, hc]
set_option maxRecDepth 20000 in
theorem fok_wf {f : Fc} (h : fok f = true) : (Lit.int .i64 f.n).wf = true := by
  unfold fok fokB inb at h
  simp at h
  exact WalkArith.wf_i64 (by omega)
set_option maxRecDepth 20000 in
theorem map_ne {w : World} {mb c b o : Nat} {D : DataW Unit} {v : Value} (hm : w.ownsMap Tryz.prog 3 fE mb c D) (h : w.cell? ⟨b, o, none⟩ = some v) : b ≠ mb := fun e => by
  subst e
  obtain ⟨es, cl, h1, _⟩ := hm
  simp [World.cell?, h1] at h
set_option maxRecDepth 20000 in
theorem keep_map {w w' : World} {mb c b o : Nat} {D : DataW Unit} {v : Value} (hm : w.ownsMap Tryz.prog 3 fE mb c D) (hg : w.grownBy w' (some mb)) (h : w.cell? ⟨b, o, none⟩ = some v) : w'.cell? ⟨b, o, none⟩ = some v := hg.cell h (by simpa using map_ne hm h)
set_option maxRecDepth 20000 in
theorem keep_block {w w' : World} {b : Nat} {o : Obj} {r : Option Nat} (hg : w.grownBy w' r) (hr : some b ≠ r) (h : w.heap[b]? = some o) : w'.heap[b]? = some o := (hg.block b (lt_of_block h) hr).trans h
set_option maxRecDepth 20000 in
theorem block_ne {w : World} {mb c b : Nat} {D : DataW Unit} {cs : Array Value} {t : TypeId} {fz : Nat × Nat} (hm : w.ownsMap Tryz.prog 3 fE mb c D) (h : w.heap[b]? = some (.cells cs t fz)) : some b ≠ some mb := fun e => by
  simp only [Option.some.injEq] at e
  subst e
  obtain ⟨es, cl, h1, _⟩ := hm
  rw [h] at h1
  cases h1
set_option maxRecDepth 20000 in
theorem step_upd {w : World} {ops : Array Oper} {o : Oper} {a : Act} {K : Act → World → Prop} {Q : Exit → Act → World → Prop} {E : Prop} (hgd : o.guard = none) (m x v : Operand) (ho : o.op = .mapUpdate 185 m x v)
    (b n : Nat) (D : DataW Unit) (hm : a.eval m = .map (some b)) (hown : w.ownsMap Tryz.prog 3 fE b n D) (hn : n < maxLen) (k : Int) (hx : a.eval x = .int .i64 k) (hk : (Lit.int .i64 k).wf = true) (f : Fc) (hv : a.eval v = fval f)
    (h : ∀ w', w'.ownsMap Tryz.prog 3 fE b (n + 1) (D.put (.int .i64 k) (fd f)) → w.grownBy w' (some b) → K (a.put o.dst undef) w') :
    if Region.wanted o (yielded ops a.tmps) = true then Oper.wp Tryz.prog o a w K Q else E := by
  have hw : Region.wanted o (yielded ops a.tmps) = true := by simp [Region.wanted, hgd]
  rw [if_pos hw]
  obtain ⟨w', hrun, r1, r2⟩ := hown.update keyed3 Tryz.underlying185 hn (Maps.keyOf_int_mk Tryz.underlying3 hk) (fE_mk f)
  unfold Oper.wp
  simp [execOp, ho, hm, hx, hv, hrun, Result.andThen]
  exact h _ r1 r2
set_option maxRecDepth 20000 in
theorem map_below {w w' : World} {mb c : Nat} {D : DataW Unit} (h : w.ownsMap Tryz.prog 3 fE mb c D) (hb : Below w.heap.size w w') : w'.ownsMap Tryz.prog 3 fE mb c D := by
  have hl := h.lt
  obtain ⟨es, clock, e1, r⟩ := h
  exact ⟨es, clock, (hb.block mb hl).trans e1, r⟩
set_option maxRecDepth 20000 in
theorem own_not_map {w : World} {base mb c n : Nat} {D : DataW Unit} {v : Value} {xs : List Value} (h : w.ownsRow base 3 1 v n xs) (hm : w.ownsMap Tryz.prog 3 fE mb c D) : v.ownBlock = none ∨ v.ownBlock ≠ some mb := by
  rcases h.2 with ⟨rfl, _⟩ | ⟨g, cap, cur, rfl, _, hh, _⟩
  · exact .inl rfl
  · exact .inr (block_ne hm hh)
set_option maxRecDepth 20000 in
theorem step_app1 {w : World} {ops : Array Oper} {o : Oper} {a : Act} {K : Act → World → Prop} {Q : Exit → Act → World → Prop} {E : Prop} (hgd : o.guard = none) (s x : Operand)
    (ho : o.op = .call { callee := .builtin .append, args := #[s, x], argTypes := #[24, 24] })
    (base : Nat) (v : Value) (n : Nat) (L : List Int) (hs : a.eval s = v) (hown : w.ownsRow base 3 1 v n (lv L))
    (g : Nat) (k : Int) (hx : a.eval x = .slice (some ⟨g, 0, none⟩) 1 1) (hnew : w.cell? ⟨g, 0, none⟩ = some (.int .i64 k)) (hn : n ≤ 100) (hbase : base ≤ w.heap.size)
    (h : ∀ a' cap' w', w'.ownsRow base 3 1 (.slice a' (n + 1) cap') (n + 1) (lv (L ++ [k])) → w.grownBy w' v.ownBlock → K (a.put o.dst (.slice a' (n + 1) cap')) w') :
    if Region.wanted o (yielded ops a.tmps) = true then Oper.wp Tryz.prog o a w K Q else E := by
  have hw : Region.wanted o (yielded ops a.tmps) = true := by simp [Region.wanted, hgd]
  rw [if_pos hw]
  obtain ⟨ti, hi, hz0, hz1, hz2⟩ := info_parts info3
  refine wp_append_own w s x 24 ho base 3 ti (.int .i64 0) 1 8 Tryz.underlying24 hi hz0 hz1 hz2 rfl (by decide) v n (lv L) hs hown ⟨g, 0, none⟩ 1 1 (lv [k]) hx rfl (fun j u hj => ?_) (fun u hu => ?_) (by unfold maxLen; omega) (by omega) hbase (fun v' w' h1 h2 _ => ?_)
  · match j, hj with
    | 0, hj => simp [lv] at hj; subst hj; simpa [Addr.add] using hnew
  · obtain ⟨y, _, rfl⟩ := List.mem_map.1 hu
    rfl
  · rw [← show lv (L ++ [k]) = lv L ++ lv [k] by simp [lv]] at h1
    rcases own_shape h1 with ⟨_, h0⟩ | ⟨g', cap', rfl, _⟩
    · omega
    · exact h _ cap' w' h1 h2
set_option maxRecDepth 20000 in
theorem not_own {w : World} {base n b : Nat} {t : TypeId} {cs : Array Value} {fz : Nat × Nat} {v : Value} {xs : List Value} (h : w.ownsRow base 3 1 v n xs) (hb : w.heap[b]? = some (.cells cs t fz)) (ht : t ≠ 3) : some b ≠ v.ownBlock := fun e => by
  rcases h.2 with ⟨rfl, _⟩ | ⟨g, cap, cur, rfl, _, hh, _⟩
  · cases e
  · simp only [Value.ownBlock, Option.some.injEq] at e
    subst e
    rw [hb] at hh
    simp at hh
    exact ht hh.2.1
set_option maxRecDepth 20000 in
theorem own_not_map' {w : World} {base mb c n : Nat} {D : DataW Unit} {v : Value} {xs : List Value} (h : w.ownsRow base 3 1 v n xs) (hm : w.ownsMap Tryz.prog 3 fE mb c D) : some mb ≠ v.ownBlock := fun e => by
  rcases own_not_map h hm with h | h
  · rw [h] at e; cases e
  · exact h e.symm
set_option maxRecDepth 20000 in
theorem block_alloc {w : World} {b : Nat} {o : Obj} (x : Obj) (h : w.heap[b]? = some o) : (w.alloc x).heap[b]? = some o := (Below.heap_alloc w x b (lt_of_block h)).trans h
set_option maxRecDepth 20000 in
theorem block_set {w : World} {rb mb : Nat} {v v' : Value} (h : w.heap[rb]? = some (.cells #[v, .map (some mb)] 187 (0, 0))) : (w.setCell ⟨rb, 0, none⟩ v').heap[rb]? = some (.cells #[v', .map (some mb)] 187 (0, 0)) := by
  unfold World.setCell
  show (w.heap.modify rb _)[rb]? = _
  rw [Array.getElem?_modify, if_pos rfl, h]
  rfl
set_option maxRecDepth 20000 in
theorem sorted_new {T : List Fc} {f : Fc} (hT : Asc T) (hg : tget T f.n = none) : (T.map (·.n) ++ [f.n]).mergeSort (fun x y => decide (x ≤ y)) = (tput T f).map (·.n) := by
  have h1 : ((tput T f).map (·.n)).Perm (T.map (·.n) ++ [f.n]) := by simpa using (tput_perm hg).map (·.n)
  have h2 : ((tput T f).map (·.n)).Pairwise (fun x y => x ≤ y) := by
    rw [List.pairwise_map]
    exact (tput_asc hT).imp (fun {a b} h => by omega)
  have h3 : ((T.map (·.n) ++ [f.n]).mergeSort (fun x y => decide (x ≤ y))).Pairwise (fun x y => x ≤ y) := by
    have := List.pairwise_mergeSort (le := fun (x y : Int) => decide (x ≤ y)) (fun a b c h1 h2 => by simp at *; omega) (fun a b => by simp; omega) (T.map (·.n) ++ [f.n])
    exact this.imp (fun {a b} h => by simpa using h)
  exact List.Perm.eq_of_pairwise (fun a b _ _ h1 h2 => by omega) h3 h2 ((List.mergeSort_perm _ _).trans h1.symm)
set_option maxRecDepth 20000 in
set_option maxHeartbeats 4000000 in
theorem put_no (base rb c : Nat) (T : List Fc) (f g : Fc) (hg : tget T f.n = some g) (hgo : fok g = true) (ho : ovr f g = false) (w : World) (hR : Reg w base rb c T) (hf : fok f = true) (hb : base ≤ w.heap.size) (_hc : c < 1000000) :
    Calls Tryz.prog 170 #[.pointer (some ⟨rb, 0, none⟩), fval f] w fun e w' => e = .returned (.bool false) ∧ Reg w' base rb (c + 1) T ∧ Below base w w' := by
  have hm : ∀ (n i s : Int) (g : Bool) (w : World), (method 342 59 (.agg #[.int .i64 n, .int .i64 i, .int .i64 s, .bool g]) "loop.example/lightship/impl.key").run Tryz.prog w = .ok (224, .agg #[.int .i64 n, .int .i64 i, .int .i64 s, .bool g]) w := fun _ _ _ _ _ => by kernel_rfl
  have hm2 : ∀ (n i s : Int) (g : Bool) (w : World), (method 342 59 (.agg #[.int .i64 n, .int .i64 i, .int .i64 s, .bool g]) "loop.example/lightship/impl.overrides").run Tryz.prog w = .ok (225, .agg #[.int .i64 n, .int .i64 i, .int .i64 s, .bool g]) w := fun _ _ _ _ _ => by kernel_rfl
  go_enter Tryz.func170, Tryz.ntmps170
  go_wp2_with fail
  have p0 : ((w.alloc (.cells #[.pointer (some ⟨rb, 0, none⟩)] 178)).alloc (.cells #[.int .i64 f.n, .int .i64 f.i, .int .i64 f.s, .bool f.g] 59)).heap[w.heap.size]? = some (.cells #[.pointer (some ⟨rb, 0, none⟩)] 178 (0, 0)) := (Below.heap_alloc _ _ _ (by simp)).trans (heap_alloc_new _ _)
  have p1 : ((w.alloc (.cells #[.pointer (some ⟨rb, 0, none⟩)] 178)).alloc (.cells #[.int .i64 f.n, .int .i64 f.i, .int .i64 f.s, .bool f.g] 59)).heap[w.heap.size + 1]? = some (.cells #[.int .i64 f.n, .int .i64 f.i, .int .i64 f.s, .bool f.g] 59 (0, 0)) := by have := heap_alloc_new (w.alloc (.cells #[.pointer (some ⟨rb, 0, none⟩)] 178)) (.cells #[.int .i64 f.n, .int .i64 f.i, .int .i64 f.s, .bool f.g] 59); simpa using this
  have B0 : Below w.heap.size w ((w.alloc (.cells #[.pointer (some ⟨rb, 0, none⟩)] 178)).alloc (.cells #[.int .i64 f.n, .int .i64 f.i, .int .i64 f.s, .bool f.g] 59)) := balloc _ (balloc _ (Below.refl _ _))
  have z0 : ((w.alloc (.cells #[.pointer (some ⟨rb, 0, none⟩)] 178)).alloc (.cells #[.int .i64 f.n, .int .i64 f.i, .int .i64 f.s, .bool f.g] 59)).heap.size = w.heap.size + 2 := by simp
  generalize ((w.alloc (.cells #[.pointer (some ⟨rb, 0, none⟩)] 178)).alloc (.cells #[.int .i64 f.n, .int .i64 f.i, .int .i64 f.s, .bool f.g] 59)) = W0 at *
  refine (key_any _ _ _ _ _).mono ?_
  rintro e w1 ⟨rfl, b1⟩
  have q0 := (b1.block w.heap.size (by omega)).trans p0
  have q1 := (b1.block (w.heap.size + 1) (by omega)).trans p1
  have B1 := btrans B0 b1
  have R1 := hR.below B1
  have L1 : w.heap.size + 1 < w1.heap.size := lt_of_block q1
  clear p0 p1 b1 B0 z0 hm
  obtain ⟨v, mb, D, h1, h2, h3, h4, h5, h6⟩ := R1
  have c0 := cell_block (o := 0) q0 rfl
  have c1 := cell_block (o := 0) q1 rfl
  have c2 := cell_block (o := 1) q1 rfl
  have c3 := cell_block (o := 2) q1 rfl
  have c4 := cell_block (o := 3) q1 rfl
  have r0 := cell_block (o := 0) h1 rfl
  have r1 := cell_block (o := 1) h1 rfl
  have s1 := fun o => keep_alloc o c1
  have s2 := fun o => keep_alloc o c2
  have s3 := fun o => keep_alloc o c3
  have s4 := fun o => keep_alloc o c4
  go_wp2_with (at_lookup; refine wpList_lookup_fact rfl _ _ rfl mb c D T rfl h5 h6 f.n rfl (fok_wf hf) g true (by rw [hg]; rfl) (by rw [hg]; rfl) ?_)
  refine (over_any f g _).mono ?_
  rintro e w2 ⟨rfl, b2⟩
  rw [over_ok hf hgo (tget_mem hg).2, ho]
  go_wp2
  go_ret
  have B2 := btrans (balloc _ (Below.refl _ w1)) b2
  exact ⟨rfl, Reg.below ⟨v, mb, D, h1, h2, h3, h4, h5.mono (Nat.le_succ _), h6⟩ B2, (btrans B1 B2).mono hb⟩
set_option maxRecDepth 20000 in
set_option maxHeartbeats 4000000 in
theorem put_yes (base rb c : Nat) (T : List Fc) (f g : Fc) (hT : Asc T) (hg : tget T f.n = some g) (hgo : fok g = true) (ho : ovr f g = true) (w : World) (hR : Reg w base rb c T) (hf : fok f = true) (hb : base ≤ w.heap.size) (hc : c < 1000000) :
    Calls Tryz.prog 170 #[.pointer (some ⟨rb, 0, none⟩), fval f] w fun e w' => e = .returned (.bool true) ∧ Reg w' base rb (c + 1) (tput T f) ∧ Below base w w' := by
  have hm : ∀ (n i s : Int) (g : Bool) (w : World), (method 342 59 (.agg #[.int .i64 n, .int .i64 i, .int .i64 s, .bool g]) "loop.example/lightship/impl.key").run Tryz.prog w = .ok (224, .agg #[.int .i64 n, .int .i64 i, .int .i64 s, .bool g]) w := fun _ _ _ _ _ => by kernel_rfl
  have hm2 : ∀ (n i s : Int) (g : Bool) (w : World), (method 342 59 (.agg #[.int .i64 n, .int .i64 i, .int .i64 s, .bool g]) "loop.example/lightship/impl.overrides").run Tryz.prog w = .ok (225, .agg #[.int .i64 n, .int .i64 i, .int .i64 s, .bool g]) w := fun _ _ _ _ _ => by kernel_rfl
  go_enter Tryz.func170, Tryz.ntmps170
  go_wp2_with fail
  have p0 : ((w.alloc (.cells #[.pointer (some ⟨rb, 0, none⟩)] 178)).alloc (.cells #[.int .i64 f.n, .int .i64 f.i, .int .i64 f.s, .bool f.g] 59)).heap[w.heap.size]? = some (.cells #[.pointer (some ⟨rb, 0, none⟩)] 178 (0, 0)) := (Below.heap_alloc _ _ _ (by simp)).trans (heap_alloc_new _ _)
  have p1 : ((w.alloc (.cells #[.pointer (some ⟨rb, 0, none⟩)] 178)).alloc (.cells #[.int .i64 f.n, .int .i64 f.i, .int .i64 f.s, .bool f.g] 59)).heap[w.heap.size + 1]? = some (.cells #[.int .i64 f.n, .int .i64 f.i, .int .i64 f.s, .bool f.g] 59 (0, 0)) := by have := heap_alloc_new (w.alloc (.cells #[.pointer (some ⟨rb, 0, none⟩)] 178)) (.cells #[.int .i64 f.n, .int .i64 f.i, .int .i64 f.s, .bool f.g] 59); simpa using this
  have B0 : Below w.heap.size w ((w.alloc (.cells #[.pointer (some ⟨rb, 0, none⟩)] 178)).alloc (.cells #[.int .i64 f.n, .int .i64 f.i, .int .i64 f.s, .bool f.g] 59)) := balloc _ (balloc _ (Below.refl _ _))
  have z0 : ((w.alloc (.cells #[.pointer (some ⟨rb, 0, none⟩)] 178)).alloc (.cells #[.int .i64 f.n, .int .i64 f.i, .int .i64 f.s, .bool f.g] 59)).heap.size = w.heap.size + 2 := by simp
  generalize ((w.alloc (.cells #[.pointer (some ⟨rb, 0, none⟩)] 178)).alloc (.cells #[.int .i64 f.n, .int .i64 f.i, .int .i64 f.s, .bool f.g] 59)) = W0 at *
  refine (key_any _ _ _ _ _).mono ?_
  rintro e w1 ⟨rfl, b1⟩
  have q0 := (b1.block w.heap.size (by omega)).trans p0
  have q1 := (b1.block (w.heap.size + 1) (by omega)).trans p1
  have B1 := btrans B0 b1
  have R1 := hR.below B1
  have L1 : w.heap.size + 1 < w1.heap.size := lt_of_block q1
  clear p0 p1 b1 B0 z0 hm
  obtain ⟨v, mb, D, h1, h2, h3, h4, h5, h6⟩ := R1
  have c0 := cell_block (o := 0) q0 rfl
  have c1 := cell_block (o := 0) q1 rfl
  have c2 := cell_block (o := 1) q1 rfl
  have c3 := cell_block (o := 2) q1 rfl
  have c4 := cell_block (o := 3) q1 rfl
  have r0 := cell_block (o := 0) h1 rfl
  have r1 := cell_block (o := 1) h1 rfl
  have s1 := fun o => keep_alloc o c1
  have s2 := fun o => keep_alloc o c2
  have s3 := fun o => keep_alloc o c3
  have s4 := fun o => keep_alloc o c4
  go_wp2_with (at_lookup; refine wpList_lookup_fact rfl _ _ rfl mb c D T rfl h5 h6 f.n rfl (fok_wf hf) g true (by rw [hg]; rfl) (by rw [hg]; rfl) ?_)
  refine (over_any f g _).mono ?_
  rintro e w2 ⟨rfl, b2⟩
  rw [over_ok hf hgo (tget_mem hg).2, ho]
  have B2 := btrans (balloc _ (Below.refl _ w1)) b2
  clear c0 c1 c2 c3 c4 r0 r1 s1 s2 s3 s4 b2
  replace h1 := (B2.block _ (lt_of_block h1)).trans h1
  replace h4 := own_below h4 B2
  replace h5 := map_below h5 B2
  replace q0 := (B2.block _ (lt_of_block q0)).trans q0
  replace q1 := (B2.block _ (lt_of_block q1)).trans q1
  have B3 := btrans B1 B2
  have c0 := cell_block (o := 0) q0 rfl
  have c1 := cell_block (o := 0) q1 rfl
  have c2 := cell_block (o := 1) q1 rfl
  have c3 := cell_block (o := 2) q1 rfl
  have c4 := cell_block (o := 3) q1 rfl
  have r0 := cell_block (o := 0) h1 rfl
  have r1 := cell_block (o := 1) h1 rfl
  clear B1 B2
  go_wp2_with fail
  refine wp_region_held_drew (S := fun w' => w'.cell? ⟨w.heap.size, 0, none⟩ = some (.pointer (some ⟨rb, 0, none⟩)) ∧ w'.cell? ⟨rb, 1, none⟩ = some (.map (some mb)) ∧ w'.cell? ⟨w.heap.size + 1, 0, none⟩ = some (.int .i64 f.n) ∧ w'.cell? ⟨w.heap.size + 1, 1, none⟩ = some (.int .i64 f.i) ∧ w'.cell? ⟨w.heap.size + 1, 2, none⟩ = some (.int .i64 f.s) ∧ w'.cell? ⟨w.heap.size + 1, 3, none⟩ = some (.bool f.g)) (by kernel_rfl) ?_ (fun hHeld => ?_)
  · exact ⟨keep_drew c0, keep_drew r1, keep_drew c1, keep_drew c2, keep_drew c3, keep_drew c4⟩
  refine wpAnyH_take (i := 0) (oi := { dst := some 28, op := Go.Op.load 178 (Go.Operand.tmp 2), type := 178, pos := "l3_fact.go:97", after := #[], guard := none }) (v := ?_) rfl (by kernel_rfl) (by kernel_rfl) (by kernel_rfl) (fun _ _ _ h => h) (Or.inl ⟨by rfl, ?_⟩) (by assumption) ?_
  rotate_left 1
  · (intro w hSw; (try dsimp only at hSw); go_simp; try with_reducible rfl)
  (try simp only [Act.put, List.setIfInBounds_toArray, List.set_cons_zero, List.set_cons_succ])
  refine wpAnyH_take (i := 1) (oi := { dst := some 29, op := Go.Op.nilCheck (Go.Operand.tmp 28), type := 0, pos := "l3_fact.go:97", after := #[{ on := 0, ground := Go.Ground.data }], guard := none }) (v := ?_) rfl (by kernel_rfl) (by kernel_rfl) (by kernel_rfl) (fun _ _ _ h => h) (Or.inl ⟨by rfl, ?_⟩) (by assumption) ?_
  rotate_left 1
  · (intro w hSw; (try dsimp only at hSw); go_simp; try with_reducible rfl)
  (try simp only [Act.put, List.setIfInBounds_toArray, List.set_cons_zero, List.set_cons_succ])
  refine wpAnyH_take (i := 2) (oi := { dst := some 30, op := Go.Op.fieldAddr 187 (Go.Operand.tmp 29) 1, type := 0, pos := "l3_fact.go:97", after := #[{ on := 1, ground := Go.Ground.data }], guard := none }) (v := ?_) rfl (by kernel_rfl) (by kernel_rfl) (by kernel_rfl) (fun _ _ _ h => h) (Or.inl ⟨by rfl, ?_⟩) (by assumption) ?_
  rotate_left 1
  · (intro w hSw; (try dsimp only at hSw); go_simp; try with_reducible rfl)
  (try simp only [Act.put, List.setIfInBounds_toArray, List.set_cons_zero, List.set_cons_succ])
  refine wpAnyH_take (i := 3) (oi := { dst := some 31, op := Go.Op.load 185 (Go.Operand.tmp 30), type := 185, pos := "l3_fact.go:97", after := #[{ on := 2, ground := Go.Ground.data }], guard := none }) (v := ?_) rfl (by kernel_rfl) (by kernel_rfl) (by kernel_rfl) (fun _ _ _ h => h) (Or.inl ⟨by rfl, ?_⟩) (by assumption) ?_
  rotate_left 1
  · (intro w hSw; (try dsimp only at hSw); go_simp; try with_reducible rfl)
  (try simp only [Act.put, List.setIfInBounds_toArray, List.set_cons_zero, List.set_cons_succ])
  refine wpAnyH_take (i := 4) (oi := { dst := some 32, op := Go.Op.move (Go.Operand.tmp 5), type := 3, pos := "l3_fact.go:97", after := #[], guard := none }) (v := ?_) rfl (by kernel_rfl) (by kernel_rfl) (by kernel_rfl) (fun _ _ _ h => h) (Or.inl ⟨by rfl, ?_⟩) (by assumption) ?_
  rotate_left 1
  · (intro w hSw; (try dsimp only at hSw); go_simp; try with_reducible rfl)
  (try simp only [Act.put, List.setIfInBounds_toArray, List.set_cons_zero, List.set_cons_succ])
  refine wpAnyH_take (i := 5) (oi := { dst := some 33, op := Go.Op.load 59 (Go.Operand.tmp 3), type := 59, pos := "l3_fact.go:97", after := #[], guard := none }) (v := ?_) rfl (by kernel_rfl) (by kernel_rfl) (by kernel_rfl) (fun _ _ _ h => h) (Or.inl ⟨by rfl, ?_⟩) (by assumption) ?_
  rotate_left 1
  · (intro w hSw; (try dsimp only at hSw); go_simp; try with_reducible rfl)
  (try simp only [Act.put, List.setIfInBounds_toArray, List.set_cons_zero, List.set_cons_succ])
  refine wpAnyH_ready (rs := [6]) (by kernel_rfl) (by simp) ?_
  refine AllReadyH.cons (o := { dst := none, op := Go.Op.mapUpdate 185 (Go.Operand.tmp 31) (Go.Operand.tmp 32) (Go.Operand.tmp 33), type := 0, pos := "l3_fact.go:97", after := #[{ on := 3, ground := Go.Ground.data }, { on := 4, ground := Go.Ground.data }, { on := 5, ground := Go.Ground.data }, { on := 0, ground := Go.Ground.phase }, { on := 1, ground := Go.Ground.phase }, { on := 2, ground := Go.Ground.phase }, { on := 3, ground := Go.Ground.phase }, { on := 4, ground := Go.Ground.phase }, { on := 5, ground := Go.Ground.phase }], guard := none }) rfl (fun K hK => ?_) AllReadyH.nil
  refine step_upd rfl _ _ _ rfl mb c D rfl h5.drew (by unfold maxLen; omega) f.n rfl (fok_wf hf) f rfl ?_
  intro w3 h5' g3
  refine hK.out _ _ ?_ (fun hHeld => ?_)
  · exact ⟨keep_map h5.drew g3 (keep_drew c0), keep_map h5.drew g3 (keep_drew r1), keep_map h5.drew g3 (keep_drew c1), keep_map h5.drew g3 (keep_drew c2), keep_map h5.drew g3 (keep_drew c3), keep_map h5.drew g3 (keep_drew c4)⟩
  clear hK K
  (try simp only [Act.put])
  refine wpAnyH_done (by kernel_rfl) ?_ _
  go_wp2
  go_ret
  have g3' : w2.grownBy w3 (some mb) := ⟨g3.os, g3.tape, g3.output, g3.size, g3.block⟩
  refine ⟨rfl, ⟨v, mb, _, keep_block g3' (block_ne h5 h1) h1, h2, h3, ?_, h5', kept_put h5.isMap h6 hT (by unfold tnew; rw [hg]; exact ho)⟩, (B3.mono hb).grown g3' (by have := B3.size; omega) (fun k hk => by simp only [Option.some.injEq] at hk; omega)⟩
  have hl : (tput T f).length = T.length := by have := congrArg List.length (tput_old hT hg); simpa using this
  rw [tput_old hT hg, hl]
  exact h4.kept g3' (own_not_map h4 h5)
set_option maxRecDepth 20000 in
set_option maxHeartbeats 4000000 in
theorem put_new (base rb c : Nat) (T : List Fc) (f : Fc) (hT : Asc T) (hg : tget T f.n = none) (hl : T.length ≤ 8) (w : World) (hR : Reg w base rb c T) (hf : fok f = true) (hb : base ≤ w.heap.size) (hc : c < 1000000) :
    Calls Tryz.prog 170 #[.pointer (some ⟨rb, 0, none⟩), fval f] w fun e w' => e = .returned (.bool true) ∧ Reg w' base rb (c + 1) (tput T f) ∧ Below base w w' := by
  have hm : ∀ (n i s : Int) (g : Bool) (w : World), (method 342 59 (.agg #[.int .i64 n, .int .i64 i, .int .i64 s, .bool g]) "loop.example/lightship/impl.key").run Tryz.prog w = .ok (224, .agg #[.int .i64 n, .int .i64 i, .int .i64 s, .bool g]) w := fun _ _ _ _ _ => by kernel_rfl
  have hm2 : ∀ (n i s : Int) (g : Bool) (w : World), (method 342 59 (.agg #[.int .i64 n, .int .i64 i, .int .i64 s, .bool g]) "loop.example/lightship/impl.overrides").run Tryz.prog w = .ok (225, .agg #[.int .i64 n, .int .i64 i, .int .i64 s, .bool g]) w := fun _ _ _ _ _ => by kernel_rfl
  go_enter Tryz.func170, Tryz.ntmps170
  go_wp2_with fail
  have p0 : ((w.alloc (.cells #[.pointer (some ⟨rb, 0, none⟩)] 178)).alloc (.cells #[.int .i64 f.n, .int .i64 f.i, .int .i64 f.s, .bool f.g] 59)).heap[w.heap.size]? = some (.cells #[.pointer (some ⟨rb, 0, none⟩)] 178 (0, 0)) := (Below.heap_alloc _ _ _ (by simp)).trans (heap_alloc_new _ _)
  have p1 : ((w.alloc (.cells #[.pointer (some ⟨rb, 0, none⟩)] 178)).alloc (.cells #[.int .i64 f.n, .int .i64 f.i, .int .i64 f.s, .bool f.g] 59)).heap[w.heap.size + 1]? = some (.cells #[.int .i64 f.n, .int .i64 f.i, .int .i64 f.s, .bool f.g] 59 (0, 0)) := by have := heap_alloc_new (w.alloc (.cells #[.pointer (some ⟨rb, 0, none⟩)] 178)) (.cells #[.int .i64 f.n, .int .i64 f.i, .int .i64 f.s, .bool f.g] 59); simpa using this
  have B0 : Below w.heap.size w ((w.alloc (.cells #[.pointer (some ⟨rb, 0, none⟩)] 178)).alloc (.cells #[.int .i64 f.n, .int .i64 f.i, .int .i64 f.s, .bool f.g] 59)) := balloc _ (balloc _ (Below.refl _ _))
  have z0 : ((w.alloc (.cells #[.pointer (some ⟨rb, 0, none⟩)] 178)).alloc (.cells #[.int .i64 f.n, .int .i64 f.i, .int .i64 f.s, .bool f.g] 59)).heap.size = w.heap.size + 2 := by simp
  generalize ((w.alloc (.cells #[.pointer (some ⟨rb, 0, none⟩)] 178)).alloc (.cells #[.int .i64 f.n, .int .i64 f.i, .int .i64 f.s, .bool f.g] 59)) = W0 at *
  refine (key_any _ _ _ _ _).mono ?_
  rintro e w1 ⟨rfl, b1⟩
  have q0 := (b1.block w.heap.size (by omega)).trans p0
  have q1 := (b1.block (w.heap.size + 1) (by omega)).trans p1
  have B1 := btrans B0 b1
  have R1 := hR.below B1
  have L1 : w.heap.size + 1 < w1.heap.size := lt_of_block q1
  clear p0 p1 b1 B0 z0 hm
  obtain ⟨v, mb, D, h1, h2, h3, h4, h5, h6⟩ := R1
  have c0 := cell_block (o := 0) q0 rfl
  have c1 := cell_block (o := 0) q1 rfl
  have c2 := cell_block (o := 1) q1 rfl
  have c3 := cell_block (o := 2) q1 rfl
  have c4 := cell_block (o := 3) q1 rfl
  have r0 := cell_block (o := 0) h1 rfl
  have r1 := cell_block (o := 1) h1 rfl
  go_wp2_with (at_lookup; refine wpList_lookup_fact rfl _ _ rfl mb c D T rfl h5 h6 f.n rfl (fok_wf hf) Fc.zero false (by rw [hg]; rfl) (by rw [hg]; rfl) ?_)
  clear c0 c1 c2 c3 c4 r0 r1 hm2
  replace h1 : (w1.alloc (.cells #[.int .i64 Fc.zero.n, .int .i64 Fc.zero.i, .int .i64 Fc.zero.s, .bool Fc.zero.g] 59)).heap[rb]? = _ := block_alloc _ h1
  replace h4 : (w1.alloc (.cells #[.int .i64 Fc.zero.n, .int .i64 Fc.zero.i, .int .i64 Fc.zero.s, .bool Fc.zero.g] 59)).ownsRow _ _ _ _ _ _ := h4.alloc _
  replace h5 : (w1.alloc (.cells #[.int .i64 Fc.zero.n, .int .i64 Fc.zero.i, .int .i64 Fc.zero.s, .bool Fc.zero.g] 59)).ownsMap _ _ _ _ _ _ := h5.alloc _
  replace q0 : (w1.alloc (.cells #[.int .i64 Fc.zero.n, .int .i64 Fc.zero.i, .int .i64 Fc.zero.s, .bool Fc.zero.g] 59)).heap[w.heap.size]? = _ := block_alloc _ q0
  replace q1 : (w1.alloc (.cells #[.int .i64 Fc.zero.n, .int .i64 Fc.zero.i, .int .i64 Fc.zero.s, .bool Fc.zero.g] 59)).heap[w.heap.size + 1]? = _ := block_alloc _ q1
  have B3 : Below w.heap.size w (w1.alloc (.cells #[.int .i64 Fc.zero.n, .int .i64 Fc.zero.i, .int .i64 Fc.zero.s, .bool Fc.zero.g] 59)) := balloc _ B1
  clear B1 L1
  generalize (w1.alloc (.cells #[.int .i64 Fc.zero.n, .int .i64 Fc.zero.i, .int .i64 Fc.zero.s, .bool Fc.zero.g] 59)) = w2 at *
  have c0 := cell_block (o := 0) q0 rfl
  have c1 := cell_block (o := 0) q1 rfl
  have c2 := cell_block (o := 1) q1 rfl
  have c3 := cell_block (o := 2) q1 rfl
  have c4 := cell_block (o := 3) q1 rfl
  have r0 := cell_block (o := 0) h1 rfl
  have r1 := cell_block (o := 1) h1 rfl
  refine wp_region_held_drew (S := fun w' => w'.cell? ⟨w.heap.size, 0, none⟩ = some (.pointer (some ⟨rb, 0, none⟩)) ∧ w'.cell? ⟨rb, 1, none⟩ = some (.map (some mb)) ∧ w'.cell? ⟨w.heap.size + 1, 0, none⟩ = some (.int .i64 f.n) ∧ w'.cell? ⟨w.heap.size + 1, 1, none⟩ = some (.int .i64 f.i) ∧ w'.cell? ⟨w.heap.size + 1, 2, none⟩ = some (.int .i64 f.s) ∧ w'.cell? ⟨w.heap.size + 1, 3, none⟩ = some (.bool f.g)) (by kernel_rfl) ?_ (fun hHeld => ?_)
  · exact ⟨keep_drew c0, keep_drew r1, keep_drew c1, keep_drew c2, keep_drew c3, keep_drew c4⟩
  refine wpAnyH_take (i := 0) (oi := { dst := some 28, op := Go.Op.load 178 (Go.Operand.tmp 2), type := 178, pos := "l3_fact.go:97", after := #[], guard := none }) (v := ?_) rfl (by kernel_rfl) (by kernel_rfl) (by kernel_rfl) (fun _ _ _ h => h) (Or.inl ⟨by rfl, ?_⟩) (by assumption) ?_
  rotate_left 1
  · (intro w hSw; (try dsimp only at hSw); go_simp; try with_reducible rfl)
  (try simp only [Act.put, List.setIfInBounds_toArray, List.set_cons_zero, List.set_cons_succ])
  refine wpAnyH_take (i := 1) (oi := { dst := some 29, op := Go.Op.nilCheck (Go.Operand.tmp 28), type := 0, pos := "l3_fact.go:97", after := #[{ on := 0, ground := Go.Ground.data }], guard := none }) (v := ?_) rfl (by kernel_rfl) (by kernel_rfl) (by kernel_rfl) (fun _ _ _ h => h) (Or.inl ⟨by rfl, ?_⟩) (by assumption) ?_
  rotate_left 1
  · (intro w hSw; (try dsimp only at hSw); go_simp; try with_reducible rfl)
  (try simp only [Act.put, List.setIfInBounds_toArray, List.set_cons_zero, List.set_cons_succ])
  refine wpAnyH_take (i := 2) (oi := { dst := some 30, op := Go.Op.fieldAddr 187 (Go.Operand.tmp 29) 1, type := 0, pos := "l3_fact.go:97", after := #[{ on := 1, ground := Go.Ground.data }], guard := none }) (v := ?_) rfl (by kernel_rfl) (by kernel_rfl) (by kernel_rfl) (fun _ _ _ h => h) (Or.inl ⟨by rfl, ?_⟩) (by assumption) ?_
  rotate_left 1
  · (intro w hSw; (try dsimp only at hSw); go_simp; try with_reducible rfl)
  (try simp only [Act.put, List.setIfInBounds_toArray, List.set_cons_zero, List.set_cons_succ])
  refine wpAnyH_take (i := 3) (oi := { dst := some 31, op := Go.Op.load 185 (Go.Operand.tmp 30), type := 185, pos := "l3_fact.go:97", after := #[{ on := 2, ground := Go.Ground.data }], guard := none }) (v := ?_) rfl (by kernel_rfl) (by kernel_rfl) (by kernel_rfl) (fun _ _ _ h => h) (Or.inl ⟨by rfl, ?_⟩) (by assumption) ?_
  rotate_left 1
  · (intro w hSw; (try dsimp only at hSw); go_simp; try with_reducible rfl)
  (try simp only [Act.put, List.setIfInBounds_toArray, List.set_cons_zero, List.set_cons_succ])
  refine wpAnyH_take (i := 4) (oi := { dst := some 32, op := Go.Op.move (Go.Operand.tmp 5), type := 3, pos := "l3_fact.go:97", after := #[], guard := none }) (v := ?_) rfl (by kernel_rfl) (by kernel_rfl) (by kernel_rfl) (fun _ _ _ h => h) (Or.inl ⟨by rfl, ?_⟩) (by assumption) ?_
  rotate_left 1
  · (intro w hSw; (try dsimp only at hSw); go_simp; try with_reducible rfl)
  (try simp only [Act.put, List.setIfInBounds_toArray, List.set_cons_zero, List.set_cons_succ])
  refine wpAnyH_take (i := 5) (oi := { dst := some 33, op := Go.Op.load 59 (Go.Operand.tmp 3), type := 59, pos := "l3_fact.go:97", after := #[], guard := none }) (v := ?_) rfl (by kernel_rfl) (by kernel_rfl) (by kernel_rfl) (fun _ _ _ h => h) (Or.inl ⟨by rfl, ?_⟩) (by assumption) ?_
  rotate_left 1
  · (intro w hSw; (try dsimp only at hSw); go_simp; try with_reducible rfl)
  (try simp only [Act.put, List.setIfInBounds_toArray, List.set_cons_zero, List.set_cons_succ])
  refine wpAnyH_ready (rs := [6]) (by kernel_rfl) (by simp) ?_
  refine AllReadyH.cons (o := { dst := none, op := Go.Op.mapUpdate 185 (Go.Operand.tmp 31) (Go.Operand.tmp 32) (Go.Operand.tmp 33), type := 0, pos := "l3_fact.go:97", after := #[{ on := 3, ground := Go.Ground.data }, { on := 4, ground := Go.Ground.data }, { on := 5, ground := Go.Ground.data }, { on := 0, ground := Go.Ground.phase }, { on := 1, ground := Go.Ground.phase }, { on := 2, ground := Go.Ground.phase }, { on := 3, ground := Go.Ground.phase }, { on := 4, ground := Go.Ground.phase }, { on := 5, ground := Go.Ground.phase }], guard := none }) rfl (fun K hK => ?_) AllReadyH.nil
  refine step_upd rfl _ _ _ rfl mb c D rfl h5.drew (by unfold maxLen; omega) f.n rfl (fok_wf hf) f rfl ?_
  intro w3 h5' g3
  refine hK.out _ _ ?_ (fun hHeld => ?_)
  · exact ⟨keep_map h5.drew g3 (keep_drew c0), keep_map h5.drew g3 (keep_drew r1), keep_map h5.drew g3 (keep_drew c1), keep_map h5.drew g3 (keep_drew c2), keep_map h5.drew g3 (keep_drew c3), keep_map h5.drew g3 (keep_drew c4)⟩
  clear hK K
  (try simp only [Act.put])
  refine wpAnyH_done (by kernel_rfl) ?_ _
  have g3' : w2.grownBy w3 (some mb) := ⟨g3.os, g3.tape, g3.output, g3.size, g3.block⟩
  replace h1 := keep_block g3' (block_ne h5 h1) h1
  replace q0 := keep_block g3' (block_ne h5 q0) q0
  replace h4 := h4.kept g3' (own_not_map h4 h5)
  replace h6 := kept_put h5.isMap h6 hT (show tnew T f = true by unfold tnew; rw [hg])
  replace B3 := (B3.mono hb).grown g3' (by have := B3.size; omega) (fun k hk => by simp only [Option.some.injEq] at hk; omega)
  clear h5 g3 g3' c0 c1 c2 c3 c4 r0 r1 q1
  have h5 := h5'
  clear h5'
  have c0 := cell_block (o := 0) q0 rfl
  have r0 := cell_block (o := 0) h1 rfl
  go_wp2_with fail
  refine wp_region_held_drew (S := fun w' => w'.cell? ⟨w.heap.size, 0, none⟩ = some (.pointer (some ⟨rb, 0, none⟩))) (by kernel_rfl) ?_ (fun hHeld => ?_)
  · exact keep_drew c0
  refine wpAnyH_take (i := 0) (oi := { dst := some 36, op := Go.Op.load 178 (Go.Operand.tmp 2), type := 178, pos := "l3_fact.go:99", after := #[], guard := none }) (v := ?_) rfl (by kernel_rfl) (by kernel_rfl) (by kernel_rfl) (fun _ _ _ h => h) (Or.inl ⟨by rfl, ?_⟩) (by assumption) ?_
  rotate_left 1
  · (intro w hSw; (try dsimp only at hSw); go_simp; try with_reducible rfl)
  (try simp only [Act.put, List.setIfInBounds_toArray, List.set_cons_zero, List.set_cons_succ])
  refine wpAnyH_take (i := 1) (oi := { dst := some 37, op := Go.Op.load 178 (Go.Operand.tmp 2), type := 178, pos := "l3_fact.go:99", after := #[], guard := none }) (v := ?_) rfl (by kernel_rfl) (by kernel_rfl) (by kernel_rfl) (fun _ _ _ h => h) (Or.inl ⟨by rfl, ?_⟩) (by assumption) ?_
  rotate_left 1
  · (intro w hSw; (try dsimp only at hSw); go_simp; try with_reducible rfl)
  (try simp only [Act.put, List.setIfInBounds_toArray, List.set_cons_zero, List.set_cons_succ])
  refine wpAnyH_take (i := 2) (oi := { dst := some 38, op := Go.Op.nilCheck (Go.Operand.tmp 37), type := 0, pos := "l3_fact.go:99", after := #[{ on := 1, ground := Go.Ground.data }], guard := none }) (v := ?_) rfl (by kernel_rfl) (by kernel_rfl) (by kernel_rfl) (fun _ _ _ h => h) (Or.inl ⟨by rfl, ?_⟩) (by assumption) ?_
  rotate_left 1
  · (intro w hSw; (try dsimp only at hSw); go_simp; try with_reducible rfl)
  (try simp only [Act.put, List.setIfInBounds_toArray, List.set_cons_zero, List.set_cons_succ])
  refine wpAnyH_take (i := 3) (oi := { dst := some 39, op := Go.Op.fieldAddr 187 (Go.Operand.tmp 38) 0, type := 0, pos := "l3_fact.go:99", after := #[{ on := 2, ground := Go.Ground.data }], guard := none }) (v := ?_) rfl (by kernel_rfl) (by kernel_rfl) (by kernel_rfl) (fun _ _ _ h => h) (Or.inl ⟨by rfl, ?_⟩) (by assumption) ?_
  rotate_left 1
  · (intro w hSw; (try dsimp only at hSw); go_simp; try with_reducible rfl)
  (try simp only [Act.put, List.setIfInBounds_toArray, List.set_cons_zero, List.set_cons_succ])
  refine wpAnyH_take (i := 5) (oi := { dst := some 41, op := Go.Op.move (Go.Operand.tmp 5), type := 3, pos := "l3_fact.go:99", after := #[], guard := none }) (v := ?_) rfl (by kernel_rfl) (by kernel_rfl) (by kernel_rfl) (fun _ _ _ h => h) (Or.inl ⟨by rfl, ?_⟩) (by assumption) ?_
  rotate_left 1
  · (intro w hSw; (try dsimp only at hSw); go_simp; try with_reducible rfl)
  (try simp only [Act.put, List.setIfInBounds_toArray, List.set_cons_zero, List.set_cons_succ])
  refine wpAnyH_ready (rs := [4, 6]) (by kernel_rfl) (by simp) ?_
  refine AllReadyH.cons (o := { dst := some 40, op := Go.Op.load 24 (Go.Operand.tmp 39), type := 24, pos := "l3_fact.go:99", after := #[{ on := 3, ground := Go.Ground.data }], guard := none }) rfl (fun K hK => ?_) (AllReadyH.cons (o := { dst := some 42, op := Go.Op.buildSlice 24 1 #[(0, Go.Operand.tmp 41)], type := 24, pos := "l3_fact.go:99", after := #[{ on := 5, ground := Go.Ground.data }], guard := none }) rfl (fun K hK => ?_) AllReadyH.nil)
  · go_simp
    refine hK.out _ _ ?_ (fun hHeld => ?_)
    · exact keep_drew c0
    clear hK K
    (try simp only [Act.put, List.setIfInBounds_toArray, List.set_cons_zero, List.set_cons_succ])
    refine wpAnyH_ready (rs := [6]) (by kernel_rfl) (by simp) ?_
    refine AllReadyH.cons (o := { dst := some 42, op := Go.Op.buildSlice 24 1 #[(0, Go.Operand.tmp 41)], type := 24, pos := "l3_fact.go:99", after := #[{ on := 5, ground := Go.Ground.data }], guard := none }) rfl (fun K hK => ?_) AllReadyH.nil
    go_simp
    refine hK.out _ _ ?_ (fun hHeld => ?_)
    · exact keep_drew (keep_alloc _ c0)
    clear hK K
    (try simp only [Act.put, List.setIfInBounds_toArray, List.set_cons_zero, List.set_cons_succ])
    have A0 : ((w3.alloc (.cells #[.int .i64 f.n] 3)).drew).cell? ⟨w3.heap.size, 0, none⟩ = some (.int .i64 f.n) := by simp [go_sem]
    have A1 : ((w3.alloc (.cells #[.int .i64 f.n] 3)).drew).ownsRow base 3 1 v T.length (lv (T.map (·.n))) := h4.alloc _
    have A2 : ((w3.alloc (.cells #[.int .i64 f.n] 3)).drew).ownsMap Tryz.prog 3 fE mb (c + 1) (D.put (.int .i64 f.n) (fd f)) := h5.alloc _
    have A3 : ((w3.alloc (.cells #[.int .i64 f.n] 3)).drew).heap[rb]? = some (.cells #[v, .map (some mb)] 187 (0, 0)) := block_alloc _ h1
    have A4 : ((w3.alloc (.cells #[.int .i64 f.n] 3)).drew).heap[w.heap.size]? = some (.cells #[.pointer (some ⟨rb, 0, none⟩)] 178 (0, 0)) := block_alloc _ q0
    have A5 : Below base w ((w3.alloc (.cells #[.int .i64 f.n] 3)).drew) := (B3.alloc (by have := B3.size; omega) _).drew
    generalize ((w3.alloc (.cells #[.int .i64 f.n] 3)).drew) = W4 at *
    clear h1 h4 h5 q0 B3 c0 r0
    refine wpAnyH_ready (rs := [7]) (by kernel_rfl) (by simp) ?_
    refine AllReadyH.cons (o := { dst := some 43, op := Go.Op.call { callee := Go.Callee.builtin Go.Builtin.append, args := #[Go.Operand.tmp 40, Go.Operand.tmp 42], argTypes := #[24, 24] }, type := 24, pos := "l3_fact.go:99", after := #[{ on := 4, ground := Go.Ground.data }, { on := 6, ground := Go.Ground.data }], guard := none }) rfl (fun K hK => ?_) AllReadyH.nil
    refine step_app1 (by rfl) _ _ (by rfl) base v T.length (T.map (·.n)) (by rfl) A1 w3.heap.size f.n (by rfl) A0 (by omega) (by have := A5.size; omega) ?_
    intro a' cap' W5 o5 g5
    have E3 := keep_block g5 (not_own A1 A3 (by decide)) A3
    have E4 := keep_block g5 (not_own A1 A4 (by decide)) A4
    have E2 := A2.kept g5 (own_not_map' A1 A2)
    have E5 := A5.grown g5 (by have := A5.size; omega) (fun k hk => (A1.lt k hk).1)
    refine hK.out _ _ ?_ (fun hHeld => ?_)
    · exact cell_block (o := 0) E4 rfl
    clear hK K
    (try simp only [Act.put, List.setIfInBounds_toArray, List.set_cons_zero, List.set_cons_succ])
    clear A0 A1 A2 A3 A4 A5 g5
    refine wpAnyH_take (i := 8) (oi := { dst := some 44, op := Go.Op.nilCheck (Go.Operand.tmp 36), type := 0, pos := "l3_fact.go:99", after := #[{ on := 0, ground := Go.Ground.data }, { on := 0, ground := Go.Ground.phase }, { on := 1, ground := Go.Ground.phase }, { on := 2, ground := Go.Ground.phase }, { on := 3, ground := Go.Ground.phase }, { on := 4, ground := Go.Ground.phase }, { on := 5, ground := Go.Ground.phase }, { on := 6, ground := Go.Ground.phase }, { on := 7, ground := Go.Ground.phase }], guard := none }) (v := ?_) rfl (by kernel_rfl) (by kernel_rfl) (by kernel_rfl) (fun _ _ _ h => h) (Or.inl ⟨by rfl, ?_⟩) (by assumption) ?_
    rotate_left 1
    · (intro w hSw; (try dsimp only at hSw); go_simp; try with_reducible rfl)
    (try simp only [Act.put, List.setIfInBounds_toArray, List.set_cons_zero, List.set_cons_succ])
    refine wpAnyH_take (i := 9) (oi := { dst := some 45, op := Go.Op.fieldAddr 187 (Go.Operand.tmp 44) 0, type := 0, pos := "l3_fact.go:99", after := #[{ on := 8, ground := Go.Ground.data }, { on := 0, ground := Go.Ground.phase }, { on := 1, ground := Go.Ground.phase }, { on := 2, ground := Go.Ground.phase }, { on := 3, ground := Go.Ground.phase }, { on := 4, ground := Go.Ground.phase }, { on := 5, ground := Go.Ground.phase }, { on := 6, ground := Go.Ground.phase }, { on := 7, ground := Go.Ground.phase }], guard := none }) (v := ?_) rfl (by kernel_rfl) (by kernel_rfl) (by kernel_rfl) (fun _ _ _ h => h) (Or.inl ⟨by rfl, ?_⟩) (by assumption) ?_
    rotate_left 1
    · (intro w hSw; (try dsimp only at hSw); go_simp; try with_reducible rfl)
    (try simp only [Act.put, List.setIfInBounds_toArray, List.set_cons_zero, List.set_cons_succ])
    have fz : W5.frozen? ⟨rb, 0, none⟩ = false := by simp [World.frozen?, E3]
    have e1 := cell_block (o := 0) E3 rfl
    refine wpAnyH_ready (rs := [10]) (by kernel_rfl) (by simp) ?_
    refine AllReadyH.cons (o := { dst := none, op := Go.Op.store 24 (Go.Operand.tmp 45) (Go.Operand.tmp 43), type := 0, pos := "l3_fact.go:99", after := #[{ on := 9, ground := Go.Ground.data }, { on := 7, ground := Go.Ground.data }, { on := 7, ground := Go.Ground.chain }, { on := 0, ground := Go.Ground.phase }, { on := 1, ground := Go.Ground.phase }, { on := 2, ground := Go.Ground.phase }, { on := 3, ground := Go.Ground.phase }, { on := 4, ground := Go.Ground.phase }, { on := 5, ground := Go.Ground.phase }, { on := 6, ground := Go.Ground.phase }, { on := 7, ground := Go.Ground.phase }], guard := none }) rfl (fun K hK => ?_) AllReadyH.nil
    go_simp
    have F3 := block_set (v' := .slice a' (T.length + 1) cap') E3
    have F4 := (heap_setCell_other W5 ⟨rb, 0, none⟩ w.heap.size (.slice a' (T.length + 1) cap') (fun e => by rw [e, E3] at E4; simp at E4)).trans E4
    have F2 := E2.setCell (a := ⟨rb, 0, none⟩) (fun e => block_ne E2 E3 (by rw [e])) (.slice a' (T.length + 1) cap')
    have F1 := o5.kept (grown_set W5 rb 0 (.slice a' (T.length + 1) cap')) (.inr (fun e => not_own o5 E3 (by decide) e.symm))
    have F5 := E5.setCell (p := ⟨rb, 0, none⟩) h2 (.slice a' (T.length + 1) cap')
    refine hK.out _ _ ?_ (fun hHeld => ?_)
    · exact cell_block (o := 0) F4 rfl
    clear hK K
    (try simp only [Act.put])
    generalize (W5.setCell ⟨rb, 0, none⟩ (.slice a' (T.length + 1) cap')) = W6 at *
    clear E2 E3 E4 E5 fz e1 o5
    refine wpAnyH_done (by kernel_rfl) ?_ _
    have d0 := cell_block (o := 0) F4 rfl
    have d1 := cell_block (o := 0) F3 rfl
    go_wp2_with fail
    refine (sort_any w.heap.size rb cap' base (T.length + 1) a' _ _ W6 (by omega) (by omega) F3 F4 F1).mono ?_
    rintro e W7 ⟨rfl, G1, gg⟩
    have G3 := keep_block gg (not_own F1 F3 (by decide)) F3
    have G2 := F2.kept gg (own_not_map' F1 F2)
    have G5 := F5.grown gg (by have := F5.size; omega) (fun k hk => (F1.lt k hk).1)
    clear F1 F2 F3 F4 F5 gg d0 d1
    go_wp2
    go_ret
    rw [sorted_new hT hg] at G1
    exact ⟨rfl, ⟨_, mb, _, G3, h2, h3, by rw [tput_len hg]; exact G1, G2, h6⟩, G5⟩
  · go_simp
    refine hK.out _ _ ?_ (fun hHeld => ?_)
    · exact keep_drew (keep_alloc _ c0)
    clear hK K
    (try simp only [Act.put, List.setIfInBounds_toArray, List.set_cons_zero, List.set_cons_succ])
    have A0 : ((w3.alloc (.cells #[.int .i64 f.n] 3)).drew).cell? ⟨w3.heap.size, 0, none⟩ = some (.int .i64 f.n) := by simp [go_sem]
    have A1 : ((w3.alloc (.cells #[.int .i64 f.n] 3)).drew).ownsRow base 3 1 v T.length (lv (T.map (·.n))) := h4.alloc _
    have A2 : ((w3.alloc (.cells #[.int .i64 f.n] 3)).drew).ownsMap Tryz.prog 3 fE mb (c + 1) (D.put (.int .i64 f.n) (fd f)) := h5.alloc _
    have A3 : ((w3.alloc (.cells #[.int .i64 f.n] 3)).drew).heap[rb]? = some (.cells #[v, .map (some mb)] 187 (0, 0)) := block_alloc _ h1
    have A4 : ((w3.alloc (.cells #[.int .i64 f.n] 3)).drew).heap[w.heap.size]? = some (.cells #[.pointer (some ⟨rb, 0, none⟩)] 178 (0, 0)) := block_alloc _ q0
    have A5 : Below base w ((w3.alloc (.cells #[.int .i64 f.n] 3)).drew) := (B3.alloc (by have := B3.size; omega) _).drew
    generalize ((w3.alloc (.cells #[.int .i64 f.n] 3)).drew) = W4 at *
    clear h1 h4 h5 q0 B3 c0 r0
    refine wpAnyH_ready (rs := [4]) (by kernel_rfl) (by simp) ?_
    refine AllReadyH.cons (o := { dst := some 40, op := Go.Op.load 24 (Go.Operand.tmp 39), type := 24, pos := "l3_fact.go:99", after := #[{ on := 3, ground := Go.Ground.data }], guard := none }) rfl (fun K hK => ?_) AllReadyH.nil
    have r0 := cell_block (o := 0) A3 rfl
    go_simp
    refine hK.out _ _ ?_ (fun hHeld => ?_)
    · exact cell_block (o := 0) A4 rfl
    clear hK K
    (try simp only [Act.put, List.setIfInBounds_toArray, List.set_cons_zero, List.set_cons_succ])
    clear r0
    refine wpAnyH_ready (rs := [7]) (by kernel_rfl) (by simp) ?_
    refine AllReadyH.cons (o := { dst := some 43, op := Go.Op.call { callee := Go.Callee.builtin Go.Builtin.append, args := #[Go.Operand.tmp 40, Go.Operand.tmp 42], argTypes := #[24, 24] }, type := 24, pos := "l3_fact.go:99", after := #[{ on := 4, ground := Go.Ground.data }, { on := 6, ground := Go.Ground.data }], guard := none }) rfl (fun K hK => ?_) AllReadyH.nil
    refine step_app1 (by rfl) _ _ (by rfl) base v T.length (T.map (·.n)) (by rfl) A1 w3.heap.size f.n (by rfl) A0 (by omega) (by have := A5.size; omega) ?_
    intro a' cap' W5 o5 g5
    have E3 := keep_block g5 (not_own A1 A3 (by decide)) A3
    have E4 := keep_block g5 (not_own A1 A4 (by decide)) A4
    have E2 := A2.kept g5 (own_not_map' A1 A2)
    have E5 := A5.grown g5 (by have := A5.size; omega) (fun k hk => (A1.lt k hk).1)
    refine hK.out _ _ ?_ (fun hHeld => ?_)
    · exact cell_block (o := 0) E4 rfl
    clear hK K
    (try simp only [Act.put, List.setIfInBounds_toArray, List.set_cons_zero, List.set_cons_succ])
    clear A0 A1 A2 A3 A4 A5 g5
    refine wpAnyH_take (i := 8) (oi := { dst := some 44, op := Go.Op.nilCheck (Go.Operand.tmp 36), type := 0, pos := "l3_fact.go:99", after := #[{ on := 0, ground := Go.Ground.data }, { on := 0, ground := Go.Ground.phase }, { on := 1, ground := Go.Ground.phase }, { on := 2, ground := Go.Ground.phase }, { on := 3, ground := Go.Ground.phase }, { on := 4, ground := Go.Ground.phase }, { on := 5, ground := Go.Ground.phase }, { on := 6, ground := Go.Ground.phase }, { on := 7, ground := Go.Ground.phase }], guard := none }) (v := ?_) rfl (by kernel_rfl) (by kernel_rfl) (by kernel_rfl) (fun _ _ _ h => h) (Or.inl ⟨by rfl, ?_⟩) (by assumption) ?_
    rotate_left 1
    · (intro w hSw; (try dsimp only at hSw); go_simp; try with_reducible rfl)
    (try simp only [Act.put, List.setIfInBounds_toArray, List.set_cons_zero, List.set_cons_succ])
    refine wpAnyH_take (i := 9) (oi := { dst := some 45, op := Go.Op.fieldAddr 187 (Go.Operand.tmp 44) 0, type := 0, pos := "l3_fact.go:99", after := #[{ on := 8, ground := Go.Ground.data }, { on := 0, ground := Go.Ground.phase }, { on := 1, ground := Go.Ground.phase }, { on := 2, ground := Go.Ground.phase }, { on := 3, ground := Go.Ground.phase }, { on := 4, ground := Go.Ground.phase }, { on := 5, ground := Go.Ground.phase }, { on := 6, ground := Go.Ground.phase }, { on := 7, ground := Go.Ground.phase }], guard := none }) (v := ?_) rfl (by kernel_rfl) (by kernel_rfl) (by kernel_rfl) (fun _ _ _ h => h) (Or.inl ⟨by rfl, ?_⟩) (by assumption) ?_
    rotate_left 1
    · (intro w hSw; (try dsimp only at hSw); go_simp; try with_reducible rfl)
    (try simp only [Act.put, List.setIfInBounds_toArray, List.set_cons_zero, List.set_cons_succ])
    have fz : W5.frozen? ⟨rb, 0, none⟩ = false := by simp [World.frozen?, E3]
    have e1 := cell_block (o := 0) E3 rfl
    refine wpAnyH_ready (rs := [10]) (by kernel_rfl) (by simp) ?_
    refine AllReadyH.cons (o := { dst := none, op := Go.Op.store 24 (Go.Operand.tmp 45) (Go.Operand.tmp 43), type := 0, pos := "l3_fact.go:99", after := #[{ on := 9, ground := Go.Ground.data }, { on := 7, ground := Go.Ground.data }, { on := 7, ground := Go.Ground.chain }, { on := 0, ground := Go.Ground.phase }, { on := 1, ground := Go.Ground.phase }, { on := 2, ground := Go.Ground.phase }, { on := 3, ground := Go.Ground.phase }, { on := 4, ground := Go.Ground.phase }, { on := 5, ground := Go.Ground.phase }, { on := 6, ground := Go.Ground.phase }, { on := 7, ground := Go.Ground.phase }], guard := none }) rfl (fun K hK => ?_) AllReadyH.nil
    go_simp
    have F3 := block_set (v' := .slice a' (T.length + 1) cap') E3
    have F4 := (heap_setCell_other W5 ⟨rb, 0, none⟩ w.heap.size (.slice a' (T.length + 1) cap') (fun e => by rw [e, E3] at E4; simp at E4)).trans E4
    have F2 := E2.setCell (a := ⟨rb, 0, none⟩) (fun e => block_ne E2 E3 (by rw [e])) (.slice a' (T.length + 1) cap')
    have F1 := o5.kept (grown_set W5 rb 0 (.slice a' (T.length + 1) cap')) (.inr (fun e => not_own o5 E3 (by decide) e.symm))
    have F5 := E5.setCell (p := ⟨rb, 0, none⟩) h2 (.slice a' (T.length + 1) cap')
    refine hK.out _ _ ?_ (fun hHeld => ?_)
    · exact cell_block (o := 0) F4 rfl
    clear hK K
    (try simp only [Act.put])
    generalize (W5.setCell ⟨rb, 0, none⟩ (.slice a' (T.length + 1) cap')) = W6 at *
    clear E2 E3 E4 E5 fz e1 o5
    refine wpAnyH_done (by kernel_rfl) ?_ _
    have d0 := cell_block (o := 0) F4 rfl
    have d1 := cell_block (o := 0) F3 rfl
    go_wp2_with fail
    refine (sort_any w.heap.size rb cap' base (T.length + 1) a' _ _ W6 (by omega) (by omega) F3 F4 F1).mono ?_
    rintro e W7 ⟨rfl, G1, gg⟩
    have G3 := keep_block gg (not_own F1 F3 (by decide)) F3
    have G2 := F2.kept gg (own_not_map' F1 F2)
    have G5 := F5.grown gg (by have := F5.size; omega) (fun k hk => (F1.lt k hk).1)
    clear F1 F2 F3 F4 F5 gg d0 d1
    go_wp2
    go_ret
    rw [sorted_new hT hg] at G1
    exact ⟨rfl, ⟨_, mb, _, G3, h2, h3, by rw [tput_len hg]; exact G1, G2, h6⟩, G5⟩
set_option maxRecDepth 20000 in
/-- what a register does with a fact -/
theorem put_any (base rb c : Nat) (T : List Fc) (f : Fc) (w : World) (hR : Reg w base rb c T) (hT : Asc T) (hok : ∀ g ∈ T, fok g = true) (hf : fok f = true) (hb : base ≤ w.heap.size) (hc : c < 1000000) :
    Calls Tryz.prog 170 #[.pointer (some ⟨rb, 0, none⟩), fval f] w fun e w' => e = .returned (.bool (tnew T f)) ∧ Reg w' base rb (c + 1) (tput T f) ∧ Below base w w' := by
  cases hg : tget T f.n with
  | none =>
    have hl : T.length ≤ 8 := by
      rcases asc_short T 0 hT (fun g hg => by have := hok g hg; unfold fok fokB inb at this; simp at this; omega) with h | h
      · omega
      · simp [h]
    have e : tnew T f = true := by unfold tnew; rw [hg]
    rw [e]
    exact put_new base rb c T f hT hg hl w hR hf hb hc
  | some g =>
    have e : tnew T f = ovr f g := by unfold tnew; rw [hg]
    rw [e]
    cases ho : ovr f g with
    | false =>
      rw [tput_no hT hg ho]
      exact put_no base rb c T f g hg (hok g (tget_mem hg).1) ho w hR hf hb hc
    | true => exact put_yes base rb c T f g hT hg (hok g (tget_mem hg).1) ho w hR hf hb hc
end Go.Proofs.YthekjfdggfbelaaGreat
/- Registers of lists, and what they tell: the program's tables. -/
namespace Go.Proofs.YthekjfdggfbelaaGreat
open Go.ChangeShapes Go.WideShapes Go.ChangeAt Go.RowKit
attribute [local go_sem ↓] Go.wp_at_zero Go.wp_at_succ
set_option maxRecDepth 20000 in
theorem seqF_succ (F : Nat → Fc) (n : Nat) : seqF F (n + 1) = seqF F n ++ [F n] := by simp [seqF, List.range_succ]
set_option maxRecDepth 20000 in
theorem seqF_mem {F : Nat → Fc} {n : Nat} {f : Fc} (h : f ∈ seqF F n) : ∃ k, k < n ∧ F k = f := by
  obtain ⟨k, hk, rfl⟩ := List.mem_map.1 h
  exact ⟨k, by simpa using hk, rfl⟩
set_option maxRecDepth 20000 in
theorem asc_mono {F : Nat → Fc} {len : Nat} (h : ∀ k, k < len → 0 < k → (F (k - 1)).n < (F k).n) : ∀ j k, j < k → k < len → (F j).n < (F k).n
  | j, 0, h1, _ => by omega
  | j, k + 1, h1, h2 => by
    have e := h (k + 1) h2 (by omega)
    simp at e
    rcases Nat.lt_or_ge j k with h3 | h3
    · have := asc_mono h j k h3 (by omega); omega
    · obtain rfl : j = k := by omega
      exact e
set_option maxRecDepth 20000 in
theorem tok_all {len : Nat} {F : Nat → Fc} (h : tokB len F = true) : (∀ k, k < len → fok (F k) = true) ∧ ∀ j k, j < k → k < len → (F j).n < (F k).n := by
  unfold tokB at h
  rw [Bool.and_eq_true] at h
  exact ⟨fun k hk => (of_decide_eq_true h.1) k hk, asc_mono (of_decide_eq_true h.2)⟩
set_option maxRecDepth 20000 in
theorem seqF_asc {F : Nat → Fc} {len : Nat} (h : ∀ j k, j < k → k < len → (F j).n < (F k).n) : ∀ n, n ≤ len → Asc (seqF F n)
  | 0, _ => List.Pairwise.nil
  | n + 1, hn => by
    rw [seqF_succ]
    unfold Asc
    rw [List.pairwise_append]
    refine ⟨seqF_asc h n (by omega), List.pairwise_singleton _ _, fun a ha b hb => ?_⟩
    obtain ⟨k, hk, rfl⟩ := seqF_mem ha
    simp at hb
    subst hb
    exact h k n hk (by omega)
set_option maxRecDepth 20000 in
theorem tput_last : ∀ {T : List Fc} {f : Fc}, (∀ g ∈ T, g.n < f.n) → tput T f = T ++ [f]
  | [], _, _ => rfl
  | g :: r, f, h => by
    unfold tput
    rw [if_pos (h g (by simp)), tput_last (fun x hx => h x (by simp [hx]))]
    rfl
set_option maxRecDepth 20000 in
theorem seqF_put {F : Nat → Fc} {len n : Nat} (h : ∀ j k, j < k → k < len → (F j).n < (F k).n) (hn : n < len) : tput (seqF F n) (F n) = seqF F (n + 1) := by
  rw [seqF_succ, tput_last]
  intro g hg
  obtain ⟨k, hk, rfl⟩ := seqF_mem hg
  exact h k n hk hn
set_option maxRecDepth 20000 in
theorem tok_len {len : Nat} {F : Nat → Fc} (h : tokB len F = true) : len ≤ 8 := by
  obtain ⟨h1, h2⟩ := tok_all h
  rcases asc_short (seqF F len) 0 (seqF_asc h2 len (Nat.le_refl _)) (fun g hg => by obtain ⟨k, hk, rfl⟩ := seqF_mem hg; have := h1 k hk; unfold fok fokB inb at this; simp at this; omega) with h | h
  · rw [seqF_len] at h; omega
  · have := congrArg List.length h; rw [seqF_len] at this; simp at this; omega
/-- the facts as cells -/
def fl (T : List Fc) : List Value := T.flatMap fun f => [.int .i64 f.n, .int .i64 f.i, .int .i64 f.s, .bool f.g]
set_option maxRecDepth 20000 in
theorem fl_len (T : List Fc) : (fl T).length = T.length * 4 := by
  induction T with
  | nil => rfl
  | cons f r ih => simp [fl] at *; omega
set_option maxRecDepth 20000 in
theorem fl_snoc (T : List Fc) (f : Fc) : fl (T ++ [f]) = fl T ++ [.int .i64 f.n, .int .i64 f.i, .int .i64 f.s, .bool f.g] := by simp [fl]
set_option maxRecDepth 20000 in
theorem fl_append (T T' : List Fc) : fl (T ++ T') = fl T ++ fl T' := by simp [fl]
set_option maxRecDepth 20000 in
theorem fl_get (T : List Fc) : ∀ k, k < T.length → (fl T)[k * 4]? = some (.int .i64 (T.getD k Fc.zero).n) ∧ (fl T)[k * 4 + 1]? = some (.int .i64 (T.getD k Fc.zero).i) ∧ (fl T)[k * 4 + 2]? = some (.int .i64 (T.getD k Fc.zero).s) ∧ (fl T)[k * 4 + 3]? = some (.bool (T.getD k Fc.zero).g) := by
  induction T with
  | nil => intro k hk; simp at hk
  | cons f r ih =>
    intro k hk
    have e : fl (f :: r) = [.int .i64 f.n, .int .i64 f.i, .int .i64 f.s, .bool f.g] ++ fl r := by simp [fl]
    rw [e]
    match k, hk with
    | 0, _ => simp
    | k + 1, hk =>
      have := ih k (by simpa using hk)
      rw [show (k + 1) * 4 = k * 4 + 4 by omega]
      simpa [List.getElem?_append] using this
set_option maxRecDepth 20000 in
/-- a list of its own, as the laws read it -/
theorem own_facts {w : World} {base : Nat} {v : Value} {n : Nat} {T : List Fc} (h : w.ownsRow base 59 4 v n (fl T)) : ∃ a cap, v = .slice a n cap ∧ n ≤ cap ∧ T.length = n ∧ FSl w a n (fun k => T.getD k Fc.zero) := by
  have h0 := h
  have hl : T.length = n := by have := h.1; rw [fl_len] at this; omega
  rcases h.2 with ⟨rfl, rfl⟩ | ⟨g, cap, cur, rfl, hg, hh, hc, _⟩
  · exact ⟨none, 0, rfl, Nat.le_refl _, hl, fun h => by omega⟩
  · refine ⟨_, cap, rfl, hc, hl, fun _ => ⟨g, 0, rfl, lt_of_block hh, fun k hk => ?_⟩⟩
    obtain ⟨e0, e1, e2, e3⟩ := fl_get T k (by omega)
    simp only [Nat.zero_add]
    exact ⟨(h0.cellAt _ (by omega)).trans e0, (h0.cellAt _ (by omega)).trans e1, (h0.cellAt _ (by omega)).trans e2, (h0.cellAt _ (by omega)).trans e3⟩
set_option maxRecDepth 20000 in
set_option maxHeartbeats 2000000 in
theorem regOf_any (a : Option Addr) (len cap : Nat) (F : Nat → Fc) (w : World) (h : FSl w a len F) (hok : tokB len F = true) :
    Calls Tryz.prog 169 #[.slice a len cap] w fun e w' => ∃ rb, e = .returned (.pointer (some ⟨rb, 0, none⟩)) ∧ Reg w' w.heap.size rb len (seqF F len) ∧ Below w.heap.size w w' := by
  have hl := tok_len hok
  obtain ⟨t1, t2⟩ := tok_all hok
  have hok' : Hid (tokB len F = true) := hok
  clear hok hok'
  have hmm := @run_makeMap Tryz.prog
  go_enter Tryz.func169, Tryz.ntmps169
  go_wp2_with fail
  have B0 : Below w.heap.size w ((w.alloc (.map #[] 0)).alloc (.cells #[.slice none 0 0, .map (some w.heap.size)] 187)) := balloc _ (balloc _ (Below.refl _ _))
  have R0 : Reg ((w.alloc (.map #[] 0)).alloc (.cells #[.slice none 0 0, .map (some w.heap.size)] 187)) w.heap.size (w.heap.size + 1) 0 (seqF F 0) :=
    ⟨_, w.heap.size, _, by have := heap_alloc_new (w.alloc (.map #[] 0)) (.cells #[.slice none 0 0, .map (some w.heap.size)] 187); simpa using this, by omega, Nat.le_refl _, World.ownsRow_nil _ _ _ _, (World.ownsMap_made w _ _ _).alloc _, kept_nil⟩
  generalize ((w.alloc (.map #[] 0)).alloc (.cells #[.slice none 0 0, .map (some w.heap.size)] 187)) = W0 at *
  go_loopw [11] (fun i wr => ∃ k : Nat, k ≤ len ∧ i = .int .i64 k ∧ Reg wr w.heap.size (w.heap.size + 1) k (seqF F k) ∧ Below w.heap.size w wr) (fun i _ => len - (intOf i).toNat)
  case atStart => exact ⟨0, Nat.zero_le _, rfl, R0, B0⟩
  case round =>
    obtain ⟨k, hk, rfl, hR, hb⟩ := hrel
    clear hmm R0 B0
    by_cases hlt : k < len
    · obtain ⟨b, off, rfl, hbl, hf⟩ := h (by omega)
      obtain ⟨c0, c1, c2, c3⟩ := (hf.below hb hbl) k hlt
      go_wp2_with fail
      refine (put_any w.heap.size (w.heap.size + 1) k (seqF F k) (F k) _ (hR.below (balloc _ (Below.refl _ _))) (seqF_asc t2 k (by omega)) (fun g hg => by obtain ⟨j, hj, rfl⟩ := seqF_mem hg; exact t1 j (by omega)) (t1 k hlt) (by have := hb.size; simp; omega) (by omega)).mono ?_
      rintro e w1 ⟨rfl, R1, b1⟩
      rw [seqF_put t2 hlt] at R1
      have B1 := (balloc _ hb).trans b1
      clear hR c0 c1 c2 c3 b1
      go_wp2
      go_roundw
      case rel => exact ⟨k + 1, by omega, by go_num, R1, B1⟩
      case measure => simp [intOf]; omega
    · go_wp2
      go_ret
      have e : k = len := by omega
      subst e
      exact ⟨_, rfl, hR, hb⟩
end Go.Proofs.YthekjfdggfbelaaGreat
/- What a register tells; the program's TableOf, TablePut, TableJoin. -/
namespace Go.Proofs.YthekjfdggfbelaaGreat
open Go.ChangeShapes Go.WideShapes Go.ChangeAt Go.RowKit
attribute [local go_sem ↓] Go.wp_at_zero Go.wp_at_succ
set_option maxRecDepth 20000 in
theorem tget_at : ∀ {T : List Fc} (k : Nat), Asc T → k < T.length → tget T (T.getD k Fc.zero).n = some (T.getD k Fc.zero)
  | [], k, _, h => by simp at h
  | g :: r, 0, _, _ => by rw [tget_cons]; simp
  | g :: r, k + 1, h, hk => by
    obtain ⟨h1, h2⟩ := asc_cons.1 h
    have hk' : k < r.length := by simpa using hk
    have e : (g :: r).getD (k + 1) Fc.zero = r.getD k Fc.zero := by simp
    rw [e, tget_cons, if_neg, tget_at k h2 hk']
    have := h1 (r.getD k Fc.zero) (by simp [List.getD, hk'])
    omega
set_option maxRecDepth 20000 in
theorem take_snoc (T : List Fc) (k : Nat) (h : k < T.length) : T.take (k + 1) = T.take k ++ [T.getD k Fc.zero] := by
  rw [List.take_add_one]
  simp [List.getD, h]
set_option maxRecDepth 20000 in
theorem wpList_lookup_fact0 {w : World} {ops : Array Oper} {rest : List Oper} {o : Oper} {a : Act} {Q : Exit → Act → World → Prop} (hg : o.guard = none) (m x : Operand) (hop : o.op = Op.lookup 185 m x false)
    (b n : Nat) (D : DataW Unit) (T : List Fc) (hm : a.eval m = .map (some b)) (hown : w.ownsMap Tryz.prog 3 fE b n D) (hT : Kept D T) (k : Int) (hx : a.eval x = .int .i64 k) (hk : (Lit.int .i64 k).wf = true)
    (g : Fc) (hgk : (tget T k).getD Fc.zero = g) (hK : wpList Tryz.prog ops Q rest (a.put o.dst (fval g)) w) :
    wpList Tryz.prog ops Q (o :: rest) a w := by
  refine wpList_plain hg fun K' hK' => ?_
  obtain ⟨v, ps, hrun, hv⟩ := hown.lookup keyed3 Tryz.underlying185 (zero30 w) (fE_mk Fc.zero) (Maps.keyOf_int_mk Tryz.underlying3 hk)
  obtain ⟨f, rfl, hz⟩ := fE_inv hv
  simp only [Prod.mk.injEq] at hz
  rw [(hT k).2, hgk] at hz
  rw [← fd_inj hz.1] at hrun
  unfold Oper.wp
  simp [execOp, hop, hm, hx, hrun, Result.andThen]
  exact hK' _ _ hK
set_option maxRecDepth 20000 in
set_option maxHeartbeats 2000000 in
theorem list_any (base rb c : Nat) (T : List Fc) (w : World) (hR : Reg w base rb c T) (hT : Asc T) (hok : ∀ g ∈ T, fok g = true) (hl : T.length ≤ 100) :
    Calls Tryz.prog 171 #[.pointer (some ⟨rb, 0, none⟩)] w fun e w' => ∃ v, e = .returned v ∧ w'.ownsRow w.heap.size 59 4 v T.length (fl T) ∧ Below w.heap.size w w' := by
  obtain ⟨ti, hi, hz0, hz1, hz2⟩ := info_parts info24
  obtain ⟨v, mb, D, h1, h2, h3, h4, h5, h6⟩ := hR
  have r0 := cell_block (o := 0) h1 rfl
  have h4' : w.ownsRow base 3 1 v (T.map (·.n)).length (lv (T.map (·.n))) := by rw [List.length_map]; exact h4
  obtain ⟨av, cv, rfl, _, hI⟩ := own_list h4'
  clear h4'
  simp only [List.length_map] at hI
  rw [List.length_map] at r0 h1
  clear h4
  go_enter Tryz.func171, Tryz.ntmps171
  go_wp2_with fail
  go_loopw [3, 5, 11] (fun x _ i wr => ∃ k : Nat, k ≤ T.length ∧ i = .int .i64 k ∧ wr.ownsRow w.heap.size 59 4 x k (fl (T.take k)) ∧ Below w.heap.size w wr) (fun _ _ i _ => T.length - (intOf i).toNat)
  case atStart => exact ⟨0, Nat.zero_le _, rfl, World.ownsRow_nil _ _ _ _, Below.refl _ _⟩
  case round =>
    obtain ⟨k, hk, rfl, hown, hb⟩ := hrel
    clear r0
    by_cases hlt : k < T.length
    · obtain ⟨b, off, rfl, hbl, hf⟩ := hI (by omega)
      have c1 : ((T.map (·.n)).getD k 0) = (T.getD k Fc.zero).n := by simp [List.getD, hlt]
      have c0 : wr.cell? ⟨b, off + k, none⟩ = some (.int .i64 (T.getD k Fc.zero).n) := by rw [← c1]; exact (hf.below hb hbl) k hlt
      clear c1
      have ts := take_snoc T k hlt
      have i0 : (0 : Int) ≤ (k : Int) := by omega
      have i1 : (k : Int) < (T.length : Int) := by omega
      have r1 := cell_block (o := 1) ((hb.block rb (lt_of_block h1)).trans h1) rfl
      have hk0 := tget_at k hT hlt
      have hfk : fok (T.getD k Fc.zero) = true := hok _ (tget_mem hk0).1
      have hmm := map_below h5 hb
      generalize T.getD k Fc.zero = f at *
      go_wp2_with (first | (at_lookup; refine wpList_lookup_fact0 rfl _ _ rfl mb c D T rfl hmm h6 f.n rfl (fok_wf hfk) f (by rw [hk0]; rfl) ?_) | (at_builtin; refine wpList_append_own _ rfl _ _ 32 rfl w.heap.size 59 ti (fval Fc.zero) 4 32 Tryz.underlying32 hi hz0 hz1 hz2 rfl (by decide) _ _ _ rfl (hown.alloc _) ⟨wr.heap.size, 0, none⟩ 1 1 [.int .i64 f.n, .int .i64 f.i, .int .i64 f.s, .bool f.g] rfl rfl ?c1 ?c2 ?c3 ?c4 ?c5 ?_))
      case c1 =>
        intro j u hj
        match j, hj with
        | 0, hj => simp at hj; subst hj; simp [Addr.add]
        | 1, hj => simp at hj; subst hj; simp [Addr.add]
        | 2, hj => simp at hj; subst hj; simp [Addr.add]
        | 3, hj => simp at hj; subst hj; simp [Addr.add]
      case c2 => intro u hu; simp at hu; rcases hu with rfl | rfl | rfl | rfl <;> rfl
      case c3 => unfold maxLen; omega
      case c4 => omega
      case c5 => have := hb.size; simp; omega
      · intro v' w2 hown' hgrow _
        have B2 := own_grow (balloc (.cells #[.int .i64 f.n, .int .i64 f.i, .int .i64 f.s, .bool f.g] 59) hb) (by have := hb.size; simp; omega) (hown.alloc _) hgrow
        clear hown hgrow hb c0 r1 hmm
        go_wp2
        go_roundw
        case rel => exact ⟨k + 1, by omega, by go_num, by rw [ts, fl_snoc]; exact hown', B2⟩
        case measure => simp [intOf]; omega
    · go_wp2
      go_ret
      have e : k = T.length := by omega
      subst e
      rw [List.take_length] at hown
      exact ⟨_, rfl, hown, hb⟩
end Go.Proofs.YthekjfdggfbelaaGreat
/- What two tables say together: the program's way and the model's. -/
namespace Go.Proofs.YthekjfdggfbelaaGreat
open Go.ChangeShapes Go.WideShapes Go.ChangeAt Go.RowKit
attribute [local go_sem ↓] Go.wp_at_zero Go.wp_at_succ
/-- all of U put to T -/
def tjoin (T U : List Fc) : List Fc := U.foldl tput T
set_option maxRecDepth 20000 in
theorem tjoin_succ (T : List Fc) (G : Nat → Fc) (k : Nat) : tjoin T (seqF G (k + 1)) = tput (tjoin T (seqF G k)) (G k) := by
  unfold tjoin
  rw [seqF_succ, List.foldl_append]
  rfl
set_option maxRecDepth 20000 in
theorem tjoin_asc {T : List Fc} (h : Asc T) (G : Nat → Fc) : ∀ k, Asc (tjoin T (seqF G k))
  | 0 => h
  | k + 1 => by rw [tjoin_succ]; exact tput_asc (tjoin_asc h G k)
set_option maxRecDepth 20000 in
theorem tjoin_ok {T : List Fc} {G : Nat → Fc} {len : Nat} (h : ∀ g ∈ T, fok g = true) (hG : ∀ k, k < len → fok (G k) = true) : ∀ k, k ≤ len → ∀ g ∈ tjoin T (seqF G k), fok g = true
  | 0, _ => h
  | k + 1, hk => by
    rw [tjoin_succ]
    intro g hg
    rcases tput_mem hg with rfl | hg
    · exact hG k (by omega)
    · exact tjoin_ok h hG k (by omega) g hg
set_option maxRecDepth 20000 in
theorem ok_short {T : List Fc} (h : Asc T) (hok : ∀ g ∈ T, fok g = true) : T.length ≤ 8 := by
  rcases asc_short T 0 h (fun g hg => by have := hok g hg; unfold fok fokB inb at this; simp at this; omega) with h | h
  · omega
  · simp [h]
def tj (len : Nat) (F : Nat → Fc) (len2 : Nat) (G : Nat → Fc) : List Fc := if (tokB len F && tokB len2 G) = true then tjoin (seqF F len) (seqF G len2) else []
set_option maxRecDepth 20000 in
theorem seqF_ok {F : Nat → Fc} {len : Nat} (h : ∀ k, k < len → fok (F k) = true) : ∀ g ∈ seqF F len, fok g = true := fun g hg => by
  obtain ⟨k, hk, rfl⟩ := seqF_mem hg
  exact h k hk
set_option maxRecDepth 20000 in
theorem tj_len (len : Nat) (F : Nat → Fc) (len2 : Nat) (G : Nat → Fc) : (tj len F len2 G).length ≤ 8 := by
  unfold tj
  split
  · rename_i h
    rw [Bool.and_eq_true] at h
    obtain ⟨t1, t2⟩ := tok_all h.1
    obtain ⟨u1, _⟩ := tok_all h.2
    exact ok_short (tjoin_asc (seqF_asc t2 len (Nat.le_refl _)) G len2) (tjoin_ok (seqF_ok t1) u1 len2 (Nat.le_refl _))
  · simp
set_option maxRecDepth 20000 in
set_option maxHeartbeats 2000000 in
theorem joined_any (a : Option Addr) (len cap : Nat) (F : Nat → Fc) (a2 : Option Addr) (len2 cap2 : Nat) (G : Nat → Fc) (w : World) (h : FSl w a len F) (h2 : FSl w a2 len2 G) (hok : tokB len F = true) (hok2 : tokB len2 G = true) :
    Calls Tryz.prog 155 #[.slice a len cap, .slice a2 len2 cap2] w fun e w' => ∃ v, e = .returned v ∧ w'.ownsRow w.heap.size 59 4 v (tjoin (seqF F len) (seqF G len2)).length (fl (tjoin (seqF F len) (seqF G len2))) ∧ Below w.heap.size w w' := by
  have hl := tok_len hok
  have hl2 := tok_len hok2
  obtain ⟨t1, t2⟩ := tok_all hok
  obtain ⟨u1, u2⟩ := tok_all hok2
  have hokH : Hid (tokB len F = true) := hok
  clear hok hok2
  have hA := tjoin_asc (seqF_asc t2 len (Nat.le_refl _)) G
  have hO := tjoin_ok (seqF_ok t1) u1
  go_enter Tryz.func155, Tryz.ntmps155
  go_wp2_with fail
  refine (regOf_any a len cap F _ h hokH.out).mono ?_
  rintro r w1 ⟨rb, rfl, R1, b1⟩
  go_wp2_with fail
  go_loopw [12] (fun i wr => ∃ k : Nat, k ≤ len2 ∧ i = .int .i64 k ∧ Reg wr w.heap.size rb (len + k) (tjoin (seqF F len) (seqF G k)) ∧ Below w.heap.size w wr) (fun i _ => len2 - (intOf i).toNat)
  case atStart => exact ⟨0, Nat.zero_le _, rfl, R1, b1⟩
  case round =>
    obtain ⟨k, hk, rfl, hR, hb⟩ := hrel
    clear R1 b1
    by_cases hlt : k < len2
    · obtain ⟨b, off, rfl, hbl, hf⟩ := h2 (by omega)
      obtain ⟨c0, c1, c2, c3⟩ := (hf.below hb hbl) k hlt
      go_wp2_with fail
      refine (put_any w.heap.size rb (len + k) (tjoin (seqF F len) (seqF G k)) (G k) _ (hR.below (balloc _ (Below.refl _ _))) (hA k) (hO k (by omega)) (u1 k hlt) (by have := hb.size; simp; omega) (by omega)).mono ?_
      rintro e w2 ⟨rfl, R2, b2⟩
      rw [← tjoin_succ] at R2
      have B2 := (balloc _ hb).trans b2
      clear hR c0 c1 c2 c3 b2
      go_wp2
      go_roundw
      case rel => exact ⟨k + 1, by omega, by go_num, R2, B2⟩
      case measure => simp [intOf]; omega
    · have e : k = len2 := by omega
      subst e
      have hs := ok_short (hA k) (hO k (Nat.le_refl _))
      go_wp2_with fail
      refine (list_any w.heap.size rb (len + k) _ _ hR (hA k) (hO k (Nat.le_refl _)) (by omega)).mono ?_
      rintro r w2 ⟨v, rfl, o2, b2⟩
      go_wp2
      go_ret
      exact ⟨v, rfl, own_mono hb.size o2, btrans hb b2⟩
set_option maxRecDepth 20000 in
set_option maxHeartbeats 4000000 in
theorem fjoin_any (a : Option Addr) (len cap : Nat) (F : Nat → Fc) (a2 : Option Addr) (len2 cap2 : Nat) (G : Nat → Fc) (w : World) (h : FSl w a len F) (h2 : FSl w a2 len2 G) (hl : len ≤ 1048576) (hl2 : len2 ≤ 1048576) :
    Calls Tryz.prog 110 #[.slice a len cap, .slice a2 len2 cap2] w fun e w' => ∃ v, e = .returned v ∧ w'.ownsRow w.heap.size 59 4 v (tj len F len2 G).length (fl (tj len F len2 G)) ∧ Below w.heap.size w w' := by
  cases hok0 : tokB len F
  · have hok : Hid (tokB len F = false) := hok0
    have e1 : tj len F len2 G = [] := by unfold tj; rw [hok0]; rfl
    rw [e1]
    clear hok0 e1
    go_enter Tryz.func110, Tryz.ntmps110
    go_wp2_with fail
    refine (tok_lit a len cap F false _ h hl hok.out).mono ?_
    rintro r w1 ⟨rfl, b1⟩
    go_wp2
    go_ret
    exact ⟨_, rfl, World.ownsRow_nil _ _ _ _, b1⟩
  · have hok : Hid (tokB len F = true) := hok0
    cases hok1 : tokB len2 G
    · have hokG : Hid (tokB len2 G = false) := hok1
      have e1 : tj len F len2 G = [] := by unfold tj; rw [hok0, hok1]; rfl
      rw [e1]
      clear hok0 hok1 e1
      go_enter Tryz.func110, Tryz.ntmps110
      go_wp2_with fail
      refine (tok_lit a len cap F true _ h hl hok.out).mono ?_
      rintro r w1 ⟨rfl, b1⟩
      go_wp2_with fail
      refine (tok_lit a2 len2 cap2 G false _ (h2.below b1) hl2 hokG.out).mono ?_
      rintro r w2 ⟨rfl, b2⟩
      go_wp2
      go_ret
      exact ⟨_, rfl, World.ownsRow_nil _ _ _ _, btrans b1 b2⟩
    · have hokG : Hid (tokB len2 G = true) := hok1
      have e1 : tj len F len2 G = tjoin (seqF F len) (seqF G len2) := by unfold tj; rw [hok0, hok1]; rfl
      rw [e1]
      clear hok0 hok1 e1
      go_enter Tryz.func110, Tryz.ntmps110
      go_wp2_with fail
      refine (tok_lit a len cap F true _ h hl hok.out).mono ?_
      rintro r w1 ⟨rfl, b1⟩
      go_wp2_with fail
      refine (tok_lit a2 len2 cap2 G true _ (h2.below b1) hl2 hokG.out).mono ?_
      rintro r w2 ⟨rfl, b2⟩
      have B2 := btrans b1 b2
      go_wp2_with fail
      refine (joined_any a len cap F a2 len2 cap2 G _ (h.below B2) (h2.below B2) hok.out hokG.out).mono ?_
      rintro r w3 ⟨v, rfl, o3, b3⟩
      go_wp2
      go_ret
      exact ⟨v, rfl, own_mono B2.size o3, btrans B2 b3⟩
end Go.Proofs.YthekjfdggfbelaaGreat
