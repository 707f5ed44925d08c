/- Tables as lists: a fact more; what is there of a node. -/
import Derived.Test.YtoimfgfhlbkdcaaGreatDoorGatesF
import Derived.Test.YtoimfgfhlbkdcaaGreatDoorShelf
import Derived.Maps.OwnSet
import Derived.Lib.OwnBridge
import Derived.Sort.OwnSortedInts
import Derived.Sort.LotA
import Derived.Laws.IdiomStrings
import Derived.Lib.Join
namespace Go.Proofs.YtoimfgfhlbkdcaaGreatDoor
/-- a fact overrides another one of its node -/
def ovr (f g : Fc) : Bool := l3B f.i f.s f.g g.i g.s g.g
/-- ascending by nodes -/
def Asc (T : List Fc) : Prop := T.Pairwise fun f g => f.n < g.n
def fok (f : Fc) : Bool := fokB f.n f.i f.s
/-- a table with a fact more -/
def tput : List Fc → Fc → List Fc
  | [], f => [f]
  | g :: r, f => if g.n < f.n then g :: tput r f else if g.n = f.n then (if ovr f g then f :: r else g :: r) else f :: g :: r
def tget (T : List Fc) (k : Int) : Option Fc := T.find? fun g => decide (g.n = k)
/-- whether that says anything new -/
def tnew (T : List Fc) (f : Fc) : Bool := match tget T f.n with
  | some g => ovr f g
  | none => true
theorem tget_cons (g : Fc) (r : List Fc) (k : Int) : tget (g :: r) k = if g.n = k then some g else tget r k := by
  unfold tget
  rw [List.find?_cons]
  by_cases h : g.n = k <;> simp [h]
theorem tget_mem {T : List Fc} {k : Int} {g : Fc} (h : tget T k = some g) : g ∈ T ∧ g.n = k := by
  have h1 := List.mem_of_find?_eq_some h
  have h2 := List.find?_some h
  exact ⟨h1, by simpa using h2⟩
theorem tget_none {T : List Fc} {k : Int} (h : tget T k = none) : ∀ g ∈ T, g.n ≠ k := by
  intro g hg
  have := List.find?_eq_none.1 h g hg
  simpa using this
theorem tget_low {r : List Fc} {k : Int} (h : ∀ g ∈ r, k < g.n) : tget r k = none := by
  unfold tget
  rw [List.find?_eq_none]
  intro g hg
  have := h g hg
  simp
  omega
theorem asc_cons {g : Fc} {r : List Fc} : Asc (g :: r) ↔ (∀ x ∈ r, g.n < x.n) ∧ Asc r := List.pairwise_cons
theorem tput_mem {T : List Fc} {f x : Fc} (h : x ∈ tput T f) : x = f ∨ x ∈ T := by
  induction T with
  | nil => simp [tput] at h; exact .inl h
  | cons g r ih =>
    unfold tput at h
    split at h
    · rcases List.mem_cons.1 h with h | h
      · exact .inr (by simp [h])
      · exact (ih h).imp id (fun h => List.mem_cons_of_mem _ h)
    · split at h
      · split at h
        · rcases List.mem_cons.1 h with h | h
          · exact .inl h
          · exact .inr (List.mem_cons_of_mem _ h)
        · exact .inr h
      · rcases List.mem_cons.1 h with h | h
        · exact .inl h
        · exact .inr h
theorem tput_asc {T : List Fc} {f : Fc} (h : Asc T) : Asc (tput T f) := by
  induction T with
  | nil => simp [tput, Asc]
  | cons g r ih =>
    obtain ⟨h1, h2⟩ := asc_cons.1 h
    unfold tput
    split
    · rename_i hlt
      refine asc_cons.2 ⟨fun x hx => ?_, ih h2⟩
      rcases tput_mem hx with rfl | hx
      · exact hlt
      · exact h1 x hx
    · split
      · rename_i heq
        split
        · exact asc_cons.2 ⟨fun x hx => by have := h1 x hx; omega, h2⟩
        · exact h
      · refine asc_cons.2 ⟨fun x hx => ?_, h⟩
        rcases List.mem_cons.1 hx with rfl | hx
        · omega
        · have := h1 x hx; omega
theorem tget_tput {T : List Fc} {f : Fc} (h : Asc T) (k : Int) : tget (tput T f) k = if k = f.n ∧ tnew T f = true then some f else tget T k := by
  induction T with
  | nil =>
    have e0 : tnew [] f = true := rfl
    rw [e0, show tput [] f = [f] from rfl, tget_cons]
    by_cases e : f.n = k
    · rw [if_pos e, if_pos ⟨e.symm, rfl⟩]
    · rw [if_neg e, if_neg (fun h => e h.1.symm)]
  | cons g r ih =>
    obtain ⟨h1, h2⟩ := asc_cons.1 h
    unfold tput
    split
    · rename_i hlt
      have e : tnew (g :: r) f = tnew r f := by
        unfold tnew
        rw [tget_cons, if_neg (by omega)]
      rw [tget_cons, ih h2, e, tget_cons]
      by_cases hk : g.n = k
      · rw [if_pos hk, if_pos hk, if_neg (by omega)]
      · rw [if_neg hk, if_neg hk]
    · rename_i hnl
      split
      · rename_i heq
        have e : tnew (g :: r) f = ovr f g := by
          unfold tnew
          rw [tget_cons, if_pos heq]
        rw [e]
        split
        · rename_i ho
          rw [tget_cons, tget_cons]
          by_cases hk : f.n = k
          · rw [if_pos hk, if_pos ⟨hk.symm, ho⟩]
          · rw [if_neg hk, if_neg (fun h => hk h.1.symm), if_neg (by omega)]
        · rename_i ho
          rw [if_neg (fun h => ho h.2)]
      · rename_i hne
        have e : tnew (g :: r) f = true := by
          unfold tnew
          rw [tget_cons, if_neg hne, tget_low (fun x hx => by have := h1 x hx; omega)]
        rw [e, tget_cons]
        by_cases hk : f.n = k
        · rw [if_pos hk, if_pos ⟨hk.symm, rfl⟩]
        · rw [if_neg hk, if_neg (fun h => hk h.1.symm)]
theorem tput_old {T : List Fc} {f g : Fc} (h : Asc T) (hg : tget T f.n = some g) : (tput T f).map (·.n) = T.map (·.n) := by
  induction T with
  | nil => simp [tget] at hg
  | cons x r ih =>
    obtain ⟨h1, h2⟩ := asc_cons.1 h
    rw [tget_cons] at hg
    unfold tput
    split
    · rename_i hlt
      rw [if_neg (by omega)] at hg
      simp [ih h2 hg]
    · rename_i hnl
      split
      · rename_i heq
        split
        · simp [heq]
        · rfl
      · rename_i hne
        rw [if_neg hne] at hg
        have := tget_low (r := r) (k := f.n) (fun y hy => by have := h1 y hy; omega)
        rw [this] at hg
        cases hg
theorem tput_no {T : List Fc} {f g : Fc} (h : Asc T) (hg : tget T f.n = some g) (ho : ovr f g = false) : tput T f = T := by
  induction T with
  | nil => simp [tget] at hg
  | cons x r ih =>
    obtain ⟨h1, h2⟩ := asc_cons.1 h
    rw [tget_cons] at hg
    unfold tput
    split
    · rename_i hlt
      rw [if_neg (by omega)] at hg
      rw [ih h2 hg]
    · rename_i hnl
      split
      · rename_i heq
        rw [if_pos heq] at hg
        cases hg
        simp [ho]
      · rename_i hne
        rw [if_neg hne] at hg
        have := tget_low (r := r) (k := f.n) (fun y hy => by have := h1 y hy; omega)
        rw [this] at hg
        cases hg
theorem tput_perm {T : List Fc} {f : Fc} (hg : tget T f.n = none) : (tput T f).Perm (T ++ [f]) := by
  induction T with
  | nil => exact List.Perm.refl _
  | cons x r ih =>
    rw [tget_cons] at hg
    by_cases hx : x.n = f.n
    · rw [if_pos hx] at hg; cases hg
    · rw [if_neg hx] at hg
      unfold tput
      split
      · exact (ih hg).cons x
      · have : (f :: (x :: r)).Perm ((x :: r) ++ [f]) := (List.perm_append_comm (l₁ := [f]) (l₂ := x :: r))
        exact this
theorem tput_len {T : List Fc} {f : Fc} (hg : tget T f.n = none) : (tput T f).length = T.length + 1 := by
  have := (tput_perm hg).length_eq
  simpa using this
theorem tput_len_le (T : List Fc) (f : Fc) : (tput T f).length ≤ T.length + 1 := by
  induction T with
  | nil => simp [tput]
  | cons g r ih =>
    unfold tput
    split
    · simp; omega
    · split
      · split <;> simp
      · simp
/-- an ascending list of nodes 0 to 7 is short -/
theorem asc_short : ∀ (T : List Fc) (lo : Nat), Asc T → (∀ f ∈ T, (lo : Int) ≤ f.n ∧ f.n ≤ 7) → T.length + lo ≤ 8 ∨ T = []
  | [], _, _, _ => .inr rfl
  | g :: r, lo, h, hall => by
    obtain ⟨h1, h2⟩ := asc_cons.1 h
    have hg := hall g (by simp)
    rcases asc_short r (lo + 1) h2 (fun f hf => by have := h1 f hf; have := hall f (by simp [hf]); omega) with h | h
    · left; simp; omega
    · left; subst h; simp; omega
end Go.Proofs.YtoimfgfhlbkdcaaGreatDoor
/- The register: a map of facts behind its order, in memory. -/
namespace Go.Proofs.YtoimfgfhlbkdcaaGreatDoor
open Go.ChangeShapes Go.WideShapes Go.ChangeAt Go.RowKit
attribute [local go_sem ↓] Go.wp_at_zero Go.wp_at_succ
/-- a fact as a value, and as it reads -/
abbrev fval (f : Fc) : Value := .agg #[.int .i64 f.n, .int .i64 f.i, .int .i64 f.s, .bool f.g]
def fd (f : Fc) : DataW Unit := .agg [.lit (.int .i64 f.n), .lit (.int .i64 f.i), .lit (.int .i64 f.s), .lit (.bool f.g)]
def fE : Value → Option (DataW Unit × List MemPlace)
  | .agg ⟨[.int .i64 a, .int .i64 b, .int .i64 c, .bool g]⟩ => some (fd ⟨a, b, c, g⟩, [])
  | _ => none
theorem fE_mk (f : Fc) : fE (fval f) = some (fd f, []) := rfl
theorem fE_inv {v : Value} {z : DataW Unit × List MemPlace} (h : fE v = some z) : ∃ f, v = fval f ∧ z = (fd f, []) := by
  unfold fE at h
  split at h
  · simp only [Option.some.injEq] at h
    exact ⟨⟨_, _, _, _⟩, rfl, h.symm⟩
  · cases h
theorem fd_inj {f g : Fc} (h : fd f = fd g) : f = g := by
  obtain ⟨a, b, c, d⟩ := f
  obtain ⟨a', b', c', d'⟩ := g
  simpa [fd] using h
/-- the map holds the table -/
def Kept (D : DataW Unit) (T : List Fc) : Prop := ∀ k : Int, Maps.has D (.int .i64 k) = (tget T k).isSome ∧ D.atKey (.int .i64 k) (fd Fc.zero) = fd ((tget T k).getD Fc.zero)
theorem kept_nil : Kept (.map []) [] := fun _ => ⟨rfl, rfl⟩
theorem kept_put {D : DataW Unit} {T : List Fc} {f : Fc} (hD : Maps.IsMap D) (h : Kept D T) (ha : Asc T) (hn : tnew T f = true) : Kept (D.put (.int .i64 f.n) (fd f)) (tput T f) := fun k => by
  rw [tget_tput ha]
  by_cases e : k = f.n
  · subst e
    rw [if_pos ⟨rfl, hn⟩]
    exact ⟨Maps.has_put_same hD (by trivial) _, Maps.atKey_put_same hD (by trivial) _ _⟩
  · rw [if_neg (fun h => e h.1)]
    have hne : (Lit.int .i64 k) ≠ .int .i64 f.n := fun h => e (by simpa using h)
    rw [Maps.has_put_other hne, Maps.atKey_put_other hne]
    exact h k
theorem keyed3 : Maps.Keyed Tryz.prog 3 := Maps.int_keyed Tryz.underlying3
theorem zero30 (w : World) : (zeroValue 57).run Tryz.prog w = .ok (fval Fc.zero) w := by kernel_rfl
theorem wpList_lookup_fact {w : World} {ops : Array Oper} {rest : List Oper} {o : Oper} {a : Act} {Q : Exit → Act → World → Prop} (hg : o.guard = none) (m x : Operand) (hop : o.op = Op.lookup 211 m x true)
    (b n : Nat) (D : DataW Unit) (T : List Fc) (hm : a.eval m = .map (some b)) (hown : w.ownsMap Tryz.prog 3 fE b n D) (hT : Kept D T) (k : Int) (hx : a.eval x = .int .i64 k) (hk : (Lit.int .i64 k).wf = true)
    (g : Fc) (q : Bool) (hgk : (tget T k).getD Fc.zero = g) (hq : (tget T k).isSome = q)
    (hK : wpList Tryz.prog ops Q rest (a.put o.dst (.tuple #[fval g, .bool q])) w) :
    wpList Tryz.prog ops Q (o :: rest) a w :=
  wpList_lookup_own_ok w hg m x 211 hop 3 57 keyed3 Tryz.underlying211 fE (zero30 w) (fd Fc.zero) [] rfl b n D hm hown _ _ hx (Maps.keyOf_int_mk Tryz.underlying3 hk) (fun v ps hv => by
    obtain ⟨f, rfl, hz⟩ := fE_inv hv
    simp only [Prod.mk.injEq] at hz
    rw [(hT k).2, hgk] at hz
    rw [(hT k).1, hq, ← fd_inj hz.1]
    exact hK)
/-- a register that holds a table -/
def Reg (w : World) (base rb c : Nat) (T : List Fc) : Prop :=
  ∃ v mb D, w.heap[rb]? = some (.cells #[v, .map (some mb)] 213 (0, 0)) ∧ base ≤ rb ∧ base ≤ mb ∧ w.ownsRow base 3 1 v T.length (lv (T.map (·.n))) ∧ w.ownsMap Tryz.prog 3 fE mb c D ∧ Kept D T
theorem Reg.below {w w' : World} {base rb c : Nat} {T : List Fc} (h : Reg w base rb c T) (hb : Below w.heap.size w w') : Reg w' base rb c T := by
  obtain ⟨v, mb, D, h1, h2, h3, h4, h5, h6⟩ := h
  have hm := h5
  obtain ⟨es, clock, e1, r⟩ := h5
  exact ⟨v, mb, D, (hb.block rb (lt_of_block h1)).trans h1, h2, h3, own_below h4 hb, ⟨es, clock, (hb.block mb hm.lt).trans e1, r⟩, h6⟩
end Go.Proofs.YtoimfgfhlbkdcaaGreatDoor
/- The library's sort at the register's order. -/
namespace Go.Proofs.YtoimfgfhlbkdcaaGreatDoor
open Go.ChangeShapes Go.WideShapes Go.ChangeAt Go.RowKit
attribute [local go_sem ↓] Go.wp_at_zero Go.wp_at_succ
open Go.Shelf Go.Lib Go.Sort
set_option maxRecDepth 20000 in
theorem siT : ∃ i, Tryz.prog.info? 24 = some i ∧ i.desc = .slice 3 := ⟨(Tryz.prog.info? 24).get (by kernel_rfl), by kernel_rfl, by kernel_rfl⟩
set_option maxRecDepth 20000 in
theorem siE : ∃ i, Tryz.prog.info? 3 = some i ∧ i.size = 1 ∧ i.hasPointers = false ∧ i.bytes = 8 := ⟨(Tryz.prog.info? 3).get (by kernel_rfl), by kernel_rfl, by kernel_rfl, by kernel_rfl, by kernel_rfl⟩
set_option maxRecDepth 20000 in
set_option maxHeartbeats 2000000 in
/-- the closure: it reads the box, the register's order, and two of its row -/
theorem sless_any (bx rb blk c size : Nat) (W : World) (G : Nat → Int) (hb : W.cell? ⟨bx, 0, none⟩ = some (.pointer (some ⟨rb, 0, none⟩))) (hs : W.cell? ⟨rb, 0, none⟩ = some (.slice (some ⟨blk, 0, none⟩) size c))
    (hc : ∀ t, t < size → W.cell? ⟨blk, t, none⟩ = some (.int .i64 (G t))) (i j : Nat) (hi : i < size) (hj : j < size) :
    Calls Tryz.prog 193 #[.int .i64 i, .int .i64 j, .pointer (some ⟨bx, 0, none⟩)] W fun e w' => e = .returned (.bool (decide (G i < G j))) ∧ ∃ q, w' = W.drewN q := by
  have ci := hc i hi
  have cj := hc j hj
  go_enter Tryz.func193, Tryz.ntmps193
  go_wp2
  go_quiet (fail)
  go_wp2
  go_ret
  exact ⟨rfl, nq, rfl⟩
set_option maxRecDepth 20000 in
set_option maxHeartbeats 2000000 in
theorem sort_two (bx rb g cap base : Nat) (L : List Int) (mv : Value) (w : World) (h2 : 2 ≤ L.length) (h12 : L.length ≤ 12) (hrb : w.heap[rb]? = some (.cells #[.slice (some ⟨g, 0, none⟩) L.length cap, mv] 213 (0, 0))) (hbx : w.heap[bx]? = some (.cells #[.pointer (some ⟨rb, 0, none⟩)] 193 (0, 0)))
    (hown : w.ownsRow base 3 1 (.slice (some ⟨g, 0, none⟩) L.length cap) L.length (lv L)) :
    Calls Tryz.prog 192 #[.iface 24 (.slice (some ⟨g, 0, none⟩) L.length cap), .func (.func 193) #[] #[.pointer (some ⟨bx, 0, none⟩)]] w fun e w' => e = .returned (.tuple #[]) ∧
      w'.ownsRow base 3 1 (.slice (some ⟨g, 0, none⟩) L.length cap) L.length (lv (L.mergeSort fun x y => decide (x ≤ y))) ∧ w.grownBy w' (some g) := by
  obtain ⟨iT, hiT, hdT⟩ := siT
  obtain ⟨iE, hiE, hsz, hpt, hby⟩ := siE
  have hK : Lib.swapperK L.toArray.size iE 2 = 5 := by
    have c : (L.length == 0) = false := by rw [beq_eq_false_iff_ne]; omega
    have d : (L.length == 1) = false := by rw [beq_eq_false_iff_ne]; omega
    simp [Lib.swapperK, hpt, hby, c, d]
  rcases hown.2 with ⟨h0, _⟩ | ⟨g1, cap1, cur, hv, hbase, hb, h1, h2', h3, h4⟩
  · cases h0
  cases hv
  have hH : Holds (Value.int .i64) w g 0 L.toArray := holds_of_blockI hb (by simpa [lv] using h4)
  have hgl : g < w.heap.size := lt_of_block hb
  have n1 : rb ≠ g := fun e => by subst e; rw [hrb] at hb; simp at hb
  have n2 : bx ≠ g := fun e => by subst e; rw [hbx] at hb; simp at hb
  have hless : LessReads Tryz.prog 193 #[.pointer (some ⟨bx, 0, none⟩)] (Value.int .i64) ltInt g 0 L.toArray.size w := by
    intro m os dk hs i j hi hj
    have e : sortWorld (Value.int .i64) w g 0 m dk os = putRow (Value.int .i64) (grow (Sort.ahead w m) os) g 0 dk := by
      unfold sortWorld; rw [putRow_grow _ (Sort.ahead w m) _ g 0 _ hgl]
    have hHg : Holds (Value.int .i64) (grow (Sort.ahead w m) os) g 0 L.toArray := holds_grow _ _ _ g 0 _ hgl (holds_ahead _ _ _ _ _ _ hH)
    refine sless_any bx rb g cap L.toArray.size _ (fun t => dk[t]!) ?_ ?_ (fun t ht => ?_) i j hi hj
    · rw [e, cell?_putRow_other _ _ g 0 dk _ (Or.inl (by show bx ≠ g; omega)), cell?_grow _ _ _ (lt_of_block hbx)]
      show w.cell? _ = _
      simp [World.cell?, hbx]
    · rw [e, cell?_putRow_other _ _ g 0 dk _ (Or.inl (by show rb ≠ g; omega)), cell?_grow _ _ _ (lt_of_block hrb)]
      show w.cell? _ = _
      simp [World.cell?, hrb]
    · rw [e]
      have := cell?_putRow _ _ g 0 _ dk hHg hs t (by omega)
      rw [Nat.zero_add] at this
      exact this
  have hS := Any.sort_Slice_small_sorted Tryz.laysGg6 24 3 iT iE hiT hdT (by kernel_rfl) hiE 2 (fun _ => by kernel_rfl) hsz (fun _ => by kernel_rfl) (Value.int .i64) (fun _ => rfl) ltInt swo_ltInt 193 _
    (enters_of Tryz.func193 (by kernel_rfl) rfl) g 0 cap L.toArray (by simpa using h2) (by simpa using h12) 218 (by rw [hK]; kernel_rfl) true
    (fun args W => run_callFunc_extern Tryz.func218 (by kernel_rfl) (by kernel_rfl) (by kernel_rfl) (e := Extern.ReflectliteSwapper.swap true) (by kernel_rfl) args W) w hless hH hgl
  change Calls Tryz.prog 192 _ _ _ at hS
  refine hS.mono ?_
  rintro e w' ⟨rfl, d', n, os, hp, hso, rfl⟩
  have hd : d' = (L.mergeSort fun x y => decide (x ≤ y)).toArray := by
    have h := sorted_unique_holds (lt := ltInt) swo_ltInt (fun x y h1 h2 => by simp only [ltInt, decide_eq_false_iff_not] at h1 h2; omega) L.toArray d' hp hso
    have e : (fun x y : Int => !ltInt y x) = fun x y => decide (x ≤ y) := by
      funext x y
      simp only [ltInt]
      by_cases h : x ≤ y
      · first | (simp [h]; done) | (simp [h]; omega)
      · first | (simp [h]; done) | (simp [h]; omega)
    rw [e] at h
    rw [← h]
  subst hd
  exact ⟨rfl, ownsRow_sortedI (by simp [List.length_mergeSort]) hbase hb h1 h2' h3, grownBy_sortedI _⟩
set_option maxRecDepth 20000 in
theorem sort_one (bx g cap base : Nat) (x : Int) (w : World) (hown : w.ownsRow base 3 1 (.slice (some ⟨g, 0, none⟩) 1 cap) 1 (lv [x])) :
    Calls Tryz.prog 192 #[.iface 24 (.slice (some ⟨g, 0, none⟩) 1 cap), .func (.func 193) #[] #[.pointer (some ⟨bx, 0, none⟩)]] w fun e w' => e = .returned (.tuple #[]) ∧
      w'.ownsRow base 3 1 (.slice (some ⟨g, 0, none⟩) 1 cap) 1 (lv [x]) ∧ w.grownBy w' (some g) := by
  obtain ⟨iT, hiT, hdT⟩ := siT
  obtain ⟨iE, hiE, _, _, _⟩ := siE
  have hK : Lib.swapperK 1 iE 2 = 2 := by simp [Lib.swapperK]
  have hS := Any.sort_Slice_tiny Tryz.laysGg6 24 3 iT iE hiT hdT (by kernel_rfl) hiE 2 (fun _ => by kernel_rfl) (some ⟨g, 0, none⟩) 1 cap (by omega) 215 (by rw [hK]; kernel_rfl) (.func 193) #[] #[.pointer (some ⟨bx, 0, none⟩)] w
  change Calls Tryz.prog 192 _ _ _ at hS
  refine hS.mono ?_
  rintro e w' ⟨rfl, os, rfl⟩
  have hg : w.grownBy (grow w os) (some g) := ⟨rfl, rfl, rfl, by simp, fun k hk _ => heap_grow_old _ _ hk⟩
  exact ⟨rfl, hown.kept (row := none) ⟨rfl, rfl, rfl, by simp, fun k hk _ => heap_grow_old _ _ hk⟩ (.inr (by simp [Value.ownBlock])), hg⟩
set_option maxRecDepth 20000 in
/-- at whatever short list -/
theorem sort_any (bx rb cap base n : Nat) (a : Option Addr) (L : List Int) (mv : Value) (w : World) (h1 : 1 ≤ n) (h12 : n ≤ 12) (hrb : w.heap[rb]? = some (.cells #[.slice a n cap, mv] 213 (0, 0))) (hbx : w.heap[bx]? = some (.cells #[.pointer (some ⟨rb, 0, none⟩)] 193 (0, 0)))
    (hown : w.ownsRow base 3 1 (.slice a n cap) n (lv L)) :
    Calls Tryz.prog 192 #[.iface 24 (.slice a n cap), .func (.func 193) #[] #[.pointer (some ⟨bx, 0, none⟩)]] w fun e w' => e = .returned (.tuple #[]) ∧
      w'.ownsRow base 3 1 (.slice a n cap) n (lv (L.mergeSort fun x y => decide (x ≤ y))) ∧ w.grownBy w' (Value.slice a n cap).ownBlock := by
  have hl : L.length = n := by have := hown.1; simp [lv] at this; omega
  rcases own_shape hown with ⟨e, h0⟩ | ⟨g, c, e, _⟩
  · omega
  · simp only [Value.slice.injEq, true_and] at e
    obtain ⟨rfl, rfl⟩ := e
    subst hl
    match L, h1, hrb, h12, hown with
    | [x], _, _, _, hown =>
      have := sort_one bx g cap base x w hown
      simpa [Value.ownBlock] using this
    | x :: y :: r, _, hrb, h12, hown => exact sort_two bx rb g cap base (x :: y :: r) mv w (by simp) h12 hrb hbx hown
end Go.Proofs.YtoimfgfhlbkdcaaGreatDoor
/- The register takes a fact: the program's way. -/
namespace Go.Proofs.YtoimfgfhlbkdcaaGreatDoor
open Go.ChangeShapes Go.WideShapes Go.ChangeAt Go.RowKit
attribute [local go_sem ↓] Go.wp_at_zero Go.wp_at_succ
set_option maxRecDepth 20000 in
theorem over_any (f g : Fc) (w : World) :
    Calls Tryz.prog 258 #[fval f, fval g] w fun r w' => r = .returned (.bool (overB f.n f.i f.s f.g g.n g.i g.s g.g)) ∧ Below w.heap.size w w' := by
  go_enter Tryz.func258, Tryz.ntmps258
  go_wp2_with (go_at_call 134; refine (fover_any _ _ _ _ _ _ _ _ _).mono ?_; rintro e w' ⟨rfl, b1⟩)
  go_ret
  exact ⟨rfl, btrans (balloc _ (balloc _ (Below.refl _ _))) b1⟩
set_option maxRecDepth 20000 in
theorem over_ok {f g : Fc} (hf : fok f = true) (hg : fok g = true) (e : g.n = f.n) : overB f.n f.i f.s f.g g.n g.i g.s g.g = ovr f g := by
  unfold fok at hf hg
  unfold overB ovr
  rw [hf, hg]
  simp [e]
set_option maxRecDepth 20000 in
theorem cell_block {w : World} {b o : Nat} {cs : Array Value} {t : TypeId} {v : Value} (h : w.heap[b]? = some (.cells cs t (0, 0))) (hc : cs[o]? = some v) : w.cell? ⟨b, o, none⟩ = some v := by
  simp [World.cell?, h, hc]
set_option maxRecDepth 20000 in
theorem fok_wf {f : Fc} (h : fok f = true) : (Lit.int .i64 f.n).wf = true := by
  unfold fok fokB inb at h
  simp at h
  exact WalkArith.wf_i64 (by omega)
set_option maxRecDepth 20000 in
theorem map_ne {w : World} {mb c b o : Nat} {D : DataW Unit} {v : Value} (hm : w.ownsMap Tryz.prog 3 fE mb c D) (h : w.cell? ⟨b, o, none⟩ = some v) : b ≠ mb := fun e => by
  subst e
  obtain ⟨es, cl, h1, _⟩ := hm
  simp [World.cell?, h1] at h
set_option maxRecDepth 20000 in
theorem keep_map {w w' : World} {mb c b o : Nat} {D : DataW Unit} {v : Value} (hm : w.ownsMap Tryz.prog 3 fE mb c D) (hg : w.grownBy w' (some mb)) (h : w.cell? ⟨b, o, none⟩ = some v) : w'.cell? ⟨b, o, none⟩ = some v := hg.cell h (by simpa using map_ne hm h)
set_option maxRecDepth 20000 in
theorem keep_block {w w' : World} {b : Nat} {o : Obj} {r : Option Nat} (hg : w.grownBy w' r) (hr : some b ≠ r) (h : w.heap[b]? = some o) : w'.heap[b]? = some o := (hg.block b (lt_of_block h) hr).trans h
set_option maxRecDepth 20000 in
theorem block_ne {w : World} {mb c b : Nat} {D : DataW Unit} {cs : Array Value} {t : TypeId} {fz : Nat × Nat} (hm : w.ownsMap Tryz.prog 3 fE mb c D) (h : w.heap[b]? = some (.cells cs t fz)) : some b ≠ some mb := fun e => by
  simp only [Option.some.injEq] at e
  subst e
  obtain ⟨es, cl, h1, _⟩ := hm
  rw [h] at h1
  cases h1
set_option maxRecDepth 20000 in
theorem step_upd {w : World} {ops : Array Oper} {o : Oper} {a : Act} {K : Act → World → Prop} {Q : Exit → Act → World → Prop} {E : Prop} (hgd : o.guard = none) (m x v : Operand) (ho : o.op = .mapUpdate 211 m x v)
    (b n : Nat) (D : DataW Unit) (hm : a.eval m = .map (some b)) (hown : w.ownsMap Tryz.prog 3 fE b n D) (hn : n < maxLen) (k : Int) (hx : a.eval x = .int .i64 k) (hk : (Lit.int .i64 k).wf = true) (f : Fc) (hv : a.eval v = fval f)
    (h : ∀ w', w'.ownsMap Tryz.prog 3 fE b (n + 1) (D.put (.int .i64 k) (fd f)) → w.grownBy w' (some b) → K (a.put o.dst undef) w') :
    if Region.wanted o (yielded ops a.tmps) = true then Oper.wp Tryz.prog o a w K Q else E := by
  have hw : Region.wanted o (yielded ops a.tmps) = true := by simp [Region.wanted, hgd]
  rw [if_pos hw]
  obtain ⟨w', hrun, r1, r2⟩ := hown.update keyed3 Tryz.underlying211 hn (Maps.keyOf_int_mk Tryz.underlying3 hk) (fE_mk f)
  unfold Oper.wp
  simp [execOp, ho, hm, hx, hv, hrun, Result.andThen]
  exact h _ r1 r2
set_option maxRecDepth 20000 in
theorem map_below {w w' : World} {mb c : Nat} {D : DataW Unit} (h : w.ownsMap Tryz.prog 3 fE mb c D) (hb : Below w.heap.size w w') : w'.ownsMap Tryz.prog 3 fE mb c D := by
  have hl := h.lt
  obtain ⟨es, clock, e1, r⟩ := h
  exact ⟨es, clock, (hb.block mb hl).trans e1, r⟩
set_option maxRecDepth 20000 in
theorem own_not_map {w : World} {base mb c n : Nat} {D : DataW Unit} {v : Value} {xs : List Value} (h : w.ownsRow base 3 1 v n xs) (hm : w.ownsMap Tryz.prog 3 fE mb c D) : v.ownBlock = none ∨ v.ownBlock ≠ some mb := by
  rcases h.2 with ⟨rfl, _⟩ | ⟨g, cap, cur, rfl, _, hh, _⟩
  · exact .inl rfl
  · exact .inr (block_ne hm hh)
set_option maxRecDepth 20000 in
theorem step_app1 {w : World} {ops : Array Oper} {o : Oper} {a : Act} {K : Act → World → Prop} {Q : Exit → Act → World → Prop} {E : Prop} (hgd : o.guard = none) (s x : Operand)
    (ho : o.op = .call { callee := .builtin .append, args := #[s, x], argTypes := #[24, 24] })
    (base : Nat) (v : Value) (n : Nat) (L : List Int) (hs : a.eval s = v) (hown : w.ownsRow base 3 1 v n (lv L))
    (g : Nat) (k : Int) (hx : a.eval x = .slice (some ⟨g, 0, none⟩) 1 1) (hnew : w.cell? ⟨g, 0, none⟩ = some (.int .i64 k)) (hn : n ≤ 100) (hbase : base ≤ w.heap.size)
    (h : ∀ a' cap' w', w'.ownsRow base 3 1 (.slice a' (n + 1) cap') (n + 1) (lv (L ++ [k])) → w.grownBy w' v.ownBlock → K (a.put o.dst (.slice a' (n + 1) cap')) w') :
    if Region.wanted o (yielded ops a.tmps) = true then Oper.wp Tryz.prog o a w K Q else E := by
  have hw : Region.wanted o (yielded ops a.tmps) = true := by simp [Region.wanted, hgd]
  rw [if_pos hw]
  obtain ⟨ti, hi, hz0, hz1, hz2⟩ := info_parts info3
  refine wp_append_own w s x 24 ho base 3 ti (.int .i64 0) 1 8 Tryz.underlying24 hi hz0 hz1 hz2 rfl (by decide) v n (lv L) hs hown ⟨g, 0, none⟩ 1 1 (lv [k]) hx rfl (fun j u hj => ?_) (fun u hu => ?_) (by unfold maxLen; omega) (by omega) hbase (fun v' w' h1 h2 _ => ?_)
  · match j, hj with
    | 0, hj => simp [lv] at hj; subst hj; simpa [Addr.add] using hnew
  · obtain ⟨y, _, rfl⟩ := List.mem_map.1 hu
    rfl
  · rw [← show lv (L ++ [k]) = lv L ++ lv [k] by simp [lv]] at h1
    rcases own_shape h1 with ⟨_, h0⟩ | ⟨g', cap', rfl, _⟩
    · omega
    · exact h _ cap' w' h1 h2
set_option maxRecDepth 20000 in
theorem not_own {w : World} {base n b : Nat} {t : TypeId} {cs : Array Value} {fz : Nat × Nat} {v : Value} {xs : List Value} (h : w.ownsRow base 3 1 v n xs) (hb : w.heap[b]? = some (.cells cs t fz)) (ht : t ≠ 3) : some b ≠ v.ownBlock := fun e => by
  rcases h.2 with ⟨rfl, _⟩ | ⟨g, cap, cur, rfl, _, hh, _⟩
  · cases e
  · simp only [Value.ownBlock, Option.some.injEq] at e
    subst e
    rw [hb] at hh
    simp at hh
    exact ht hh.2.1
set_option maxRecDepth 20000 in
theorem own_not_map' {w : World} {base mb c n : Nat} {D : DataW Unit} {v : Value} {xs : List Value} (h : w.ownsRow base 3 1 v n xs) (hm : w.ownsMap Tryz.prog 3 fE mb c D) : some mb ≠ v.ownBlock := fun e => by
  rcases own_not_map h hm with h | h
  · rw [h] at e; cases e
  · exact h e.symm
set_option maxRecDepth 20000 in
theorem block_alloc {w : World} {b : Nat} {o : Obj} (x : Obj) (h : w.heap[b]? = some o) : (w.alloc x).heap[b]? = some o := (Below.heap_alloc w x b (lt_of_block h)).trans h
set_option maxRecDepth 20000 in
theorem block_set {w : World} {rb mb : Nat} {v v' : Value} (h : w.heap[rb]? = some (.cells #[v, .map (some mb)] 213 (0, 0))) : (w.setCell ⟨rb, 0, none⟩ v').heap[rb]? = some (.cells #[v', .map (some mb)] 213 (0, 0)) := by
  unfold World.setCell
  show (w.heap.modify rb _)[rb]? = _
  rw [Array.getElem?_modify, if_pos rfl, h]
  rfl
set_option maxRecDepth 20000 in
theorem sorted_new {T : List Fc} {f : Fc} (hT : Asc T) (hg : tget T f.n = none) : (T.map (·.n) ++ [f.n]).mergeSort (fun x y => decide (x ≤ y)) = (tput T f).map (·.n) := by
  have h1 : ((tput T f).map (·.n)).Perm (T.map (·.n) ++ [f.n]) := by simpa using (tput_perm hg).map (·.n)
  have h2 : ((tput T f).map (·.n)).Pairwise (fun x y => x ≤ y) := by
    rw [List.pairwise_map]
    exact (tput_asc hT).imp (fun {a b} h => by omega)
  have h3 : ((T.map (·.n) ++ [f.n]).mergeSort (fun x y => decide (x ≤ y))).Pairwise (fun x y => x ≤ y) := by
    have := List.pairwise_mergeSort (le := fun (x y : Int) => decide (x ≤ y)) (fun a b c h1 h2 => by simp at *; omega) (fun a b => by simp; omega) (T.map (·.n) ++ [f.n])
    exact this.imp (fun {a b} h => by simpa using h)
  exact List.Perm.eq_of_pairwise (fun a b _ _ h1 h2 => by omega) h3 h2 ((List.mergeSort_perm _ _).trans h1.symm)
set_option maxRecDepth 20000 in
set_option maxHeartbeats 4000000 in
theorem put_no (base rb c : Nat) (T : List Fc) (f g : Fc) (hg : tget T f.n = some g) (hgo : fok g = true) (ho : ovr f g = false) (w : World) (hR : Reg w base rb c T) (hf : fok f = true) (hb : base ≤ w.heap.size) (_hc : c < 1000000) :
    Calls Tryz.prog 165 #[.pointer (some ⟨rb, 0, none⟩), fval f] w fun e w' => e = .returned (.bool false) ∧ Reg w' base rb (c + 1) T ∧ Below base w w' := by
  have hm : ∀ (n i s : Int) (g : Bool) (w : World), (method 395 57 (.agg #[.int .i64 n, .int .i64 i, .int .i64 s, .bool g]) "loop.example/lightship/impl.key").run Tryz.prog w = .ok (257, .agg #[.int .i64 n, .int .i64 i, .int .i64 s, .bool g]) w := fun _ _ _ _ _ => by kernel_rfl
  have hm2 : ∀ (n i s : Int) (g : Bool) (w : World), (method 395 57 (.agg #[.int .i64 n, .int .i64 i, .int .i64 s, .bool g]) "loop.example/lightship/impl.overrides").run Tryz.prog w = .ok (258, .agg #[.int .i64 n, .int .i64 i, .int .i64 s, .bool g]) w := fun _ _ _ _ _ => by kernel_rfl
  go_enter Tryz.func165, Tryz.ntmps165
  go_wp2_with fail
  have p0 : ((w.alloc (.cells #[.pointer (some ⟨rb, 0, none⟩)] 193)).alloc (.cells #[.int .i64 f.n, .int .i64 f.i, .int .i64 f.s, .bool f.g] 57)).heap[w.heap.size]? = some (.cells #[.pointer (some ⟨rb, 0, none⟩)] 193 (0, 0)) := (Below.heap_alloc _ _ _ (by simp)).trans (heap_alloc_new _ _)
  have p1 : ((w.alloc (.cells #[.pointer (some ⟨rb, 0, none⟩)] 193)).alloc (.cells #[.int .i64 f.n, .int .i64 f.i, .int .i64 f.s, .bool f.g] 57)).heap[w.heap.size + 1]? = some (.cells #[.int .i64 f.n, .int .i64 f.i, .int .i64 f.s, .bool f.g] 57 (0, 0)) := by have := heap_alloc_new (w.alloc (.cells #[.pointer (some ⟨rb, 0, none⟩)] 193)) (.cells #[.int .i64 f.n, .int .i64 f.i, .int .i64 f.s, .bool f.g] 57); simpa using this
  have B0 : Below w.heap.size w ((w.alloc (.cells #[.pointer (some ⟨rb, 0, none⟩)] 193)).alloc (.cells #[.int .i64 f.n, .int .i64 f.i, .int .i64 f.s, .bool f.g] 57)) := balloc _ (balloc _ (Below.refl _ _))
  have z0 : ((w.alloc (.cells #[.pointer (some ⟨rb, 0, none⟩)] 193)).alloc (.cells #[.int .i64 f.n, .int .i64 f.i, .int .i64 f.s, .bool f.g] 57)).heap.size = w.heap.size + 2 := by simp
  generalize ((w.alloc (.cells #[.pointer (some ⟨rb, 0, none⟩)] 193)).alloc (.cells #[.int .i64 f.n, .int .i64 f.i, .int .i64 f.s, .bool f.g] 57)) = W0 at *
  refine (key_any _ _ _ _ _).mono ?_
  rintro e w1 ⟨rfl, b1⟩
  have q0 := (b1.block w.heap.size (by omega)).trans p0
  have q1 := (b1.block (w.heap.size + 1) (by omega)).trans p1
  have B1 := btrans B0 b1
  have R1 := hR.below B1
  have L1 : w.heap.size + 1 < w1.heap.size := lt_of_block q1
  clear p0 p1 b1 B0 z0 hm
  obtain ⟨v, mb, D, h1, h2, h3, h4, h5, h6⟩ := R1
  have c0 := cell_block (o := 0) q0 rfl
  have c1 := cell_block (o := 0) q1 rfl
  have c2 := cell_block (o := 1) q1 rfl
  have c3 := cell_block (o := 2) q1 rfl
  have c4 := cell_block (o := 3) q1 rfl
  have r0 := cell_block (o := 0) h1 rfl
  have r1 := cell_block (o := 1) h1 rfl
  have s1 := fun o => keep_alloc o c1
  have s2 := fun o => keep_alloc o c2
  have s3 := fun o => keep_alloc o c3
  have s4 := fun o => keep_alloc o c4
  go_wp2_with (at_lookup; refine wpList_lookup_fact rfl _ _ rfl mb c D T rfl h5 h6 f.n rfl (fok_wf hf) g true (by rw [hg]; rfl) (by rw [hg]; rfl) ?_)
  refine (over_any f g _).mono ?_
  rintro e w2 ⟨rfl, b2⟩
  rw [over_ok hf hgo (tget_mem hg).2, ho]
  go_wp2
  go_ret
  have B2 := btrans (balloc _ (Below.refl _ w1)) b2
  exact ⟨rfl, Reg.below ⟨v, mb, D, h1, h2, h3, h4, h5.mono (Nat.le_succ _), h6⟩ B2, (btrans B1 B2).mono hb⟩
set_option maxRecDepth 20000 in
set_option maxHeartbeats 4000000 in
theorem put_yes (base rb c : Nat) (T : List Fc) (f g : Fc) (hT : Asc T) (hg : tget T f.n = some g) (hgo : fok g = true) (ho : ovr f g = true) (w : World) (hR : Reg w base rb c T) (hf : fok f = true) (hb : base ≤ w.heap.size) (hc : c < 1000000) :
    Calls Tryz.prog 165 #[.pointer (some ⟨rb, 0, none⟩), fval f] w fun e w' => e = .returned (.bool true) ∧ Reg w' base rb (c + 1) (tput T f) ∧ Below base w w' := by
  have hm : ∀ (n i s : Int) (g : Bool) (w : World), (method 395 57 (.agg #[.int .i64 n, .int .i64 i, .int .i64 s, .bool g]) "loop.example/lightship/impl.key").run Tryz.prog w = .ok (257, .agg #[.int .i64 n, .int .i64 i, .int .i64 s, .bool g]) w := fun _ _ _ _ _ => by kernel_rfl
  have hm2 : ∀ (n i s : Int) (g : Bool) (w : World), (method 395 57 (.agg #[.int .i64 n, .int .i64 i, .int .i64 s, .bool g]) "loop.example/lightship/impl.overrides").run Tryz.prog w = .ok (258, .agg #[.int .i64 n, .int .i64 i, .int .i64 s, .bool g]) w := fun _ _ _ _ _ => by kernel_rfl
  go_enter Tryz.func165, Tryz.ntmps165
  go_wp2_with fail
  have p0 : ((w.alloc (.cells #[.pointer (some ⟨rb, 0, none⟩)] 193)).alloc (.cells #[.int .i64 f.n, .int .i64 f.i, .int .i64 f.s, .bool f.g] 57)).heap[w.heap.size]? = some (.cells #[.pointer (some ⟨rb, 0, none⟩)] 193 (0, 0)) := (Below.heap_alloc _ _ _ (by simp)).trans (heap_alloc_new _ _)
  have p1 : ((w.alloc (.cells #[.pointer (some ⟨rb, 0, none⟩)] 193)).alloc (.cells #[.int .i64 f.n, .int .i64 f.i, .int .i64 f.s, .bool f.g] 57)).heap[w.heap.size + 1]? = some (.cells #[.int .i64 f.n, .int .i64 f.i, .int .i64 f.s, .bool f.g] 57 (0, 0)) := by have := heap_alloc_new (w.alloc (.cells #[.pointer (some ⟨rb, 0, none⟩)] 193)) (.cells #[.int .i64 f.n, .int .i64 f.i, .int .i64 f.s, .bool f.g] 57); simpa using this
  have B0 : Below w.heap.size w ((w.alloc (.cells #[.pointer (some ⟨rb, 0, none⟩)] 193)).alloc (.cells #[.int .i64 f.n, .int .i64 f.i, .int .i64 f.s, .bool f.g] 57)) := balloc _ (balloc _ (Below.refl _ _))
  have z0 : ((w.alloc (.cells #[.pointer (some ⟨rb, 0, none⟩)] 193)).alloc (.cells #[.int .i64 f.n, .int .i64 f.i, .int .i64 f.s, .bool f.g] 57)).heap.size = w.heap.size + 2 := by simp
  generalize ((w.alloc (.cells #[.pointer (some ⟨rb, 0, none⟩)] 193)).alloc (.cells #[.int .i64 f.n, .int .i64 f.i, .int .i64 f.s, .bool f.g] 57)) = W0 at *
  refine (key_any _ _ _ _ _).mono ?_
  rintro e w1 ⟨rfl, b1⟩
  have q0 := (b1.block w.heap.size (by omega)).trans p0
  have q1 := (b1.block (w.heap.size + 1) (by omega)).trans p1
  have B1 := btrans B0 b1
  have R1 := hR.below B1
  have L1 : w.heap.size + 1 < w1.heap.size := lt_of_block q1
  clear p0 p1 b1 B0 z0 hm
  obtain ⟨v, mb, D, h1, h2, h3, h4, h5, h6⟩ := R1
  have c0 := cell_block (o := 0) q0 rfl
  have c1 := cell_block (o := 0) q1 rfl
  have c2 := cell_block (o := 1) q1 rfl
  have c3 := cell_block (o := 2) q1 rfl
  have c4 := cell_block (o := 3) q1 rfl
  have r0 := cell_block (o := 0) h1 rfl
  have r1 := cell_block (o := 1) h1 rfl
  have s1 := fun o => keep_alloc o c1
  have s2 := fun o => keep_alloc o c2
  have s3 := fun o => keep_alloc o c3
  have s4 := fun o => keep_alloc o c4
  go_wp2_with (at_lookup; refine wpList_lookup_fact rfl _ _ rfl mb c D T rfl h5 h6 f.n rfl (fok_wf hf) g true (by rw [hg]; rfl) (by rw [hg]; rfl) ?_)
  refine (over_any f g _).mono ?_
  rintro e w2 ⟨rfl, b2⟩
  rw [over_ok hf hgo (tget_mem hg).2, ho]
  have B2 := btrans (balloc _ (Below.refl _ w1)) b2
  clear c0 c1 c2 c3 c4 r0 r1 s1 s2 s3 s4 b2
  replace h1 := (B2.block _ (lt_of_block h1)).trans h1
  replace h4 := own_below h4 B2
  replace h5 := map_below h5 B2
  replace q0 := (B2.block _ (lt_of_block q0)).trans q0
  replace q1 := (B2.block _ (lt_of_block q1)).trans q1
  have B3 := btrans B1 B2
  have c0 := cell_block (o := 0) q0 rfl
  have c1 := cell_block (o := 0) q1 rfl
  have c2 := cell_block (o := 1) q1 rfl
  have c3 := cell_block (o := 2) q1 rfl
  have c4 := cell_block (o := 3) q1 rfl
  have r0 := cell_block (o := 0) h1 rfl
  have r1 := cell_block (o := 1) h1 rfl
  clear B1 B2
  go_wp2_with fail
  refine wp_region_held_drew (S := fun w' => w'.cell? ⟨w.heap.size, 0, none⟩ = some (.pointer (some ⟨rb, 0, none⟩)) ∧ w'.cell? ⟨rb, 1, none⟩ = some (.map (some mb)) ∧ w'.cell? ⟨w.heap.size + 1, 0, none⟩ = some (.int .i64 f.n) ∧ w'.cell? ⟨w.heap.size + 1, 1, none⟩ = some (.int .i64 f.i) ∧ w'.cell? ⟨w.heap.size + 1, 2, none⟩ = some (.int .i64 f.s) ∧ w'.cell? ⟨w.heap.size + 1, 3, none⟩ = some (.bool f.g)) (by kernel_rfl) ?_ (fun hHeld => ?_)
  · exact ⟨keep_drew c0, keep_drew r1, keep_drew c1, keep_drew c2, keep_drew c3, keep_drew c4⟩
  refine wpAnyH_take (i := 0) (oi := { dst := some 28, op := Go.Op.load 193 (Go.Operand.tmp 2), type := 193, pos := "l3_fact.go:97", after := #[], guard := none }) (v := ?_) rfl (by kernel_rfl) (by kernel_rfl) (by kernel_rfl) (fun _ _ _ h => h) (Or.inl ⟨by rfl, ?_⟩) (by assumption) ?_
  rotate_left 1
  · (intro w hSw; (try dsimp only at hSw); go_simp; try with_reducible rfl)
  (try simp only [Act.put, List.setIfInBounds_toArray, List.set_cons_zero, List.set_cons_succ])
  refine wpAnyH_take (i := 1) (oi := { dst := some 29, op := Go.Op.nilCheck (Go.Operand.tmp 28), type := 0, pos := "l3_fact.go:97", after := #[{ on := 0, ground := Go.Ground.data }], guard := none }) (v := ?_) rfl (by kernel_rfl) (by kernel_rfl) (by kernel_rfl) (fun _ _ _ h => h) (Or.inl ⟨by rfl, ?_⟩) (by assumption) ?_
  rotate_left 1
  · (intro w hSw; (try dsimp only at hSw); go_simp; try with_reducible rfl)
  (try simp only [Act.put, List.setIfInBounds_toArray, List.set_cons_zero, List.set_cons_succ])
  refine wpAnyH_take (i := 2) (oi := { dst := some 30, op := Go.Op.fieldAddr 213 (Go.Operand.tmp 29) 1, type := 0, pos := "l3_fact.go:97", after := #[{ on := 1, ground := Go.Ground.data }], guard := none }) (v := ?_) rfl (by kernel_rfl) (by kernel_rfl) (by kernel_rfl) (fun _ _ _ h => h) (Or.inl ⟨by rfl, ?_⟩) (by assumption) ?_
  rotate_left 1
  · (intro w hSw; (try dsimp only at hSw); go_simp; try with_reducible rfl)
  (try simp only [Act.put, List.setIfInBounds_toArray, List.set_cons_zero, List.set_cons_succ])
  refine wpAnyH_take (i := 3) (oi := { dst := some 31, op := Go.Op.load 211 (Go.Operand.tmp 30), type := 211, pos := "l3_fact.go:97", after := #[{ on := 2, ground := Go.Ground.data }], guard := none }) (v := ?_) rfl (by kernel_rfl) (by kernel_rfl) (by kernel_rfl) (fun _ _ _ h => h) (Or.inl ⟨by rfl, ?_⟩) (by assumption) ?_
  rotate_left 1
  · (intro w hSw; (try dsimp only at hSw); go_simp; try with_reducible rfl)
  (try simp only [Act.put, List.setIfInBounds_toArray, List.set_cons_zero, List.set_cons_succ])
  refine wpAnyH_take (i := 4) (oi := { dst := some 32, op := Go.Op.move (Go.Operand.tmp 5), type := 3, pos := "l3_fact.go:97", after := #[], guard := none }) (v := ?_) rfl (by kernel_rfl) (by kernel_rfl) (by kernel_rfl) (fun _ _ _ h => h) (Or.inl ⟨by rfl, ?_⟩) (by assumption) ?_
  rotate_left 1
  · (intro w hSw; (try dsimp only at hSw); go_simp; try with_reducible rfl)
  (try simp only [Act.put, List.setIfInBounds_toArray, List.set_cons_zero, List.set_cons_succ])
  refine wpAnyH_take (i := 5) (oi := { dst := some 33, op := Go.Op.load 57 (Go.Operand.tmp 3), type := 57, pos := "l3_fact.go:97", after := #[], guard := none }) (v := ?_) rfl (by kernel_rfl) (by kernel_rfl) (by kernel_rfl) (fun _ _ _ h => h) (Or.inl ⟨by rfl, ?_⟩) (by assumption) ?_
  rotate_left 1
  · (intro w hSw; (try dsimp only at hSw); go_simp; try with_reducible rfl)
  (try simp only [Act.put, List.setIfInBounds_toArray, List.set_cons_zero, List.set_cons_succ])
  refine wpAnyH_ready (rs := [6]) (by kernel_rfl) (by simp) ?_
  refine AllReadyH.cons (o := { dst := none, op := Go.Op.mapUpdate 211 (Go.Operand.tmp 31) (Go.Operand.tmp 32) (Go.Operand.tmp 33), type := 0, pos := "l3_fact.go:97", after := #[{ on := 3, ground := Go.Ground.data }, { on := 4, ground := Go.Ground.data }, { on := 5, ground := Go.Ground.data }, { on := 0, ground := Go.Ground.phase }, { on := 1, ground := Go.Ground.phase }, { on := 2, ground := Go.Ground.phase }, { on := 3, ground := Go.Ground.phase }, { on := 4, ground := Go.Ground.phase }, { on := 5, ground := Go.Ground.phase }], guard := none }) rfl (fun K hK => ?_) AllReadyH.nil
  refine step_upd rfl _ _ _ rfl mb c D rfl h5.drew (by unfold maxLen; omega) f.n rfl (fok_wf hf) f rfl ?_
  intro w3 h5' g3
  refine hK.out _ _ ?_ (fun hHeld => ?_)
  · exact ⟨keep_map h5.drew g3 (keep_drew c0), keep_map h5.drew g3 (keep_drew r1), keep_map h5.drew g3 (keep_drew c1), keep_map h5.drew g3 (keep_drew c2), keep_map h5.drew g3 (keep_drew c3), keep_map h5.drew g3 (keep_drew c4)⟩
  clear hK K
  (try simp only [Act.put])
  refine wpAnyH_done (by kernel_rfl) ?_ _
  go_wp2
  go_ret
  have g3' : w2.grownBy w3 (some mb) := ⟨g3.os, g3.tape, g3.output, g3.size, g3.block⟩
  refine ⟨rfl, ⟨v, mb, _, keep_block g3' (block_ne h5 h1) h1, h2, h3, ?_, h5', kept_put h5.isMap h6 hT (by unfold tnew; rw [hg]; exact ho)⟩, (B3.mono hb).grown g3' (by have := B3.size; omega) (fun k hk => by simp only [Option.some.injEq] at hk; omega)⟩
  have hl : (tput T f).length = T.length := by have := congrArg List.length (tput_old hT hg); simpa using this
  rw [tput_old hT hg, hl]
  exact h4.kept g3' (own_not_map h4 h5)
set_option maxRecDepth 20000 in
set_option maxHeartbeats 4000000 in
theorem put_new (base rb c : Nat) (T : List Fc) (f : Fc) (hT : Asc T) (hg : tget T f.n = none) (hl : T.length ≤ 8) (w : World) (hR : Reg w base rb c T) (hf : fok f = true) (hb : base ≤ w.heap.size) (hc : c < 1000000) :
    Calls Tryz.prog 165 #[.pointer (some ⟨rb, 0, none⟩), fval f] w fun e w' => e = .returned (.bool true) ∧ Reg w' base rb (c + 1) (tput T f) ∧ Below base w w' := by
  have hm : ∀ (n i s : Int) (g : Bool) (w : World), (method 395 57 (.agg #[.int .i64 n, .int .i64 i, .int .i64 s, .bool g]) "loop.example/lightship/impl.key").run Tryz.prog w = .ok (257, .agg #[.int .i64 n, .int .i64 i, .int .i64 s, .bool g]) w := fun _ _ _ _ _ => by kernel_rfl
  have hm2 : ∀ (n i s : Int) (g : Bool) (w : World), (method 395 57 (.agg #[.int .i64 n, .int .i64 i, .int .i64 s, .bool g]) "loop.example/lightship/impl.overrides").run Tryz.prog w = .ok (258, .agg #[.int .i64 n, .int .i64 i, .int .i64 s, .bool g]) w := fun _ _ _ _ _ => by kernel_rfl
  go_enter Tryz.func165, Tryz.ntmps165
  go_wp2_with fail
  have p0 : ((w.alloc (.cells #[.pointer (some ⟨rb, 0, none⟩)] 193)).alloc (.cells #[.int .i64 f.n, .int .i64 f.i, .int .i64 f.s, .bool f.g] 57)).heap[w.heap.size]? = some (.cells #[.pointer (some ⟨rb, 0, none⟩)] 193 (0, 0)) := (Below.heap_alloc _ _ _ (by simp)).trans (heap_alloc_new _ _)
  have p1 : ((w.alloc (.cells #[.pointer (some ⟨rb, 0, none⟩)] 193)).alloc (.cells #[.int .i64 f.n, .int .i64 f.i, .int .i64 f.s, .bool f.g] 57)).heap[w.heap.size + 1]? = some (.cells #[.int .i64 f.n, .int .i64 f.i, .int .i64 f.s, .bool f.g] 57 (0, 0)) := by have := heap_alloc_new (w.alloc (.cells #[.pointer (some ⟨rb, 0, none⟩)] 193)) (.cells #[.int .i64 f.n, .int .i64 f.i, .int .i64 f.s, .bool f.g] 57); simpa using this
  have B0 : Below w.heap.size w ((w.alloc (.cells #[.pointer (some ⟨rb, 0, none⟩)] 193)).alloc (.cells #[.int .i64 f.n, .int .i64 f.i, .int .i64 f.s, .bool f.g] 57)) := balloc _ (balloc _ (Below.refl _ _))
  have z0 : ((w.alloc (.cells #[.pointer (some ⟨rb, 0, none⟩)] 193)).alloc (.cells #[.int .i64 f.n, .int .i64 f.i, .int .i64 f.s, .bool f.g] 57)).heap.size = w.heap.size + 2 := by simp
  generalize ((w.alloc (.cells #[.pointer (some ⟨rb, 0, none⟩)] 193)).alloc (.cells #[.int .i64 f.n, .int .i64 f.i, .int .i64 f.s, .bool f.g] 57)) = W0 at *
  refine (key_any _ _ _ _ _).mono ?_
  rintro e w1 ⟨rfl, b1⟩
  have q0 := (b1.block w.heap.size (by omega)).trans p0
  have q1 := (b1.block (w.heap.size + 1) (by omega)).trans p1
  have B1 := btrans B0 b1
  have R1 := hR.below B1
  have L1 : w.heap.size + 1 < w1.heap.size := lt_of_block q1
  clear p0 p1 b1 B0 z0 hm
  obtain ⟨v, mb, D, h1, h2, h3, h4, h5, h6⟩ := R1
  have c0 := cell_block (o := 0) q0 rfl
  have c1 := cell_block (o := 0) q1 rfl
  have c2 := cell_block (o := 1) q1 rfl
  have c3 := cell_block (o := 2) q1 rfl
  have c4 := cell_block (o := 3) q1 rfl
  have r0 := cell_block (o := 0) h1 rfl
  have r1 := cell_block (o := 1) h1 rfl
  go_wp2_with (at_lookup; refine wpList_lookup_fact rfl _ _ rfl mb c D T rfl h5 h6 f.n rfl (fok_wf hf) Fc.zero false (by rw [hg]; rfl) (by rw [hg]; rfl) ?_)
  clear c0 c1 c2 c3 c4 r0 r1 hm2
  replace h1 : (w1.alloc (.cells #[.int .i64 Fc.zero.n, .int .i64 Fc.zero.i, .int .i64 Fc.zero.s, .bool Fc.zero.g] 57)).heap[rb]? = _ := block_alloc _ h1
  replace h4 : (w1.alloc (.cells #[.int .i64 Fc.zero.n, .int .i64 Fc.zero.i, .int .i64 Fc.zero.s, .bool Fc.zero.g] 57)).ownsRow _ _ _ _ _ _ := h4.alloc _
  replace h5 : (w1.alloc (.cells #[.int .i64 Fc.zero.n, .int .i64 Fc.zero.i, .int .i64 Fc.zero.s, .bool Fc.zero.g] 57)).ownsMap _ _ _ _ _ _ := h5.alloc _
  replace q0 : (w1.alloc (.cells #[.int .i64 Fc.zero.n, .int .i64 Fc.zero.i, .int .i64 Fc.zero.s, .bool Fc.zero.g] 57)).heap[w.heap.size]? = _ := block_alloc _ q0
  replace q1 : (w1.alloc (.cells #[.int .i64 Fc.zero.n, .int .i64 Fc.zero.i, .int .i64 Fc.zero.s, .bool Fc.zero.g] 57)).heap[w.heap.size + 1]? = _ := block_alloc _ q1
  have B3 : Below w.heap.size w (w1.alloc (.cells #[.int .i64 Fc.zero.n, .int .i64 Fc.zero.i, .int .i64 Fc.zero.s, .bool Fc.zero.g] 57)) := balloc _ B1
  clear B1 L1
  generalize (w1.alloc (.cells #[.int .i64 Fc.zero.n, .int .i64 Fc.zero.i, .int .i64 Fc.zero.s, .bool Fc.zero.g] 57)) = w2 at *
  have c0 := cell_block (o := 0) q0 rfl
  have c1 := cell_block (o := 0) q1 rfl
  have c2 := cell_block (o := 1) q1 rfl
  have c3 := cell_block (o := 2) q1 rfl
  have c4 := cell_block (o := 3) q1 rfl
  have r0 := cell_block (o := 0) h1 rfl
  have r1 := cell_block (o := 1) h1 rfl
  refine wp_region_held_drew (S := fun w' => w'.cell? ⟨w.heap.size, 0, none⟩ = some (.pointer (some ⟨rb, 0, none⟩)) ∧ w'.cell? ⟨rb, 1, none⟩ = some (.map (some mb)) ∧ w'.cell? ⟨w.heap.size + 1, 0, none⟩ = some (.int .i64 f.n) ∧ w'.cell? ⟨w.heap.size + 1, 1, none⟩ = some (.int .i64 f.i) ∧ w'.cell? ⟨w.heap.size + 1, 2, none⟩ = some (.int .i64 f.s) ∧ w'.cell? ⟨w.heap.size + 1, 3, none⟩ = some (.bool f.g)) (by kernel_rfl) ?_ (fun hHeld => ?_)
  · exact ⟨keep_drew c0, keep_drew r1, keep_drew c1, keep_drew c2, keep_drew c3, keep_drew c4⟩
  refine wpAnyH_take (i := 0) (oi := { dst := some 28, op := Go.Op.load 193 (Go.Operand.tmp 2), type := 193, pos := "l3_fact.go:97", after := #[], guard := none }) (v := ?_) rfl (by kernel_rfl) (by kernel_rfl) (by kernel_rfl) (fun _ _ _ h => h) (Or.inl ⟨by rfl, ?_⟩) (by assumption) ?_
  rotate_left 1
  · (intro w hSw; (try dsimp only at hSw); go_simp; try with_reducible rfl)
  (try simp only [Act.put, List.setIfInBounds_toArray, List.set_cons_zero, List.set_cons_succ])
  refine wpAnyH_take (i := 1) (oi := { dst := some 29, op := Go.Op.nilCheck (Go.Operand.tmp 28), type := 0, pos := "l3_fact.go:97", after := #[{ on := 0, ground := Go.Ground.data }], guard := none }) (v := ?_) rfl (by kernel_rfl) (by kernel_rfl) (by kernel_rfl) (fun _ _ _ h => h) (Or.inl ⟨by rfl, ?_⟩) (by assumption) ?_
  rotate_left 1
  · (intro w hSw; (try dsimp only at hSw); go_simp; try with_reducible rfl)
  (try simp only [Act.put, List.setIfInBounds_toArray, List.set_cons_zero, List.set_cons_succ])
  refine wpAnyH_take (i := 2) (oi := { dst := some 30, op := Go.Op.fieldAddr 213 (Go.Operand.tmp 29) 1, type := 0, pos := "l3_fact.go:97", after := #[{ on := 1, ground := Go.Ground.data }], guard := none }) (v := ?_) rfl (by kernel_rfl) (by kernel_rfl) (by kernel_rfl) (fun _ _ _ h => h) (Or.inl ⟨by rfl, ?_⟩) (by assumption) ?_
  rotate_left 1
  · (intro w hSw; (try dsimp only at hSw); go_simp; try with_reducible rfl)
  (try simp only [Act.put, List.setIfInBounds_toArray, List.set_cons_zero, List.set_cons_succ])
  refine wpAnyH_take (i := 3) (oi := { dst := some 31, op := Go.Op.load 211 (Go.Operand.tmp 30), type := 211, pos := "l3_fact.go:97", after := #[{ on := 2, ground := Go.Ground.data }], guard := none }) (v := ?_) rfl (by kernel_rfl) (by kernel_rfl) (by kernel_rfl) (fun _ _ _ h => h) (Or.inl ⟨by rfl, ?_⟩) (by assumption) ?_
  rotate_left 1
  · (intro w hSw; (try dsimp only at hSw); go_simp; try with_reducible rfl)
  (try simp only [Act.put, List.setIfInBounds_toArray, List.set_cons_zero, List.set_cons_succ])
  refine wpAnyH_take (i := 4) (oi := { dst := some 32, op := Go.Op.move (Go.Operand.tmp 5), type := 3, pos := "l3_fact.go:97", after := #[], guard := none }) (v := ?_) rfl (by kernel_rfl) (by kernel_rfl) (by kernel_rfl) (fun _ _ _ h => h) (Or.inl ⟨by rfl, ?_⟩) (by assumption) ?_
  rotate_left 1
  · (intro w hSw; (try dsimp only at hSw); go_simp; try with_reducible rfl)
  (try simp only [Act.put, List.setIfInBounds_toArray, List.set_cons_zero, List.set_cons_succ])
  refine wpAnyH_take (i := 5) (oi := { dst := some 33, op := Go.Op.load 57 (Go.Operand.tmp 3), type := 57, pos := "l3_fact.go:97", after := #[], guard := none }) (v := ?_) rfl (by kernel_rfl) (by kernel_rfl) (by kernel_rfl) (fun _ _ _ h => h) (Or.inl ⟨by rfl, ?_⟩) (by assumption) ?_
  rotate_left 1
  · (intro w hSw; (try dsimp only at hSw); go_simp; try with_reducible rfl)
  (try simp only [Act.put, List.setIfInBounds_toArray, List.set_cons_zero, List.set_cons_succ])
  refine wpAnyH_ready (rs := [6]) (by kernel_rfl) (by simp) ?_
  refine AllReadyH.cons (o := { dst := none, op := Go.Op.mapUpdate 211 (Go.Operand.tmp 31) (Go.Operand.tmp 32) (Go.Operand.tmp 33), type := 0, pos := "l3_fact.go:97", after := #[{ on := 3, ground := Go.Ground.data }, { on := 4, ground := Go.Ground.data }, { on := 5, ground := Go.Ground.data }, { on := 0, ground := Go.Ground.phase }, { on := 1, ground := Go.Ground.phase }, { on := 2, ground := Go.Ground.phase }, { on := 3, ground := Go.Ground.phase }, { on := 4, ground := Go.Ground.phase }, { on := 5, ground := Go.Ground.phase }], guard := none }) rfl (fun K hK => ?_) AllReadyH.nil
  refine step_upd rfl _ _ _ rfl mb c D rfl h5.drew (by unfold maxLen; omega) f.n rfl (fok_wf hf) f rfl ?_
  intro w3 h5' g3
  refine hK.out _ _ ?_ (fun hHeld => ?_)
  · exact ⟨keep_map h5.drew g3 (keep_drew c0), keep_map h5.drew g3 (keep_drew r1), keep_map h5.drew g3 (keep_drew c1), keep_map h5.drew g3 (keep_drew c2), keep_map h5.drew g3 (keep_drew c3), keep_map h5.drew g3 (keep_drew c4)⟩
  clear hK K
  (try simp only [Act.put])
  refine wpAnyH_done (by kernel_rfl) ?_ _
  have g3' : w2.grownBy w3 (some mb) := ⟨g3.os, g3.tape, g3.output, g3.size, g3.block⟩
  replace h1 := keep_block g3' (block_ne h5 h1) h1
  replace q0 := keep_block g3' (block_ne h5 q0) q0
  replace h4 := h4.kept g3' (own_not_map h4 h5)
  replace h6 := kept_put h5.isMap h6 hT (show tnew T f = true by unfold tnew; rw [hg])
  replace B3 := (B3.mono hb).grown g3' (by have := B3.size; omega) (fun k hk => by simp only [Option.some.injEq] at hk; omega)
  clear h5 g3 g3' c0 c1 c2 c3 c4 r0 r1 q1
  have h5 := h5'
  clear h5'
  have c0 := cell_block (o := 0) q0 rfl
  have r0 := cell_block (o := 0) h1 rfl
  go_wp2_with fail
  refine wp_region_held_drew (S := fun w' => w'.cell? ⟨w.heap.size, 0, none⟩ = some (.pointer (some ⟨rb, 0, none⟩))) (by kernel_rfl) ?_ (fun hHeld => ?_)
  · exact keep_drew c0
  refine wpAnyH_take (i := 0) (oi := { dst := some 36, op := Go.Op.load 193 (Go.Operand.tmp 2), type := 193, pos := "l3_fact.go:99", after := #[], guard := none }) (v := ?_) rfl (by kernel_rfl) (by kernel_rfl) (by kernel_rfl) (fun _ _ _ h => h) (Or.inl ⟨by rfl, ?_⟩) (by assumption) ?_
  rotate_left 1
  · (intro w hSw; (try dsimp only at hSw); go_simp; try with_reducible rfl)
  (try simp only [Act.put, List.setIfInBounds_toArray, List.set_cons_zero, List.set_cons_succ])
  refine wpAnyH_take (i := 1) (oi := { dst := some 37, op := Go.Op.load 193 (Go.Operand.tmp 2), type := 193, pos := "l3_fact.go:99", after := #[], guard := none }) (v := ?_) rfl (by kernel_rfl) (by kernel_rfl) (by kernel_rfl) (fun _ _ _ h => h) (Or.inl ⟨by rfl, ?_⟩) (by assumption) ?_
  rotate_left 1
  · (intro w hSw; (try dsimp only at hSw); go_simp; try with_reducible rfl)
  (try simp only [Act.put, List.setIfInBounds_toArray, List.set_cons_zero, List.set_cons_succ])
  refine wpAnyH_take (i := 2) (oi := { dst := some 38, op := Go.Op.nilCheck (Go.Operand.tmp 37), type := 0, pos := "l3_fact.go:99", after := #[{ on := 1, ground := Go.Ground.data }], guard := none }) (v := ?_) rfl (by kernel_rfl) (by kernel_rfl) (by kernel_rfl) (fun _ _ _ h => h) (Or.inl ⟨by rfl, ?_⟩) (by assumption) ?_
  rotate_left 1
  · (intro w hSw; (try dsimp only at hSw); go_simp; try with_reducible rfl)
  (try simp only [Act.put, List.setIfInBounds_toArray, List.set_cons_zero, List.set_cons_succ])
  refine wpAnyH_take (i := 3) (oi := { dst := some 39, op := Go.Op.fieldAddr 213 (Go.Operand.tmp 38) 0, type := 0, pos := "l3_fact.go:99", after := #[{ on := 2, ground := Go.Ground.data }], guard := none }) (v := ?_) rfl (by kernel_rfl) (by kernel_rfl) (by kernel_rfl) (fun _ _ _ h => h) (Or.inl ⟨by rfl, ?_⟩) (by assumption) ?_
  rotate_left 1
  · (intro w hSw; (try dsimp only at hSw); go_simp; try with_reducible rfl)
  (try simp only [Act.put, List.setIfInBounds_toArray, List.set_cons_zero, List.set_cons_succ])
  refine wpAnyH_take (i := 5) (oi := { dst := some 41, op := Go.Op.move (Go.Operand.tmp 5), type := 3, pos := "l3_fact.go:99", after := #[], guard := none }) (v := ?_) rfl (by kernel_rfl) (by kernel_rfl) (by kernel_rfl) (fun _ _ _ h => h) (Or.inl ⟨by rfl, ?_⟩) (by assumption) ?_
  rotate_left 1
  · (intro w hSw; (try dsimp only at hSw); go_simp; try with_reducible rfl)
  (try simp only [Act.put, List.setIfInBounds_toArray, List.set_cons_zero, List.set_cons_succ])
  refine wpAnyH_ready (rs := [4, 6]) (by kernel_rfl) (by simp) ?_
  refine AllReadyH.cons (o := { dst := some 40, op := Go.Op.load 24 (Go.Operand.tmp 39), type := 24, pos := "l3_fact.go:99", after := #[{ on := 3, ground := Go.Ground.data }], guard := none }) rfl (fun K hK => ?_) (AllReadyH.cons (o := { dst := some 42, op := Go.Op.buildSlice 24 1 #[(0, Go.Operand.tmp 41)], type := 24, pos := "l3_fact.go:99", after := #[{ on := 5, ground := Go.Ground.data }], guard := none }) rfl (fun K hK => ?_) AllReadyH.nil)
  · go_simp
    refine hK.out _ _ ?_ (fun hHeld => ?_)
    · exact keep_drew c0
    clear hK K
    (try simp only [Act.put, List.setIfInBounds_toArray, List.set_cons_zero, List.set_cons_succ])
    refine wpAnyH_ready (rs := [6]) (by kernel_rfl) (by simp) ?_
    refine AllReadyH.cons (o := { dst := some 42, op := Go.Op.buildSlice 24 1 #[(0, Go.Operand.tmp 41)], type := 24, pos := "l3_fact.go:99", after := #[{ on := 5, ground := Go.Ground.data }], guard := none }) rfl (fun K hK => ?_) AllReadyH.nil
    go_simp
    refine hK.out _ _ ?_ (fun hHeld => ?_)
    · exact keep_drew (keep_alloc _ c0)
    clear hK K
    (try simp only [Act.put, List.setIfInBounds_toArray, List.set_cons_zero, List.set_cons_succ])
    have A0 : ((w3.alloc (.cells #[.int .i64 f.n] 3)).drew).cell? ⟨w3.heap.size, 0, none⟩ = some (.int .i64 f.n) := by simp [go_sem]
    have A1 : ((w3.alloc (.cells #[.int .i64 f.n] 3)).drew).ownsRow base 3 1 v T.length (lv (T.map (·.n))) := h4.alloc _
    have A2 : ((w3.alloc (.cells #[.int .i64 f.n] 3)).drew).ownsMap Tryz.prog 3 fE mb (c + 1) (D.put (.int .i64 f.n) (fd f)) := h5.alloc _
    have A3 : ((w3.alloc (.cells #[.int .i64 f.n] 3)).drew).heap[rb]? = some (.cells #[v, .map (some mb)] 213 (0, 0)) := block_alloc _ h1
    have A4 : ((w3.alloc (.cells #[.int .i64 f.n] 3)).drew).heap[w.heap.size]? = some (.cells #[.pointer (some ⟨rb, 0, none⟩)] 193 (0, 0)) := block_alloc _ q0
    have A5 : Below base w ((w3.alloc (.cells #[.int .i64 f.n] 3)).drew) := (B3.alloc (by have := B3.size; omega) _).drew
    generalize ((w3.alloc (.cells #[.int .i64 f.n] 3)).drew) = W4 at *
    clear h1 h4 h5 q0 B3 c0 r0
    refine wpAnyH_ready (rs := [7]) (by kernel_rfl) (by simp) ?_
    refine AllReadyH.cons (o := { dst := some 43, op := Go.Op.call { callee := Go.Callee.builtin Go.Builtin.append, args := #[Go.Operand.tmp 40, Go.Operand.tmp 42], argTypes := #[24, 24] }, type := 24, pos := "l3_fact.go:99", after := #[{ on := 4, ground := Go.Ground.data }, { on := 6, ground := Go.Ground.data }], guard := none }) rfl (fun K hK => ?_) AllReadyH.nil
    refine step_app1 (by rfl) _ _ (by rfl) base v T.length (T.map (·.n)) (by rfl) A1 w3.heap.size f.n (by rfl) A0 (by omega) (by have := A5.size; omega) ?_
    intro a' cap' W5 o5 g5
    have E3 := keep_block g5 (not_own A1 A3 (by decide)) A3
    have E4 := keep_block g5 (not_own A1 A4 (by decide)) A4
    have E2 := A2.kept g5 (own_not_map' A1 A2)
    have E5 := A5.grown g5 (by have := A5.size; omega) (fun k hk => (A1.lt k hk).1)
    refine hK.out _ _ ?_ (fun hHeld => ?_)
    · exact cell_block (o := 0) E4 rfl
    clear hK K
    (try simp only [Act.put, List.setIfInBounds_toArray, List.set_cons_zero, List.set_cons_succ])
    clear A0 A1 A2 A3 A4 A5 g5
    refine wpAnyH_take (i := 8) (oi := { dst := some 44, op := Go.Op.nilCheck (Go.Operand.tmp 36), type := 0, pos := "l3_fact.go:99", after := #[{ on := 0, ground := Go.Ground.data }, { on := 0, ground := Go.Ground.phase }, { on := 1, ground := Go.Ground.phase }, { on := 2, ground := Go.Ground.phase }, { on := 3, ground := Go.Ground.phase }, { on := 4, ground := Go.Ground.phase }, { on := 5, ground := Go.Ground.phase }, { on := 6, ground := Go.Ground.phase }, { on := 7, ground := Go.Ground.phase }], guard := none }) (v := ?_) rfl (by kernel_rfl) (by kernel_rfl) (by kernel_rfl) (fun _ _ _ h => h) (Or.inl ⟨by rfl, ?_⟩) (by assumption) ?_
    rotate_left 1
    · (intro w hSw; (try dsimp only at hSw); go_simp; try with_reducible rfl)
    (try simp only [Act.put, List.setIfInBounds_toArray, List.set_cons_zero, List.set_cons_succ])
    refine wpAnyH_take (i := 9) (oi := { dst := some 45, op := Go.Op.fieldAddr 213 (Go.Operand.tmp 44) 0, type := 0, pos := "l3_fact.go:99", after := #[{ on := 8, ground := Go.Ground.data }, { on := 0, ground := Go.Ground.phase }, { on := 1, ground := Go.Ground.phase }, { on := 2, ground := Go.Ground.phase }, { on := 3, ground := Go.Ground.phase }, { on := 4, ground := Go.Ground.phase }, { on := 5, ground := Go.Ground.phase }, { on := 6, ground := Go.Ground.phase }, { on := 7, ground := Go.Ground.phase }], guard := none }) (v := ?_) rfl (by kernel_rfl) (by kernel_rfl) (by kernel_rfl) (fun _ _ _ h => h) (Or.inl ⟨by rfl, ?_⟩) (by assumption) ?_
    rotate_left 1
    · (intro w hSw; (try dsimp only at hSw); go_simp; try with_reducible rfl)
    (try simp only [Act.put, List.setIfInBounds_toArray, List.set_cons_zero, List.set_cons_succ])
    have fz : W5.frozen? ⟨rb, 0, none⟩ = false := by simp [World.frozen?, E3]
    have e1 := cell_block (o := 0) E3 rfl
    refine wpAnyH_ready (rs := [10]) (by kernel_rfl) (by simp) ?_
    refine AllReadyH.cons (o := { dst := none, op := Go.Op.store 24 (Go.Operand.tmp 45) (Go.Operand.tmp 43), type := 0, pos := "l3_fact.go:99", after := #[{ on := 9, ground := Go.Ground.data }, { on := 7, ground := Go.Ground.data }, { on := 7, ground := Go.Ground.chain }, { on := 0, ground := Go.Ground.phase }, { on := 1, ground := Go.Ground.phase }, { on := 2, ground := Go.Ground.phase }, { on := 3, ground := Go.Ground.phase }, { on := 4, ground := Go.Ground.phase }, { on := 5, ground := Go.Ground.phase }, { on := 6, ground := Go.Ground.phase }, { on := 7, ground := Go.Ground.phase }], guard := none }) rfl (fun K hK => ?_) AllReadyH.nil
    go_simp
    have F3 := block_set (v' := .slice a' (T.length + 1) cap') E3
    have F4 := (heap_setCell_other W5 ⟨rb, 0, none⟩ w.heap.size (.slice a' (T.length + 1) cap') (fun e => by rw [e, E3] at E4; simp at E4)).trans E4
    have F2 := E2.setCell (a := ⟨rb, 0, none⟩) (fun e => block_ne E2 E3 (by rw [e])) (.slice a' (T.length + 1) cap')
    have F1 := o5.kept (grown_set W5 rb 0 (.slice a' (T.length + 1) cap')) (.inr (fun e => not_own o5 E3 (by decide) e.symm))
    have F5 := E5.setCell (p := ⟨rb, 0, none⟩) h2 (.slice a' (T.length + 1) cap')
    refine hK.out _ _ ?_ (fun hHeld => ?_)
    · exact cell_block (o := 0) F4 rfl
    clear hK K
    (try simp only [Act.put])
    generalize (W5.setCell ⟨rb, 0, none⟩ (.slice a' (T.length + 1) cap')) = W6 at *
    clear E2 E3 E4 E5 fz e1 o5
    refine wpAnyH_done (by kernel_rfl) ?_ _
    have d0 := cell_block (o := 0) F4 rfl
    have d1 := cell_block (o := 0) F3 rfl
    go_wp2_with fail
    refine (sort_any w.heap.size rb cap' base (T.length + 1) a' _ _ W6 (by omega) (by omega) F3 F4 F1).mono ?_
    rintro e W7 ⟨rfl, G1, gg⟩
    have G3 := keep_block gg (not_own F1 F3 (by decide)) F3
    have G2 := F2.kept gg (own_not_map' F1 F2)
    have G5 := F5.grown gg (by have := F5.size; omega) (fun k hk => (F1.lt k hk).1)
    clear F1 F2 F3 F4 F5 gg d0 d1
    go_wp2
    go_ret
    rw [sorted_new hT hg] at G1
    exact ⟨rfl, ⟨_, mb, _, G3, h2, h3, by rw [tput_len hg]; exact G1, G2, h6⟩, G5⟩
  · go_simp
    refine hK.out _ _ ?_ (fun hHeld => ?_)
    · exact keep_drew (keep_alloc _ c0)
    clear hK K
    (try simp only [Act.put, List.setIfInBounds_toArray, List.set_cons_zero, List.set_cons_succ])
    have A0 : ((w3.alloc (.cells #[.int .i64 f.n] 3)).drew).cell? ⟨w3.heap.size, 0, none⟩ = some (.int .i64 f.n) := by simp [go_sem]
    have A1 : ((w3.alloc (.cells #[.int .i64 f.n] 3)).drew).ownsRow base 3 1 v T.length (lv (T.map (·.n))) := h4.alloc _
    have A2 : ((w3.alloc (.cells #[.int .i64 f.n] 3)).drew).ownsMap Tryz.prog 3 fE mb (c + 1) (D.put (.int .i64 f.n) (fd f)) := h5.alloc _
    have A3 : ((w3.alloc (.cells #[.int .i64 f.n] 3)).drew).heap[rb]? = some (.cells #[v, .map (some mb)] 213 (0, 0)) := block_alloc _ h1
    have A4 : ((w3.alloc (.cells #[.int .i64 f.n] 3)).drew).heap[w.heap.size]? = some (.cells #[.pointer (some ⟨rb, 0, none⟩)] 193 (0, 0)) := block_alloc _ q0
    have A5 : Below base w ((w3.alloc (.cells #[.int .i64 f.n] 3)).drew) := (B3.alloc (by have := B3.size; omega) _).drew
    generalize ((w3.alloc (.cells #[.int .i64 f.n] 3)).drew) = W4 at *
    clear h1 h4 h5 q0 B3 c0 r0
    refine wpAnyH_ready (rs := [4]) (by kernel_rfl) (by simp) ?_
    refine AllReadyH.cons (o := { dst := some 40, op := Go.Op.load 24 (Go.Operand.tmp 39), type := 24, pos := "l3_fact.go:99", after := #[{ on := 3, ground := Go.Ground.data }], guard := none }) rfl (fun K hK => ?_) AllReadyH.nil
    have r0 := cell_block (o := 0) A3 rfl
    go_simp
    refine hK.out _ _ ?_ (fun hHeld => ?_)
    · exact cell_block (o := 0) A4 rfl
    clear hK K
    (try simp only [Act.put, List.setIfInBounds_toArray, List.set_cons_zero, List.set_cons_succ])
    clear r0
    refine wpAnyH_ready (rs := [7]) (by kernel_rfl) (by simp) ?_
    refine AllReadyH.cons (o := { dst := some 43, op := Go.Op.call { callee := Go.Callee.builtin Go.Builtin.append, args := #[Go.Operand.tmp 40, Go.Operand.tmp 42], argTypes := #[24, 24] }, type := 24, pos := "l3_fact.go:99", after := #[{ on := 4, ground := Go.Ground.data }, { on := 6, ground := Go.Ground.data }], guard := none }) rfl (fun K hK => ?_) AllReadyH.nil
    refine step_app1 (by rfl) _ _ (by rfl) base v T.length (T.map (·.n)) (by rfl) A1 w3.heap.size f.n (by rfl) A0 (by omega) (by have := A5.size; omega) ?_
    intro a' cap' W5 o5 g5
    have E3 := keep_block g5 (not_own A1 A3 (by decide)) A3
    have E4 := keep_block g5 (not_own A1 A4 (by decide)) A4
    have E2 := A2.kept g5 (own_not_map' A1 A2)
    have E5 := A5.grown g5 (by have := A5.size; omega) (fun k hk => (A1.lt k hk).1)
    refine hK.out _ _ ?_ (fun hHeld => ?_)
    · exact cell_block (o := 0) E4 rfl
    clear hK K
    (try simp only [Act.put, List.setIfInBounds_toArray, List.set_cons_zero, List.set_cons_succ])
    clear A0 A1 A2 A3 A4 A5 g5
    refine wpAnyH_take (i := 8) (oi := { dst := some 44, op := Go.Op.nilCheck (Go.Operand.tmp 36), type := 0, pos := "l3_fact.go:99", after := #[{ on := 0, ground := Go.Ground.data }, { on := 0, ground := Go.Ground.phase }, { on := 1, ground := Go.Ground.phase }, { on := 2, ground := Go.Ground.phase }, { on := 3, ground := Go.Ground.phase }, { on := 4, ground := Go.Ground.phase }, { on := 5, ground := Go.Ground.phase }, { on := 6, ground := Go.Ground.phase }, { on := 7, ground := Go.Ground.phase }], guard := none }) (v := ?_) rfl (by kernel_rfl) (by kernel_rfl) (by kernel_rfl) (fun _ _ _ h => h) (Or.inl ⟨by rfl, ?_⟩) (by assumption) ?_
    rotate_left 1
    · (intro w hSw; (try dsimp only at hSw); go_simp; try with_reducible rfl)
    (try simp only [Act.put, List.setIfInBounds_toArray, List.set_cons_zero, List.set_cons_succ])
    refine wpAnyH_take (i := 9) (oi := { dst := some 45, op := Go.Op.fieldAddr 213 (Go.Operand.tmp 44) 0, type := 0, pos := "l3_fact.go:99", after := #[{ on := 8, ground := Go.Ground.data }, { on := 0, ground := Go.Ground.phase }, { on := 1, ground := Go.Ground.phase }, { on := 2, ground := Go.Ground.phase }, { on := 3, ground := Go.Ground.phase }, { on := 4, ground := Go.Ground.phase }, { on := 5, ground := Go.Ground.phase }, { on := 6, ground := Go.Ground.phase }, { on := 7, ground := Go.Ground.phase }], guard := none }) (v := ?_) rfl (by kernel_rfl) (by kernel_rfl) (by kernel_rfl) (fun _ _ _ h => h) (Or.inl ⟨by rfl, ?_⟩) (by assumption) ?_
    rotate_left 1
    · (intro w hSw; (try dsimp only at hSw); go_simp; try with_reducible rfl)
    (try simp only [Act.put, List.setIfInBounds_toArray, List.set_cons_zero, List.set_cons_succ])
    have fz : W5.frozen? ⟨rb, 0, none⟩ = false := by simp [World.frozen?, E3]
    have e1 := cell_block (o := 0) E3 rfl
    refine wpAnyH_ready (rs := [10]) (by kernel_rfl) (by simp) ?_
    refine AllReadyH.cons (o := { dst := none, op := Go.Op.store 24 (Go.Operand.tmp 45) (Go.Operand.tmp 43), type := 0, pos := "l3_fact.go:99", after := #[{ on := 9, ground := Go.Ground.data }, { on := 7, ground := Go.Ground.data }, { on := 7, ground := Go.Ground.chain }, { on := 0, ground := Go.Ground.phase }, { on := 1, ground := Go.Ground.phase }, { on := 2, ground := Go.Ground.phase }, { on := 3, ground := Go.Ground.phase }, { on := 4, ground := Go.Ground.phase }, { on := 5, ground := Go.Ground.phase }, { on := 6, ground := Go.Ground.phase }, { on := 7, ground := Go.Ground.phase }], guard := none }) rfl (fun K hK => ?_) AllReadyH.nil
    go_simp
    have F3 := block_set (v' := .slice a' (T.length + 1) cap') E3
    have F4 := (heap_setCell_other W5 ⟨rb, 0, none⟩ w.heap.size (.slice a' (T.length + 1) cap') (fun e => by rw [e, E3] at E4; simp at E4)).trans E4
    have F2 := E2.setCell (a := ⟨rb, 0, none⟩) (fun e => block_ne E2 E3 (by rw [e])) (.slice a' (T.length + 1) cap')
    have F1 := o5.kept (grown_set W5 rb 0 (.slice a' (T.length + 1) cap')) (.inr (fun e => not_own o5 E3 (by decide) e.symm))
    have F5 := E5.setCell (p := ⟨rb, 0, none⟩) h2 (.slice a' (T.length + 1) cap')
    refine hK.out _ _ ?_ (fun hHeld => ?_)
    · exact cell_block (o := 0) F4 rfl
    clear hK K
    (try simp only [Act.put])
    generalize (W5.setCell ⟨rb, 0, none⟩ (.slice a' (T.length + 1) cap')) = W6 at *
    clear E2 E3 E4 E5 fz e1 o5
    refine wpAnyH_done (by kernel_rfl) ?_ _
    have d0 := cell_block (o := 0) F4 rfl
    have d1 := cell_block (o := 0) F3 rfl
    go_wp2_with fail
    refine (sort_any w.heap.size rb cap' base (T.length + 1) a' _ _ W6 (by omega) (by omega) F3 F4 F1).mono ?_
    rintro e W7 ⟨rfl, G1, gg⟩
    have G3 := keep_block gg (not_own F1 F3 (by decide)) F3
    have G2 := F2.kept gg (own_not_map' F1 F2)
    have G5 := F5.grown gg (by have := F5.size; omega) (fun k hk => (F1.lt k hk).1)
    clear F1 F2 F3 F4 F5 gg d0 d1
    go_wp2
    go_ret
    rw [sorted_new hT hg] at G1
    exact ⟨rfl, ⟨_, mb, _, G3, h2, h3, by rw [tput_len hg]; exact G1, G2, h6⟩, G5⟩
set_option maxRecDepth 20000 in
/-- what a register does with a fact -/
theorem put_any (base rb c : Nat) (T : List Fc) (f : Fc) (w : World) (hR : Reg w base rb c T) (hT : Asc T) (hok : ∀ g ∈ T, fok g = true) (hf : fok f = true) (hb : base ≤ w.heap.size) (hc : c < 1000000) :
    Calls Tryz.prog 165 #[.pointer (some ⟨rb, 0, none⟩), fval f] w fun e w' => e = .returned (.bool (tnew T f)) ∧ Reg w' base rb (c + 1) (tput T f) ∧ Below base w w' := by
  cases hg : tget T f.n with
  | none =>
    have hl : T.length ≤ 8 := by
      rcases asc_short T 0 hT (fun g hg => by have := hok g hg; unfold fok fokB inb at this; simp at this; omega) with h | h
      · omega
      · simp [h]
    have e : tnew T f = true := by unfold tnew; rw [hg]
    rw [e]
    exact put_new base rb c T f hT hg hl w hR hf hb hc
  | some g =>
    have e : tnew T f = ovr f g := by unfold tnew; rw [hg]
    rw [e]
    cases ho : ovr f g with
    | false =>
      rw [tput_no hT hg ho]
      exact put_no base rb c T f g hg (hok g (tget_mem hg).1) ho w hR hf hb hc
    | true => exact put_yes base rb c T f g hT hg (hok g (tget_mem hg).1) ho w hR hf hb hc
end Go.Proofs.YtoimfgfhlbkdcaaGreatDoor
/- How facts are written: numbers, words and the texts of facts; the program's way and the model's. -/
namespace Go.Proofs.YtoimfgfhlbkdcaaGreatDoor
open Go.ChangeShapes Go.WideShapes Go.ChangeAt Go.RowKit
attribute [local go_sem ↓] Go.wp_at_zero Go.wp_at_succ
/-- the two tables that the library reads -/
structure Tabs (w : World) : Prop where
  p : Lib.TabIs Tryz.prog w "internal/strconv.uint64pow10" .u64 Lib.pow10Tab
  s : Lib.TabIs Tryz.prog w "strings.asciiSpace" .u8 Lib.asciiSpaceTab
theorem tabIs_below {n : String} {g : Nat} {k : IntKind} {zs : List Int} {w w' : World} (hg : Tryz.prog.globalNamed n = some g) (h : Lib.TabIs Tryz.prog w n k zs) (hb : Below w.heap.size w w') : Lib.TabIs Tryz.prog w' n k zs := by
  unfold Lib.TabIs World.var? at h ⊢
  rw [hg] at h ⊢
  simp only [Option.bind_some] at h ⊢
  have hlt : g < w.heap.size := by
    rcases Nat.lt_or_ge g w.heap.size with h' | h'
    · exact h'
    · rw [Array.getElem?_eq_none h'] at h
      cases h
  rw [hb.block g hlt]
  exact h
theorem gPow : ∃ g, Tryz.prog.globalNamed "internal/strconv.uint64pow10" = some g := Option.isSome_iff_exists.1 (by kernel_rfl)
theorem gSpace : ∃ g, Tryz.prog.globalNamed "strings.asciiSpace" = some g := Option.isSome_iff_exists.1 (by kernel_rfl)
theorem Tabs.below {w w' : World} (h : Tabs w) (hb : Below w.heap.size w w') : Tabs w' := by
  obtain ⟨g, hg⟩ := gPow
  obtain ⟨g', hg'⟩ := gSpace
  exact ⟨tabIs_below hg h.p hb, tabIs_below hg' h.s hb⟩
theorem qd {a w : World} {B : Nat} (h : Below B a w) : Below B a w.drew := ⟨h.os, h.tape, h.output, h.size, h.block⟩
theorem below_grow {w : World} (k : Nat) (os : Array Obj) : Below w.heap.size w (Go.Sort.grow (w.drewN k) os) :=
  ⟨rfl, rfl, rfl, by simp [Go.Sort.grow], fun i hi => by simp [Go.Sort.grow, Array.getElem?_append, hi]⟩
/-- bytes -/
abbrev bs (l : List UInt8) : ByteArray := ⟨l.toArray⟩
theorem bs_append (a b : List UInt8) : bs a ++ bs b = bs (a ++ b) := by
  apply ByteArray.ext
  simp [ByteArray.data_append]
theorem itoa_any (n : Int) (h0 : 0 ≤ n) (h1 : n ≤ 999) (w : World) (ht : Tabs w) :
    Calls Tryz.prog 36 #[.int .i64 n] w fun e w' => e = .returned (.string (bs (Lib.itoa n))) ∧ Below w.heap.size w w' :=
  (Tryz.strconv_Itoa n (by omega) (by omega) w ht.p).mono (by rintro e w' ⟨rfl, k, os, rfl⟩; exact ⟨rfl, below_grow k os⟩)
def namesL : List UInt8 := [97, 108, 105, 118, 101, 32, 115, 117, 115, 112, 101, 99, 116, 32, 100, 101, 97, 100, 32, 108, 101, 102, 116]
def wa1 : List UInt8 := [97, 108, 105, 118, 101]
def wa2 : List UInt8 := [115, 117, 115, 112, 101, 99, 116]
def wa3 : List UInt8 := [100, 101, 97, 100]
def wa4 : List UInt8 := [108, 101, 102, 116]
theorem names_ascii : ∀ b ∈ namesL, b.toNat < 128 := by decide
theorem fields_names : Lib.fields namesL = [wa1, wa2, wa3, wa4] := by decide
/-- the word for how somebody stands -/
def wordL (s : Int) : List UInt8 := if s = 1 then wa1 else if s = 2 then wa2 else if s = 3 then wa3 else wa4
theorem names_any (w : World) (ht : Tabs w) :
    Calls Tryz.prog 167 #[.string (bs [97, 108, 105, 118, 101, 32, 115, 117, 115, 112, 101, 99, 116, 32, 100, 101, 97, 100, 32, 108, 101, 102, 116])] w fun e w' => e = .returned (.slice (some ⟨w.heap.size, 0, none⟩) 4 4) ∧ w' = w.alloc (.cells #[.string (bs wa1), .string (bs wa2), .string (bs wa3), .string (bs wa4)] 9) := by
  have hf := Tryz.strings_Fields (bs namesL) w (by decide) (fun j b hb => names_ascii b (List.mem_of_getElem? hb)) ht.s
  have e1 : Lib.fields (bs namesL).data.toList = [wa1, wa2, wa3, wa4] := fields_names
  rw [e1] at hf
  go_enter Tryz.func167, Tryz.ntmps167
  go_wp2_with fail
  refine hf.mono ?_
  rintro e w' ⟨rfl, rfl⟩
  go_wp2
  go_ret
  exact ⟨rfl, rfl⟩
theorem of_name (s : Int) (h1 : 1 ≤ s) (h4 : s ≤ 4) (w : World) (ht : Tabs w) :
    Calls Tryz.prog 111 #[.string (bs [97, 108, 105, 118, 101, 32, 115, 117, 115, 112, 101, 99, 116, 32, 100, 101, 97, 100, 32, 108, 101, 102, 116]), .int .i64 s] w fun e w' => e = .returned (.string (bs (wordL s))) ∧ Below w.heap.size w w' := by
  have b1 : Below w.heap.size w (w.alloc (.cells #[.string (bs wa1), .string (bs wa2), .string (bs wa3), .string (bs wa4)] 9)) := balloc _ (Below.refl _ _)
  have p1 : (w.alloc (.cells #[.string (bs wa1), .string (bs wa2), .string (bs wa3), .string (bs wa4)] 9)).heap[w.heap.size]? = some (.cells #[.string (bs wa1), .string (bs wa2), .string (bs wa3), .string (bs wa4)] 9 (0, 0)) := heap_alloc_new _ _
  have c0 := cell_block (o := 0) (v := .string (bs wa1)) p1 rfl
  have c1 := cell_block (o := 1) (v := .string (bs wa2)) p1 rfl
  have c2 := cell_block (o := 2) (v := .string (bs wa3)) p1 rfl
  have c3 := cell_block (o := 3) (v := .string (bs wa4)) p1 rfl
  have hs : s = 1 ∨ s = 2 ∨ s = 3 ∨ s = 4 := by omega
  clear h1 h4
  rcases hs with rfl | rfl | rfl | rfl
  all_goals
    go_enter Tryz.func111, Tryz.ntmps111
    go_wp2_with fail
    refine (names_any w ht).mono ?_
    rintro e w' ⟨rfl, rfl⟩
    go_wp2
    go_ret
    exact ⟨rfl, b1⟩
theorem itoa_lit (n : Int) (x : ByteArray) (h0 : 0 ≤ n) (h1 : n ≤ 999) (hx : bs (Lib.itoa n) = x) (w : World) (ht : Tabs w) :
    Calls Tryz.prog 36 #[.int .i64 n] w fun e w' => e = .returned (.string x) ∧ Below w.heap.size w w' := hx ▸ itoa_any n h0 h1 w ht
theorem ofn_lit (s : Int) (x : ByteArray) (h1 : 1 ≤ s) (h4 : s ≤ 4) (hx : bs (wordL s) = x) (w : World) (ht : Tabs w) :
    Calls Tryz.prog 111 #[.string (bs [97, 108, 105, 118, 101, 32, 115, 117, 115, 112, 101, 99, 116, 32, 100, 101, 97, 100, 32, 108, 101, 102, 116]), .int .i64 s] w fun e w' => e = .returned (.string x) ∧ Below w.heap.size w w' := hx ▸ of_name s h1 h4 w ht
theorem dd_lenk : ∀ (k n : Nat), 0 < k → n < 10 ^ k → (Lib.decDigits n).length ≤ k
  | 0, _, h, _ => absurd h (by omega)
  | k + 1, n, _, h => by
    rw [Lib.decDigits]
    split
    · simp
    · have hk : 0 < k := by
        rcases Nat.eq_zero_or_pos k with e | e
        · subst e
          omega
        · exact e
      have := dd_lenk k (n / 10) hk (by rw [Nat.pow_succ] at h; omega)
      simp only [List.length_append, List.length_cons, List.length_nil]
      omega
theorem dd_len (n : Nat) (h : n < 1000) : (Lib.decDigits n).length ≤ 3 := by
  rw [Lib.decDigits]
  split
  · simp
  · rw [Lib.decDigits]
    split
    · simp
    · rw [Lib.decDigits, dif_pos (by omega)]
      simp
theorem itoa_len {n : Int} (h0 : 0 ≤ n) (h1 : n ≤ 999) : (bs (Lib.itoa n)).size ≤ 3 := by
  unfold Lib.itoa
  rw [if_neg (by omega)]
  simpa [ByteArray.size] using dd_len n.toNat (by omega)
theorem word_len (s : Int) : (bs (wordL s)).size ≤ 7 := by
  unfold wordL
  split
  · decide
  · split
    · decide
    · split <;> decide
/-- a fact's text -/
def ftx (f : Fc) : List UInt8 := Lib.itoa f.n ++ [58] ++ Lib.itoa f.i ++ [58] ++ wordL f.s ++ (if f.g = true then [42] else [])
theorem fok_all {f : Fc} (h : fok f = true) : 0 ≤ f.n ∧ f.n ≤ 7 ∧ 0 ≤ f.i ∧ f.i ≤ 999 ∧ 1 ≤ f.s ∧ f.s ≤ 4 := by
  unfold fok fokB inb at h
  simp at h
  omega
theorem ftext_any (f : Fc) (hf : fok f = true) (w : World) (ht : Tabs w) :
    Calls Tryz.prog 59 #[.agg #[.int .i64 f.n, .int .i64 f.i, .int .i64 f.s, .bool f.g]] w fun e w' => e = .returned (.string (bs (ftx f))) ∧ Below w.heap.size w w' := by
  obtain ⟨n0, n7, i0, i9, s1, s4⟩ := fok_all hf
  have b0 : Below w.heap.size w (w.alloc (.cells #[.int .i64 f.n, .int .i64 f.i, .int .i64 f.s, .bool f.g] 57)) := balloc _ (Below.refl _ _)
  have p0 : (w.alloc (.cells #[.int .i64 f.n, .int .i64 f.i, .int .i64 f.s, .bool f.g] 57)).heap[w.heap.size]? = some (.cells #[.int .i64 f.n, .int .i64 f.i, .int .i64 f.s, .bool f.g] 57 (0, 0)) := heap_alloc_new _ _
  have t0 := ht.below b0
  go_enter Tryz.func59, Tryz.ntmps59
  go_wp2_with fail
  generalize (w.alloc (.cells #[.int .i64 f.n, .int .i64 f.i, .int .i64 f.s, .bool f.g] 57)) = W0 at *
  have c0 := cell_block (o := 0) (v := .int .i64 f.n) p0 rfl
  have c1 := cell_block (o := 1) (v := .int .i64 f.i) p0 rfl
  have c2 := cell_block (o := 2) (v := .int .i64 f.s) p0 rfl
  have c3 := cell_block (o := 3) (v := .bool f.g) p0 rfl
  obtain ⟨x1, hx1⟩ : ∃ x, Hid (bs (Lib.itoa f.n) = x) := ⟨_, rfl⟩
  obtain ⟨x2, hx2⟩ : ∃ x, Hid (bs (Lib.itoa f.i) = x) := ⟨_, rfl⟩
  obtain ⟨x3, hx3⟩ : ∃ x, Hid (bs (wordL f.s) = x) := ⟨_, rfl⟩
  have z1 := itoa_len n0 (by omega : f.n ≤ 999)
  have z2 := itoa_len i0 i9
  have z3 := word_len f.s
  rw [hx1.out] at z1
  rw [hx2.out] at z2
  rw [hx3.out] at z3
  have k1 : ¬ 9223372036854775807 < x1.size + 1 := by omega
  have k2 : ¬ 9223372036854775807 < x1.size + 1 + x2.size := by omega
  have k3 : ¬ 9223372036854775807 < x1.size + 1 + x2.size + 1 := by omega
  have k4 : ¬ 9223372036854775807 < x1.size + 1 + x2.size + 1 + x3.size := by omega
  have k5 : ¬ 9223372036854775807 < x1.size + 1 + x2.size + 1 + x3.size + 1 := by omega
  have tD : Tabs W0.drew := t0.below (qd (Below.refl _ _))
  have b0d := qd b0
  obtain ⟨b0, hb0⟩ : ∃ b, w.heap.size = b := ⟨_, rfl⟩
  rw [hb0] at c0 c1 c2 c3 ⊢
  clear p0 t0
  refine wp_region_held_drew (S := fun w' => w'.cell? ⟨b0, 0, none⟩ = some (.int .i64 f.n) ∧ w'.cell? ⟨b0, 1, none⟩ = some (.int .i64 f.i) ∧ w'.cell? ⟨b0, 2, none⟩ = some (.int .i64 f.s) ∧ w'.cell? ⟨b0, 3, none⟩ = some (.bool f.g)) (by kernel_rfl) ?_ (fun hHeld => ?_)
  · (try dsimp only); (refine ⟨?_, ?_, ?_, ?_⟩ <;> (repeat (first | with_reducible assumption | with_reducible refine keep_drew ?_ | with_reducible refine keep_below (by assumption) ?_)))
  refine wpAnyH_take (i := 0) (oi := { dst := some 4, op := Go.Op.fieldAddr 57 (Go.Operand.tmp 1) 0, type := 0, pos := "l3_fact.go:139", after := #[], guard := none }) (v := ?_) rfl (by kernel_rfl) (by kernel_rfl) (by kernel_rfl) (fun _ _ _ h => h) (Or.inl ⟨by rfl, ?_⟩) (by assumption) ?_
  rotate_left 1
  · (intro w hSw; (try dsimp only at hSw); go_simp; try with_reducible rfl)
  (try simp only [Act.put, List.setIfInBounds_toArray, List.set_cons_zero, List.set_cons_succ])
  refine wpAnyH_take (i := 1) (oi := { dst := some 5, op := Go.Op.load 3 (Go.Operand.tmp 4), type := 3, pos := "l3_fact.go:139", after := #[{ on := 0, ground := Go.Ground.data }], guard := none }) (v := ?_) rfl (by kernel_rfl) (by kernel_rfl) (by kernel_rfl) (fun _ _ _ h => h) (Or.inl ⟨by rfl, ?_⟩) (by assumption) ?_
  rotate_left 1
  · (intro w hSw; (try dsimp only at hSw); go_simp; try with_reducible rfl)
  (try simp only [Act.put, List.setIfInBounds_toArray, List.set_cons_zero, List.set_cons_succ])
  refine wpAnyH_take (i := 4) (oi := { dst := some 8, op := Go.Op.fieldAddr 57 (Go.Operand.tmp 1) 1, type := 0, pos := "l3_fact.go:139", after := #[], guard := none }) (v := ?_) rfl (by kernel_rfl) (by kernel_rfl) (by kernel_rfl) (fun _ _ _ h => h) (Or.inl ⟨by rfl, ?_⟩) (by assumption) ?_
  rotate_left 1
  · (intro w hSw; (try dsimp only at hSw); go_simp; try with_reducible rfl)
  (try simp only [Act.put, List.setIfInBounds_toArray, List.set_cons_zero, List.set_cons_succ])
  refine wpAnyH_take (i := 5) (oi := { dst := some 9, op := Go.Op.load 3 (Go.Operand.tmp 8), type := 3, pos := "l3_fact.go:139", after := #[{ on := 4, ground := Go.Ground.data }], guard := none }) (v := ?_) rfl (by kernel_rfl) (by kernel_rfl) (by kernel_rfl) (fun _ _ _ h => h) (Or.inl ⟨by rfl, ?_⟩) (by assumption) ?_
  rotate_left 1
  · (intro w hSw; (try dsimp only at hSw); go_simp; try with_reducible rfl)
  (try simp only [Act.put, List.setIfInBounds_toArray, List.set_cons_zero, List.set_cons_succ])
  refine wpAnyH_take (i := 9) (oi := { dst := some 13, op := Go.Op.fieldAddr 57 (Go.Operand.tmp 1) 2, type := 0, pos := "l3_fact.go:139", after := #[], guard := none }) (v := ?_) rfl (by kernel_rfl) (by kernel_rfl) (by kernel_rfl) (fun _ _ _ h => h) (Or.inl ⟨by rfl, ?_⟩) (by assumption) ?_
  rotate_left 1
  · (intro w hSw; (try dsimp only at hSw); go_simp; try with_reducible rfl)
  (try simp only [Act.put, List.setIfInBounds_toArray, List.set_cons_zero, List.set_cons_succ])
  refine wpAnyH_take (i := 10) (oi := { dst := some 14, op := Go.Op.load 3 (Go.Operand.tmp 13), type := 3, pos := "l3_fact.go:139", after := #[{ on := 9, ground := Go.Ground.data }], guard := none }) (v := ?_) rfl (by kernel_rfl) (by kernel_rfl) (by kernel_rfl) (fun _ _ _ h => h) (Or.inl ⟨by rfl, ?_⟩) (by assumption) ?_
  rotate_left 1
  · (intro w hSw; (try dsimp only at hSw); go_simp; try with_reducible rfl)
  (try simp only [Act.put, List.setIfInBounds_toArray, List.set_cons_zero, List.set_cons_succ])
  refine wpAnyH_ready (rs := [2]) (by kernel_rfl) (by simp) ?_
  refine AllReadyH.cons (o := { dst := some 6, op := Go.Op.call { callee := Go.Callee.value (Go.Operand.func 36), args := #[Go.Operand.tmp 5], argTypes := #[3] }, type := 9, pos := "l3_fact.go:139", after := #[{ on := 1, ground := Go.Ground.data }], guard := none }) rfl (fun K hK => ?_) AllReadyH.nil
  go_simp
  refine (itoa_lit f.n _ n0 (by omega) hx1.out _ tD).mono ?_; rintro e w1 ⟨rfl, b1⟩; have t1 := tD.below b1
  go_wp2_with fail
  refine hK.out _ _ ?_ (fun hHeld => ?_)
  · (try dsimp only); (refine ⟨?_, ?_, ?_, ?_⟩ <;> (repeat (first | with_reducible assumption | with_reducible refine keep_drew ?_ | with_reducible refine keep_below (by assumption) ?_)))
  clear hK K
  (try simp only [Act.put, List.setIfInBounds_toArray, List.set_cons_zero, List.set_cons_succ])
  refine wpAnyH_take (i := 3) (oi := { dst := some 7, op := Go.Op.binOp Go.BinOp.add 9 (Go.Operand.tmp 6) (Go.Operand.const (Go.Value.string { data := #[58] })) 9, type := 9, pos := "l3_fact.go:139", after := #[{ on := 2, ground := Go.Ground.data }], guard := none }) (v := ?_) rfl (by kernel_rfl) (by kernel_rfl) (by kernel_rfl) (fun _ _ _ h => h) (Or.inl ⟨by rfl, ?_⟩) (by assumption) ?_
  rotate_left 1
  · (intro w hSw; (try dsimp only at hSw); go_simp; try with_reducible rfl)
  (try simp only [Act.put, List.setIfInBounds_toArray, List.set_cons_zero, List.set_cons_succ])
  refine wpAnyH_ready (rs := [6]) (by kernel_rfl) (by simp) ?_
  refine AllReadyH.cons (o := { dst := some 10, op := Go.Op.call { callee := Go.Callee.value (Go.Operand.func 36), args := #[Go.Operand.tmp 9], argTypes := #[3] }, type := 9, pos := "l3_fact.go:139", after := #[{ on := 5, ground := Go.Ground.data }, { on := 2, ground := Go.Ground.chain }], guard := none }) rfl (fun K hK => ?_) AllReadyH.nil
  go_simp
  refine (itoa_lit f.i _ i0 i9 hx2.out _ t1).mono ?_; rintro e w2 ⟨rfl, b2⟩; have t2 := t1.below b2
  go_wp2_with fail
  refine hK.out _ _ ?_ (fun hHeld => ?_)
  · (try dsimp only); (refine ⟨?_, ?_, ?_, ?_⟩ <;> (repeat (first | with_reducible assumption | with_reducible refine keep_drew ?_ | with_reducible refine keep_below (by assumption) ?_)))
  clear hK K
  (try simp only [Act.put, List.setIfInBounds_toArray, List.set_cons_zero, List.set_cons_succ])
  refine wpAnyH_take (i := 7) (oi := { dst := some 11, op := Go.Op.binOp Go.BinOp.add 9 (Go.Operand.tmp 7) (Go.Operand.tmp 10) 9, type := 9, pos := "l3_fact.go:139", after := #[{ on := 3, ground := Go.Ground.data }, { on := 6, ground := Go.Ground.data }], guard := none }) (v := ?_) rfl (by kernel_rfl) (by kernel_rfl) (by kernel_rfl) (fun _ _ _ h => h) (Or.inl ⟨by rfl, ?_⟩) (by assumption) ?_
  rotate_left 1
  · (intro w hSw; (try dsimp only at hSw); go_simp; try with_reducible rfl)
  (try simp only [Act.put, List.setIfInBounds_toArray, List.set_cons_zero, List.set_cons_succ])
  refine wpAnyH_take (i := 8) (oi := { dst := some 12, op := Go.Op.binOp Go.BinOp.add 9 (Go.Operand.tmp 11) (Go.Operand.const (Go.Value.string { data := #[58] })) 9, type := 9, pos := "l3_fact.go:139", after := #[{ on := 7, ground := Go.Ground.data }], guard := none }) (v := ?_) rfl (by kernel_rfl) (by kernel_rfl) (by kernel_rfl) (fun _ _ _ h => h) (Or.inl ⟨by rfl, ?_⟩) (by assumption) ?_
  rotate_left 1
  · (intro w hSw; (try dsimp only at hSw); go_simp; try with_reducible rfl)
  (try simp only [Act.put, List.setIfInBounds_toArray, List.set_cons_zero, List.set_cons_succ])
  refine wpAnyH_ready (rs := [11]) (by kernel_rfl) (by simp) ?_
  refine AllReadyH.cons (o := { dst := some 15, op := Go.Op.call { callee := Go.Callee.value (Go.Operand.func 111), args := #[Go.Operand.const (Go.Value.string { data := #[97, 108, 105, 118, 101, 32, 115, 117, 115, 112, 101, 99, 116, 32, 100, 101, 97, 100, 32, 108, 101, 102, 116] }), Go.Operand.tmp 14], argTypes := #[142, 3] }, type := 9, pos := "l3_fact.go:139", after := #[{ on := 10, ground := Go.Ground.data }, { on := 6, ground := Go.Ground.chain }], guard := none }) rfl (fun K hK => ?_) AllReadyH.nil
  go_simp
  refine (ofn_lit f.s _ s1 s4 hx3.out _ t2).mono ?_; rintro e w3 ⟨rfl, b3⟩
  go_wp2_with fail
  refine hK.out _ _ ?_ (fun hHeld => ?_)
  · (try dsimp only); (refine ⟨?_, ?_, ?_, ?_⟩ <;> (repeat (first | with_reducible assumption | with_reducible refine keep_drew ?_ | with_reducible refine keep_below (by assumption) ?_)))
  clear hK K
  (try simp only [Act.put, List.setIfInBounds_toArray, List.set_cons_zero, List.set_cons_succ])
  refine wpAnyH_take (i := 12) (oi := { dst := some 16, op := Go.Op.binOp Go.BinOp.add 9 (Go.Operand.tmp 12) (Go.Operand.tmp 15) 9, type := 9, pos := "l3_fact.go:139", after := #[{ on := 8, ground := Go.Ground.data }, { on := 11, ground := Go.Ground.data }], guard := none }) (v := ?_) rfl (by kernel_rfl) (by kernel_rfl) (by kernel_rfl) (fun _ _ _ h => h) (Or.inl ⟨by rfl, ?_⟩) (by assumption) ?_
  rotate_left 1
  · (intro w hSw; (try dsimp only at hSw); go_simp; try with_reducible rfl)
  (try simp only [Act.put, List.setIfInBounds_toArray, List.set_cons_zero, List.set_cons_succ])
  refine wpAnyH_take (i := 13) (oi := { dst := some 3, op := Go.Op.assign (Go.Operand.tmp 16), type := 9, pos := "l3_fact.go:139", after := #[{ on := 12, ground := Go.Ground.data }, { on := 11, ground := Go.Ground.chain }, { on := 0, ground := Go.Ground.phase }, { on := 1, ground := Go.Ground.phase }, { on := 2, ground := Go.Ground.phase }, { on := 3, ground := Go.Ground.phase }, { on := 4, ground := Go.Ground.phase }, { on := 5, ground := Go.Ground.phase }, { on := 6, ground := Go.Ground.phase }, { on := 7, ground := Go.Ground.phase }, { on := 8, ground := Go.Ground.phase }, { on := 9, ground := Go.Ground.phase }, { on := 10, ground := Go.Ground.phase }, { on := 11, ground := Go.Ground.phase }, { on := 12, ground := Go.Ground.phase }], guard := none }) (v := ?_) rfl (by kernel_rfl) (by kernel_rfl) (by kernel_rfl) (fun _ _ _ h => h) (Or.inl ⟨by rfl, ?_⟩) (by assumption) ?_
  rotate_left 1
  · (intro w hSw; (try dsimp only at hSw); go_simp; try with_reducible rfl)
  (try simp only [Act.put, List.setIfInBounds_toArray, List.set_cons_zero, List.set_cons_succ])
  refine wpAnyH_done (by kernel_rfl) ?_ _
  have B3 : Below w.heap.size w w3 := btrans (btrans (btrans b0d b1) b2) b3
  have d3 := keep_below b3 (keep_below b2 (keep_below b1 (keep_drew c3)))
  clear hHeld b1 b2 b3 b0d c0 c1 c2 c3 t1 t2 tD
  cases hg : f.g
  · have e1 : bs (ftx f) = x1 ++ bs [58] ++ x2 ++ bs [58] ++ x3 := by
      rw [← hx1.out, ← hx2.out, ← hx3.out, bs_append, bs_append, bs_append, bs_append]
      unfold ftx
      rw [hg]
      simp
    have e2 : Hid _ := e1
    rw [hg] at d3
    clear hx1 hx2 hx3 e1 hg
    go_wp2
    go_ret
    exact ⟨by rw [e2.out]; rfl, B3⟩
  · have e1 : bs (ftx f) = x1 ++ bs [58] ++ x2 ++ bs [58] ++ x3 ++ bs [42] := by
      rw [← hx1.out, ← hx2.out, ← hx3.out, bs_append, bs_append, bs_append, bs_append, bs_append]
      unfold ftx
      rw [hg]
      simp
    have e2 : Hid _ := e1
    rw [hg] at d3
    clear hx1 hx2 hx3 e1 hg
    go_wp2
    go_ret
    exact ⟨by rw [e2.out]; rfl, B3⟩
theorem conv_one (W : World) (b c d : Nat) (y : UInt8) (hd : d < 10) (hy : UInt8.ofNat (48 + d) = y) (hc : W.cell? ⟨b, 0, none⟩ = some (.int .u8 (48 + (d : Int)))) :
    (convert 73 9 (.slice (some ⟨b, 0, none⟩) 1 c)).run Tryz.prog W = .ok (.string (bs [y])) W := by
  subst hy
  refine run_convert_bytes_back W 73 9 5 ⟨b, 0, none⟩ c [UInt8.ofNat (48 + d)] Tryz.underlying73 Tryz.underlying5 Tryz.underlying9 (fun j hj => ?_)
  simp at hj
  subst hj
  have e : ((UInt8.ofNat (48 + d)).toNat : Int) = 48 + (d : Int) := by
    rw [UInt8.toNat_ofNat']
    omega
  simp only [List.getElem_cons_zero, e]
  exact hc
set_option maxRecDepth 20000 in
set_option maxHeartbeats 2000000 in
theorem dec_any : ∀ (m n : Nat), n < m → n < 9223372036854775808 → ∀ (w : World), Calls Tryz.prog 33 #[.int .i64 (n : Int)] w fun e w' => e = .returned (.string (bs (Lib.decDigits n))) ∧ Below w.heap.size w w'
  | 0, _, h, _, _ => absurd h (by omega)
  | m + 1, n, h, h9, w => by
    have i0 : ¬ (n : Int) < -9223372036854775807 := by omega
    have i1 : ¬ (n : Int) < 0 := by omega
    by_cases hn : n < 10
    · have i2 : (n : Int) < 10 := by omega
      have b1 : Below w.heap.size w (w.alloc (.cells #[.int .u8 (48 + (n : Int))] 5)) := balloc _ (Below.refl _ _)
      have cv := conv_one (w.alloc (.cells #[.int .u8 (48 + (n : Int))] 5)) w.heap.size 1 n _ hn rfl (by simp)
      rw [Lib.decDigits, dif_pos hn]
      go_enter Tryz.func33, Tryz.ntmps33
      go_wp2
      go_ret
      exact ⟨rfl, b1⟩
    · have i2 : ¬ (n : Int) < 10 := by omega
      have ih := dec_any m (n / 10) (by omega) (by omega)
      have hl := dd_lenk 19 (n / 10) (by omega) (by omega)
      rw [Lib.decDigits, dif_neg hn]
      obtain ⟨x, hx⟩ : ∃ x, Hid (bs (Lib.decDigits (n / 10)) = x) := ⟨_, rfl⟩
      have z1 : x.size ≤ 19 := by rw [← hx.out]; simpa [ByteArray.size] using hl
      have ih' : Hid (∀ w, Calls Tryz.prog 33 #[.int .i64 ((n / 10 : Nat) : Int)] w fun e w' => e = .returned (.string x) ∧ Below w.heap.size w w') := by rw [hx.out] at ih; exact ih
      obtain ⟨y, hy⟩ : ∃ y, Hid (UInt8.ofNat (48 + n % 10) = y) := ⟨_, rfl⟩
      have e1 : Hid (bs (Lib.decDigits (n / 10) ++ [UInt8.ofNat (48 + n % 10)]) = x ++ bs [y]) := by
        unfold Hid
        rw [← hx.out, ← hy.out, bs_append]
      have q1 : Int.tdiv (n : Int) 10 = ((n / 10 : Nat) : Int) := by rw [Int.tdiv_eq_ediv_of_nonneg (by omega)]; omega
      have q2 : Int.tmod (n : Int) 10 = ((n % 10 : Nat) : Int) := by rw [Int.tmod_eq_emod_of_nonneg (by omega)]; omega
      have hd : n % 10 < 10 := by omega
      have k1 : ¬ 9223372036854775807 < x.size + 1 := by omega
      have r1 : IntKind.i64.wrap ((n / 10 : Nat) : Int) = ((n / 10 : Nat) : Int) := by rw [IntKind.wrap_i64]; omega
      have r2 : IntKind.i64.wrap (48 + ((n % 10 : Nat) : Int)) = 48 + ((n % 10 : Nat) : Int) := by rw [IntKind.wrap_i64]; omega
      have r3 : IntKind.u8.wrap (48 + ((n % 10 : Nat) : Int)) = 48 + ((n % 10 : Nat) : Int) := by rw [IntKind.wrap_u8]; omega
      clear ih hx hl
      generalize n / 10 = u at *
      generalize n % 10 = d at *
      go_enter Tryz.func33, Tryz.ntmps33
      go_wp2_with fail
      refine wp_region_held_drew (S := fun _ => True) (by kernel_rfl) trivial (fun hHeld => ?_)
      refine wpAnyH_take (i := 0) (oi := { dst := some 18, op := Go.Op.move (Go.Operand.tmp 0), type := 3, pos := "l1_fix.go:20", after := #[], guard := none }) (v := ?_) rfl (by kernel_rfl) (by kernel_rfl) (by kernel_rfl) (fun _ _ _ h => h) (Or.inl ⟨by rfl, ?_⟩) (by assumption) ?_
      rotate_left 1
      · (intro w hSw; (try dsimp only at hSw); go_simp; try with_reducible rfl)
      (try simp only [Act.put, List.setIfInBounds_toArray, List.set_cons_zero, List.set_cons_succ])
      refine wpAnyH_take (i := 1) (oi := { dst := some 19, op := Go.Op.binOp Go.BinOp.quo 3 (Go.Operand.tmp 18) (Go.Operand.const (Go.Value.int Go.IntKind.i64 10)) 3, type := 3, pos := "l1_fix.go:20", after := #[{ on := 0, ground := Go.Ground.data }], guard := none }) (v := ?_) rfl (by kernel_rfl) (by kernel_rfl) (by kernel_rfl) (fun _ _ _ h => h) (Or.inl ⟨by rfl, ?_⟩) (by assumption) ?_
      rotate_left 1
      · (intro w hSw; (try dsimp only at hSw); go_simp; try with_reducible rfl)
      (try simp only [Act.put, List.setIfInBounds_toArray, List.set_cons_zero, List.set_cons_succ])
      refine wpAnyH_take (i := 3) (oi := { dst := some 21, op := Go.Op.move (Go.Operand.tmp 0), type := 3, pos := "l1_fix.go:20", after := #[], guard := none }) (v := ?_) rfl (by kernel_rfl) (by kernel_rfl) (by kernel_rfl) (fun _ _ _ h => h) (Or.inl ⟨by rfl, ?_⟩) (by assumption) ?_
      rotate_left 1
      · (intro w hSw; (try dsimp only at hSw); go_simp; try with_reducible rfl)
      (try simp only [Act.put, List.setIfInBounds_toArray, List.set_cons_zero, List.set_cons_succ])
      refine wpAnyH_take (i := 4) (oi := { dst := some 22, op := Go.Op.binOp Go.BinOp.rem 3 (Go.Operand.tmp 21) (Go.Operand.const (Go.Value.int Go.IntKind.i64 10)) 3, type := 3, pos := "l1_fix.go:20", after := #[{ on := 3, ground := Go.Ground.data }], guard := none }) (v := ?_) rfl (by kernel_rfl) (by kernel_rfl) (by kernel_rfl) (fun _ _ _ h => h) (Or.inl ⟨by rfl, ?_⟩) (by assumption) ?_
      rotate_left 1
      · (intro w hSw; (try dsimp only at hSw); go_simp; try with_reducible rfl)
      (try simp only [Act.put, List.setIfInBounds_toArray, List.set_cons_zero, List.set_cons_succ])
      refine wpAnyH_take (i := 5) (oi := { dst := some 23, op := Go.Op.binOp Go.BinOp.add 3 (Go.Operand.const (Go.Value.int Go.IntKind.i64 48)) (Go.Operand.tmp 22) 3, type := 3, pos := "l1_fix.go:20", after := #[{ on := 4, ground := Go.Ground.data }], guard := none }) (v := ?_) rfl (by kernel_rfl) (by kernel_rfl) (by kernel_rfl) (fun _ _ _ h => h) (Or.inl ⟨by rfl, ?_⟩) (by assumption) ?_
      rotate_left 1
      · (intro w hSw; (try dsimp only at hSw); go_simp; try with_reducible rfl)
      (try simp only [Act.put, List.setIfInBounds_toArray, List.set_cons_zero, List.set_cons_succ])
      refine wpAnyH_take (i := 6) (oi := { dst := some 24, op := Go.Op.convert 3 5 (Go.Operand.tmp 23), type := 5, pos := "l1_fix.go:20", after := #[{ on := 5, ground := Go.Ground.data }], guard := none }) (v := ?_) rfl (by kernel_rfl) (by kernel_rfl) (by kernel_rfl) (fun _ _ _ h => h) (Or.inl ⟨by rfl, ?_⟩) (by assumption) ?_
      rotate_left 1
      · (intro w hSw; (try dsimp only at hSw); go_simp; try with_reducible rfl)
      (try simp only [Act.put, List.setIfInBounds_toArray, List.set_cons_zero, List.set_cons_succ])
      refine wpAnyH_ready (rs := [2, 7]) (by kernel_rfl) (by simp) ?_
      refine AllReadyH.cons (o := { dst := some 20, op := Go.Op.call { callee := Go.Callee.value (Go.Operand.func 33), args := #[Go.Operand.tmp 19], argTypes := #[3] }, type := 9, pos := "l1_fix.go:20", after := #[{ on := 1, ground := Go.Ground.data }], guard := none }) rfl (fun K hK => ?_) (AllReadyH.cons (o := { dst := some 25, op := Go.Op.buildSlice 73 1 #[(0, Go.Operand.tmp 24)], type := 73, pos := "l1_fix.go:20", after := #[{ on := 6, ground := Go.Ground.data }], guard := none }) rfl (fun K hK => ?_) AllReadyH.nil)
      · go_simp
        refine (ih'.out _).mono ?_
        rintro e w1 ⟨rfl, b1⟩
        go_wp2_with fail
        refine hK.out _ _ trivial (fun hHeld => ?_)
        clear hK K
        (try simp only [Act.put, List.setIfInBounds_toArray, List.set_cons_zero, List.set_cons_succ])
        refine wpAnyH_ready (rs := [7]) (by kernel_rfl) (by simp) ?_
        refine AllReadyH.cons (o := { dst := some 25, op := Go.Op.buildSlice 73 1 #[(0, Go.Operand.tmp 24)], type := 73, pos := "l1_fix.go:20", after := #[{ on := 6, ground := Go.Ground.data }], guard := none }) rfl (fun K hK => ?_) AllReadyH.nil
        go_simp
        refine hK.out _ _ trivial (fun hHeld => ?_)
        clear hK K
        (try simp only [Act.put, List.setIfInBounds_toArray, List.set_cons_zero, List.set_cons_succ])
        refine wpAnyH_ready (rs := [8]) (by kernel_rfl) (by simp) ?_
        refine AllReadyH.cons (o := { dst := some 26, op := Go.Op.convert 73 9 (Go.Operand.tmp 25), type := 9, pos := "l1_fix.go:20", after := #[{ on := 7, ground := Go.Ground.data }], guard := none }) rfl (fun K hK => ?_) AllReadyH.nil
        have cv := conv_one (w1.alloc (.cells #[.int .u8 (48 + (d : Int))] 5)) w1.heap.size 1 d y hd hy.out (by simp)
        go_simp
        refine hK.out _ _ trivial (fun hHeld => ?_)
        clear hK K cv
        (try simp only [Act.put, List.setIfInBounds_toArray, List.set_cons_zero, List.set_cons_succ])
        refine wpAnyH_take (i := 9) (oi := { dst := some 27, op := Go.Op.binOp Go.BinOp.add 9 (Go.Operand.tmp 20) (Go.Operand.tmp 26) 9, type := 9, pos := "l1_fix.go:20", after := #[{ on := 2, ground := Go.Ground.data }, { on := 8, ground := Go.Ground.data }], guard := none }) (v := ?_) rfl (by kernel_rfl) (by kernel_rfl) (by kernel_rfl) (fun _ _ _ h => h) (Or.inl ⟨by rfl, ?_⟩) (by assumption) ?_
        rotate_left 1
        · (intro w hSw; (try dsimp only at hSw); go_simp; try with_reducible rfl)
        (try simp only [Act.put, List.setIfInBounds_toArray, List.set_cons_zero, List.set_cons_succ])
        refine wpAnyH_take (i := 10) (oi := { dst := some 2, op := Go.Op.assign (Go.Operand.tmp 27), type := 9, pos := "l1_fix.go:20", after := #[{ on := 9, ground := Go.Ground.data }, { on := 2, ground := Go.Ground.chain }, { on := 0, ground := Go.Ground.phase }, { on := 1, ground := Go.Ground.phase }, { on := 2, ground := Go.Ground.phase }, { on := 3, ground := Go.Ground.phase }, { on := 4, ground := Go.Ground.phase }, { on := 5, ground := Go.Ground.phase }, { on := 6, ground := Go.Ground.phase }, { on := 7, ground := Go.Ground.phase }, { on := 8, ground := Go.Ground.phase }, { on := 9, ground := Go.Ground.phase }], guard := none }) (v := ?_) rfl (by kernel_rfl) (by kernel_rfl) (by kernel_rfl) (fun _ _ _ h => h) (Or.inl ⟨by rfl, ?_⟩) (by assumption) ?_
        rotate_left 1
        · (intro w hSw; (try dsimp only at hSw); go_simp; try with_reducible rfl)
        (try simp only [Act.put, List.setIfInBounds_toArray, List.set_cons_zero, List.set_cons_succ])
        refine wpAnyH_done (by kernel_rfl) ?_ _
        have BB : Below w.heap.size w (w1.alloc (.cells #[.int .u8 (48 + (d : Int))] 5)) := balloc _ (btrans (qd (Below.refl _ _)) b1)
        go_wp2
        go_ret
        exact ⟨by rw [e1.out]; rfl, BB⟩
      · go_simp
        refine hK.out _ _ trivial (fun hHeld => ?_)
        clear hK K
        (try simp only [Act.put, List.setIfInBounds_toArray, List.set_cons_zero, List.set_cons_succ])
        have b0 : Below w.heap.size w (w.alloc (.cells #[.int .u8 (48 + (d : Int))] 5)).drew := qd (balloc _ (Below.refl _ _))
        have c0 : (w.alloc (.cells #[.int .u8 (48 + (d : Int))] 5)).drew.cell? ⟨w.heap.size, 0, none⟩ = some (.int .u8 (48 + (d : Int))) := by simp
        generalize (w.alloc (.cells #[.int .u8 (48 + (d : Int))] 5)).drew = w0 at *
        obtain ⟨bb, hbb⟩ : ∃ bb, w.heap.size = bb := ⟨_, rfl⟩
        rw [hbb] at c0 ⊢
        refine wpAnyH_ready (rs := [2, 8]) (by kernel_rfl) (by simp) ?_
        refine AllReadyH.cons (o := { dst := some 20, op := Go.Op.call { callee := Go.Callee.value (Go.Operand.func 33), args := #[Go.Operand.tmp 19], argTypes := #[3] }, type := 9, pos := "l1_fix.go:20", after := #[{ on := 1, ground := Go.Ground.data }], guard := none }) rfl (fun K hK => ?_) (AllReadyH.cons (o := { dst := some 26, op := Go.Op.convert 73 9 (Go.Operand.tmp 25), type := 9, pos := "l1_fix.go:20", after := #[{ on := 7, ground := Go.Ground.data }], guard := none }) rfl (fun K hK => ?_) AllReadyH.nil)
        · go_simp
          refine (ih'.out _).mono ?_
          rintro e w1 ⟨rfl, b1⟩
          go_wp2_with fail
          refine hK.out _ _ trivial (fun hHeld => ?_)
          clear hK K
          (try simp only [Act.put, List.setIfInBounds_toArray, List.set_cons_zero, List.set_cons_succ])
          refine wpAnyH_ready (rs := [8]) (by kernel_rfl) (by simp) ?_
          refine AllReadyH.cons (o := { dst := some 26, op := Go.Op.convert 73 9 (Go.Operand.tmp 25), type := 9, pos := "l1_fix.go:20", after := #[{ on := 7, ground := Go.Ground.data }], guard := none }) rfl (fun K hK => ?_) AllReadyH.nil
          have cv := conv_one w1 bb 1 d y hd hy.out (keep_below b1 c0)
          go_simp
          refine hK.out _ _ trivial (fun hHeld => ?_)
          clear hK K cv
          (try simp only [Act.put, List.setIfInBounds_toArray, List.set_cons_zero, List.set_cons_succ])
          refine wpAnyH_take (i := 9) (oi := { dst := some 27, op := Go.Op.binOp Go.BinOp.add 9 (Go.Operand.tmp 20) (Go.Operand.tmp 26) 9, type := 9, pos := "l1_fix.go:20", after := #[{ on := 2, ground := Go.Ground.data }, { on := 8, ground := Go.Ground.data }], guard := none }) (v := ?_) rfl (by kernel_rfl) (by kernel_rfl) (by kernel_rfl) (fun _ _ _ h => h) (Or.inl ⟨by rfl, ?_⟩) (by assumption) ?_
          rotate_left 1
          · (intro w hSw; (try dsimp only at hSw); go_simp; try with_reducible rfl)
          (try simp only [Act.put, List.setIfInBounds_toArray, List.set_cons_zero, List.set_cons_succ])
          refine wpAnyH_take (i := 10) (oi := { dst := some 2, op := Go.Op.assign (Go.Operand.tmp 27), type := 9, pos := "l1_fix.go:20", after := #[{ on := 9, ground := Go.Ground.data }, { on := 2, ground := Go.Ground.chain }, { on := 0, ground := Go.Ground.phase }, { on := 1, ground := Go.Ground.phase }, { on := 2, ground := Go.Ground.phase }, { on := 3, ground := Go.Ground.phase }, { on := 4, ground := Go.Ground.phase }, { on := 5, ground := Go.Ground.phase }, { on := 6, ground := Go.Ground.phase }, { on := 7, ground := Go.Ground.phase }, { on := 8, ground := Go.Ground.phase }, { on := 9, ground := Go.Ground.phase }], guard := none }) (v := ?_) rfl (by kernel_rfl) (by kernel_rfl) (by kernel_rfl) (fun _ _ _ h => h) (Or.inl ⟨by rfl, ?_⟩) (by assumption) ?_
          rotate_left 1
          · (intro w hSw; (try dsimp only at hSw); go_simp; try with_reducible rfl)
          (try simp only [Act.put, List.setIfInBounds_toArray, List.set_cons_zero, List.set_cons_succ])
          refine wpAnyH_done (by kernel_rfl) ?_ _
          have BB : Below w.heap.size w w1 := btrans b0 b1
          go_wp2
          go_ret
          exact ⟨by rw [e1.out]; rfl, BB⟩
        · have cv := conv_one w0 bb 1 d y hd hy.out c0
          go_simp
          refine hK.out _ _ trivial (fun hHeld => ?_)
          clear hK K cv
          (try simp only [Act.put, List.setIfInBounds_toArray, List.set_cons_zero, List.set_cons_succ])
          refine wpAnyH_ready (rs := [2]) (by kernel_rfl) (by simp) ?_
          refine AllReadyH.cons (o := { dst := some 20, op := Go.Op.call { callee := Go.Callee.value (Go.Operand.func 33), args := #[Go.Operand.tmp 19], argTypes := #[3] }, type := 9, pos := "l1_fix.go:20", after := #[{ on := 1, ground := Go.Ground.data }], guard := none }) rfl (fun K hK => ?_) AllReadyH.nil
          go_simp
          refine (ih'.out _).mono ?_
          rintro e w1 ⟨rfl, b1⟩
          go_wp2_with fail
          refine hK.out _ _ trivial (fun hHeld => ?_)
          clear hK K
          (try simp only [Act.put, List.setIfInBounds_toArray, List.set_cons_zero, List.set_cons_succ])
          refine wpAnyH_take (i := 9) (oi := { dst := some 27, op := Go.Op.binOp Go.BinOp.add 9 (Go.Operand.tmp 20) (Go.Operand.tmp 26) 9, type := 9, pos := "l1_fix.go:20", after := #[{ on := 2, ground := Go.Ground.data }, { on := 8, ground := Go.Ground.data }], guard := none }) (v := ?_) rfl (by kernel_rfl) (by kernel_rfl) (by kernel_rfl) (fun _ _ _ h => h) (Or.inl ⟨by rfl, ?_⟩) (by assumption) ?_
          rotate_left 1
          · (intro w hSw; (try dsimp only at hSw); go_simp; try with_reducible rfl)
          (try simp only [Act.put, List.setIfInBounds_toArray, List.set_cons_zero, List.set_cons_succ])
          refine wpAnyH_take (i := 10) (oi := { dst := some 2, op := Go.Op.assign (Go.Operand.tmp 27), type := 9, pos := "l1_fix.go:20", after := #[{ on := 9, ground := Go.Ground.data }, { on := 2, ground := Go.Ground.chain }, { on := 0, ground := Go.Ground.phase }, { on := 1, ground := Go.Ground.phase }, { on := 2, ground := Go.Ground.phase }, { on := 3, ground := Go.Ground.phase }, { on := 4, ground := Go.Ground.phase }, { on := 5, ground := Go.Ground.phase }, { on := 6, ground := Go.Ground.phase }, { on := 7, ground := Go.Ground.phase }, { on := 8, ground := Go.Ground.phase }, { on := 9, ground := Go.Ground.phase }], guard := none }) (v := ?_) rfl (by kernel_rfl) (by kernel_rfl) (by kernel_rfl) (fun _ _ _ h => h) (Or.inl ⟨by rfl, ?_⟩) (by assumption) ?_
          rotate_left 1
          · (intro w hSw; (try dsimp only at hSw); go_simp; try with_reducible rfl)
          (try simp only [Act.put, List.setIfInBounds_toArray, List.set_cons_zero, List.set_cons_succ])
          refine wpAnyH_done (by kernel_rfl) ?_ _
          have BB : Below w.heap.size w w1 := btrans b0 b1
          go_wp2
          go_ret
          exact ⟨by rw [e1.out]; rfl, BB⟩
end Go.Proofs.YtoimfgfhlbkdcaaGreatDoor
