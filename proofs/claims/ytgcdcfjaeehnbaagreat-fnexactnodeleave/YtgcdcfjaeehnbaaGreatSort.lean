/- Tables as lists: a fact more; what is there of a node. -/
import Derived.Test.YtgcdcfjaeehnbaaGreatGatesF
import Derived.Shelf.Small.Bits
import Derived.Shelf.Strconv.Itoa0
import Derived.Ground.GgsProg
import Derived.Shelf.GgSortFunc.Insertion
import Derived.Shelf.GgSortFunc.Small
import Derived.Shelf.GgSortFunc.InsertionK
import Derived.Shelf.GgSortFunc.SmallK
import Derived.Shelf.GgSortFunc.Tiny
import Derived.Shelf.GgSortFunc.Compose
import Derived.Shelf.GgSortFunc.LotD
import Derived.Ground.GgtProg
import Derived.Shelf.GgSortMore.Stable
import Derived.Test.YtgcdcfjaeehnbaaGreatProg
import Derived.Maps.OwnSet
import Derived.Lib.OwnBridge
import Derived.Sort.OwnSortedInts
import Derived.Sort.LotA
namespace Go.Proofs.YtgcdcfjaeehnbaaGreat
def ovr (f g : Fc) : Bool := l3B f.i f.s f.g g.i g.s g.g
def Asc (T : List Fc) : Prop := T.Pairwise fun f g => f.n < g.n
def fok (f : Fc) : Bool := fokB f.n f.i f.s
def tput : List Fc → Fc → List Fc
 | [], f => [f]
 | g :: r, f => if g.n < f.n then g :: tput r f else if g.n = f.n then (if ovr f g then f :: r else g :: r) else f :: g :: r
def tget (T : List Fc) (k : Int) : Option Fc := T.find? fun g => decide (g.n = k)
def tnew (T : List Fc) (f : Fc) : Bool := match tget T f.n with
 | some g => ovr f g
 | none => true
theorem tget_cons (g : Fc) (r : List Fc) (k : Int) : tget (g :: r) k = if g.n = k then some g else tget r k := by
 unfold tget
 rw [List.find?_cons]
 by_cases h : g.n = k <;> simp [h]
theorem tget_mem {T : List Fc} {k : Int} {g : Fc} (h : tget T k = some g) : g ∈ T ∧ g.n = k := by
 have h1 := List.mem_of_find?_eq_some h
 have h2 := List.find?_some h
 exact ⟨h1, by simpa using h2⟩
theorem tget_none {T : List Fc} {k : Int} (h : tget T k = none) : ∀ g ∈ T, g.n ≠ k := by
 intro g hg
 have := List.find?_eq_none.1 h g hg
 simpa using this
theorem tget_low {r : List Fc} {k : Int} (h : ∀ g ∈ r, k < g.n) : tget r k = none := by
 unfold tget
 rw [List.find?_eq_none]
 intro g hg
 have := h g hg
 simp
 omega
theorem asc_cons {g : Fc} {r : List Fc} : Asc (g :: r) ↔ (∀ x ∈ r, g.n < x.n) ∧ Asc r := List.pairwise_cons
theorem tput_mem {T : List Fc} {f x : Fc} (h : x ∈ tput T f) : x = f ∨ x ∈ T := by
 induction T with
 | nil => simp [tput] at h; exact .inl h
 | cons g r ih =>
  unfold tput at h
  split at h
  ·rcases List.mem_cons.1 h with h | h
   ·exact .inr (by simp [h])
   ·exact (ih h).imp id (fun h => List.mem_cons_of_mem _ h)
  ·split at h
   ·split at h
    ·rcases List.mem_cons.1 h with h | h
     ·exact .inl h
     ·exact .inr (List.mem_cons_of_mem _ h)
    ·exact .inr h
   ·rcases List.mem_cons.1 h with h | h
    ·exact .inl h
    ·exact .inr h
theorem tput_asc {T : List Fc} {f : Fc} (h : Asc T) : Asc (tput T f) := by
 induction T with
 | nil => simp [tput, Asc]
 | cons g r ih =>
  obtain ⟨h1, h2⟩ := asc_cons.1 h
  unfold tput
  split
  ·rename_i hlt
   refine asc_cons.2 ⟨fun x hx => ?_, ih h2⟩
   rcases tput_mem hx with rfl | hx
   ·exact hlt
   ·exact h1 x hx
  ·split
   ·rename_i heq
    split
    ·exact asc_cons.2 ⟨fun x hx => by have := h1 x hx; omega, h2⟩
    ·exact h
   ·refine asc_cons.2 ⟨fun x hx => ?_, h⟩
    rcases List.mem_cons.1 hx with rfl | hx
    ·omega
    ·have := h1 x hx; omega
theorem tget_tput {T : List Fc} {f : Fc} (h : Asc T) (k : Int) : tget (tput T f) k = if k = f.n ∧ tnew T f = true then some f else tget T k := by
 induction T with
 | nil =>
  have e0 : tnew [] f = true := rfl
  rw [e0, show tput [] f = [f] from rfl, tget_cons]
  by_cases e : f.n = k
  ·rw [if_pos e, if_pos ⟨e.symm, rfl⟩]
  ·rw [if_neg e, if_neg (fun h => e h.1.symm)]
 | cons g r ih =>
  obtain ⟨h1, h2⟩ := asc_cons.1 h
  unfold tput
  split
  ·rename_i hlt
   have e : tnew (g :: r) f = tnew r f := by
    unfold tnew
    rw [tget_cons, if_neg (by omega)]
   rw [tget_cons, ih h2, e, tget_cons]
   by_cases hk : g.n = k
   ·rw [if_pos hk, if_pos hk, if_neg (by omega)]
   ·rw [if_neg hk, if_neg hk]
  ·rename_i hnl
   split
   ·rename_i heq
    have e : tnew (g :: r) f = ovr f g := by
     unfold tnew
     rw [tget_cons, if_pos heq]
    rw [e]
    split
    ·rename_i ho
     rw [tget_cons, tget_cons]
     by_cases hk : f.n = k
     ·rw [if_pos hk, if_pos ⟨hk.symm, ho⟩]
     ·rw [if_neg hk, if_neg (fun h => hk h.1.symm), if_neg (by omega)]
    ·rename_i ho
     rw [if_neg (fun h => ho h.2)]
   ·rename_i hne
    have e : tnew (g :: r) f = true := by
     unfold tnew
     rw [tget_cons, if_neg hne, tget_low (fun x hx => by have := h1 x hx; omega)]
    rw [e, tget_cons]
    by_cases hk : f.n = k
    ·rw [if_pos hk, if_pos ⟨hk.symm, rfl⟩]
    ·rw [if_neg hk, if_neg (fun h => hk h.1.symm)]
theorem tput_old {T : List Fc} {f g : Fc} (h : Asc T) (hg : tget T f.n = some g) : (tput T f).map (·.n) = T.map (·.n) := by
 induction T with
 | nil => simp [tget] at hg
 | cons x r ih =>
  obtain ⟨h1, h2⟩ := asc_cons.1 h
  rw [tget_cons] at hg
  unfold tput
  split
  ·rename_i hlt
   rw [if_neg (by omega)] at hg
   simp [ih h2 hg]
  ·rename_i hnl
   split
   ·rename_i heq
    split
    ·simp [heq]
    ·rfl
   ·rename_i hne
    rw [if_neg hne] at hg
    have := tget_low (r := r) (k := f.n) (fun y hy => by have := h1 y hy; omega)
    rw [this] at hg
    cases hg
theorem tput_no {T : List Fc} {f g : Fc} (h : Asc T) (hg : tget T f.n = some g) (ho : ovr f g = false) : tput T f = T := by
 induction T with
 | nil => simp [tget] at hg
 | cons x r ih =>
  obtain ⟨h1, h2⟩ := asc_cons.1 h
  rw [tget_cons] at hg
  unfold tput
  split
  ·rename_i hlt
   rw [if_neg (by omega)] at hg
   rw [ih h2 hg]
  ·rename_i hnl
   split
   ·rename_i heq
    rw [if_pos heq] at hg
    cases hg
    simp [ho]
   ·rename_i hne
    rw [if_neg hne] at hg
    have := tget_low (r := r) (k := f.n) (fun y hy => by have := h1 y hy; omega)
    rw [this] at hg
    cases hg
theorem tput_perm {T : List Fc} {f : Fc} (hg : tget T f.n = none) : (tput T f).Perm (T ++ [f]) := by
 induction T with
 | nil => exact List.Perm.refl _
 | cons x r ih =>
  rw [tget_cons] at hg
  by_cases hx : x.n = f.n
  ·rw [if_pos hx] at hg; cases hg
  ·rw [if_neg hx] at hg
   unfold tput
   split
   ·exact (ih hg).cons x
   ·have : (f :: (x :: r)).Perm ((x :: r) ++ [f]) := (List.perm_append_comm (l₁ := [f]) (l₂ := x :: r))
    exact this
theorem tput_len {T : List Fc} {f : Fc} (hg : tget T f.n = none) : (tput T f).length = T.length + 1 := by
 have := (tput_perm hg).length_eq
 simpa using this
theorem tput_len_le (T : List Fc) (f : Fc) : (tput T f).length ≤ T.length + 1 := by
 induction T with
 | nil => simp [tput]
 | cons g r ih =>
  unfold tput
  split
  ·simp; omega
  ·split
   ·split <;> simp
   ·simp
theorem asc_short : ∀ (T : List Fc) (lo : Nat), Asc T → (∀ f ∈ T, (lo : Int) ≤ f.n ∧ f.n ≤ 7) → T.length + lo ≤ 8 ∨ T = []
 | [], _, _, _ => .inr rfl
 | g :: r, lo, h, hall => by
  obtain ⟨h1, h2⟩ := asc_cons.1 h
  have hg := hall g (by simp)
  rcases asc_short r (lo + 1) h2 (fun f hf => by have := h1 f hf; have := hall f (by simp [hf]); omega) with h | h
  ·left; simp; omega
  ·left; subst h; simp; omega
end Go.Proofs.YtgcdcfjaeehnbaaGreat
namespace Go.Proofs
open Go.Shelf
def Tryz.laysGg6_ren : Go.Shelf.Ren := ⟨fun | 6 => 203 | 10 => 207 | 11 => 208 | 12 => 210 | 13 => 242 | 14 => 243 | 24 => 268 | 25 => 269 | 26 => 254 | 27 => 270 | 28 => 271 | 29 => 272 | 30 => 273 | 31 => 274 | 32 => 275 | 33 => 276 | 34 => 283 | 35 => 284 | 36 => 285 | 37 => 286 | 38 => 287 | 39 => 291 | n => n, fun | 20 => 20 | 26 => 161 | 35 => 212 | 0 => 0 | 37 => 135 | 3 => 3 | 41 => 141 | 44 => 217 | 49 => 255 | 51 => 257 | 4 => 4 | 54 => 259 | 53 => 258 | 58 => 138 | 5 => 5 | 9 => 9 | 60 => 274 | 64 => 278 | 66 => 281 | 67 => 282 | 17 => 17 | 32 => 209 | 33 => 210 | 82 => 299 | 12 => 12 | 75 => 292 | 76 => 293 | 77 => 294 | 78 => 295 | 79 => 296 | 80 => 297 | n => n, fun | n => n⟩
theorem Tryz.laysGg6 : Go.Proofs.LaysGg.n6 Tryz.prog Tryz.laysGg6_ren := {
 mixed := by kernel_rfl
 f6 := Tryz.func203.trans (congrArg some (by kernel_rfl))
 f10 := Tryz.func207.trans (congrArg some (by kernel_rfl))
 f11 := Tryz.func208.trans (congrArg some (by kernel_rfl))
 f12 := Tryz.func210.trans (congrArg some (by kernel_rfl))
 f13 := Tryz.func242.trans (congrArg some (by kernel_rfl))
 f14 := Tryz.func243.trans (congrArg some (by kernel_rfl))
 f24 := Tryz.func268.trans (congrArg some (by kernel_rfl))
 f25 := Tryz.func269.trans (congrArg some (by kernel_rfl))
 f26 := Tryz.func254.trans (congrArg some (by kernel_rfl))
 f27 := Tryz.func270.trans (congrArg some (by kernel_rfl))
 f28 := Tryz.func271.trans (congrArg some (by kernel_rfl))
 f29 := Tryz.func272.trans (congrArg some (by kernel_rfl))
 f30 := Tryz.func273.trans (congrArg some (by kernel_rfl))
 f31 := Tryz.func274.trans (congrArg some (by kernel_rfl))
 f32 := Tryz.func275.trans (congrArg some (by kernel_rfl))
 f33 := Tryz.func276.trans (congrArg some (by kernel_rfl))
 f34 := Tryz.func283.trans (congrArg some (by kernel_rfl))
 f35 := Tryz.func284.trans (congrArg some (by kernel_rfl))
 f36 := Tryz.func285.trans (congrArg some (by kernel_rfl))
 f37 := Tryz.func286.trans (congrArg some (by kernel_rfl))
 f38 := Tryz.func287.trans (congrArg some (by kernel_rfl))
 f39 := Tryz.func291.trans (congrArg some (by kernel_rfl))
 t0 := Tryz.underlying0
 a0 := Tryz.isAgg0
 z0 := Tryz.sizeOf0
 v0 := Tryz.zeroValue0
 i0 := by kernel_rfl
 t3 := Tryz.underlying3
 a3 := Tryz.isAgg3
 z3 := Tryz.sizeOf3
 v3 := Tryz.zeroValue3
 i3 := by kernel_rfl
 t4 := Tryz.underlying4
 a4 := Tryz.isAgg4
 z4 := Tryz.sizeOf4
 v4 := Tryz.zeroValue4
 i4 := by kernel_rfl
 t5 := Tryz.underlying5
 a5 := Tryz.isAgg5
 z5 := Tryz.sizeOf5
 v5 := Tryz.zeroValue5
 i5 := by kernel_rfl
 t9 := Tryz.underlying9
 a9 := Tryz.isAgg9
 z9 := Tryz.sizeOf9
 v9 := Tryz.zeroValue9
 i9 := by kernel_rfl
 t12 := Tryz.underlying12
 a12 := Tryz.isAgg12
 z12 := Tryz.sizeOf12
 v12 := Tryz.zeroValue12
 i12 := by kernel_rfl
 t17 := Tryz.underlying17
 a17 := Tryz.isAgg17
 z17 := Tryz.sizeOf17
 v17 := Tryz.zeroValue17
 i17 := by kernel_rfl
 t20 := Tryz.underlying20
 a20 := Tryz.isAgg20
 z20 := Tryz.sizeOf20
 v20 := Tryz.zeroValue20
 i20 := by kernel_rfl
 t26 := Tryz.underlying161
 a26 := Tryz.isAgg161
 z26 := Tryz.sizeOf161
 v26 := Tryz.zeroValue161
 i26 := by kernel_rfl
 t32 := Tryz.underlying209
 a32 := Tryz.isAgg209
 z32 := Tryz.sizeOf209
 v32 := Tryz.zeroValue209
 i32 := by kernel_rfl
 t33 := Tryz.underlying210
 a33 := Tryz.isAgg210
 z33 := Tryz.sizeOf210
 v33 := Tryz.zeroValue210
 i33 := by kernel_rfl
 t35 := Tryz.underlying212
 a35 := Tryz.isAgg212
 z35 := Tryz.sizeOf212
 v35 := Tryz.zeroValue212
 i35 := by kernel_rfl
 t37 := Tryz.underlying135
 a37 := Tryz.isAgg135
 z37 := Tryz.sizeOf135
 v37 := Tryz.zeroValue135
 i37 := by kernel_rfl
 t41 := Tryz.underlying141
 a41 := Tryz.isAgg141
 z41 := Tryz.sizeOf141
 v41 := Tryz.zeroValue141
 i41 := by kernel_rfl
 t44 := Tryz.underlying217
 a44 := Tryz.isAgg217
 z44 := Tryz.sizeOf217
 v44 := Tryz.zeroValue217
 i44 := by kernel_rfl
 t49 := Tryz.underlying255
 a49 := Tryz.isAgg255
 z49 := Tryz.sizeOf255
 v49 := Tryz.zeroValue255
 i49 := by kernel_rfl
 t51 := Tryz.underlying257
 a51 := Tryz.isAgg257
 z51 := Tryz.sizeOf257
 v51 := Tryz.zeroValue257
 i51 := by kernel_rfl
 t53 := Tryz.underlying258
 a53 := Tryz.isAgg258
 z53 := Tryz.sizeOf258
 v53 := Tryz.zeroValue258
 i53 := by kernel_rfl
 t54 := Tryz.underlying259
 a54 := Tryz.isAgg259
 z54 := Tryz.sizeOf259
 v54 := Tryz.zeroValue259
 i54 := by kernel_rfl
 t58 := Tryz.underlying138
 a58 := Tryz.isAgg138
 z58 := Tryz.sizeOf138
 v58 := Tryz.zeroValue138
 i58 := by kernel_rfl
 t60 := Tryz.underlying274
 a60 := Tryz.isAgg274
 z60 := Tryz.sizeOf274
 v60 := Tryz.zeroValue274
 i60 := by kernel_rfl
 t64 := Tryz.underlying278
 a64 := Tryz.isAgg278
 z64 := Tryz.sizeOf278
 v64 := Tryz.zeroValue278
 i64 := by kernel_rfl
 t66 := Tryz.underlying281
 a66 := Tryz.isAgg281
 z66 := Tryz.sizeOf281
 v66 := Tryz.zeroValue281
 i66 := by kernel_rfl
 t67 := Tryz.underlying282
 a67 := Tryz.isAgg282
 z67 := Tryz.sizeOf282
 v67 := Tryz.zeroValue282
 i67 := by kernel_rfl
 t75 := Tryz.underlying292
 a75 := Tryz.isAgg292
 z75 := Tryz.sizeOf292
 v75 := Tryz.zeroValue292
 i75 := by kernel_rfl
 t76 := Tryz.underlying293
 a76 := Tryz.isAgg293
 z76 := Tryz.sizeOf293
 v76 := Tryz.zeroValue293
 i76 := by kernel_rfl
 t77 := Tryz.underlying294
 a77 := Tryz.isAgg294
 z77 := Tryz.sizeOf294
 v77 := Tryz.zeroValue294
 i77 := by kernel_rfl
 t78 := Tryz.underlying295
 a78 := Tryz.isAgg295
 z78 := Tryz.sizeOf295
 v78 := Tryz.zeroValue295
 i78 := by kernel_rfl
 t79 := Tryz.underlying296
 a79 := Tryz.isAgg296
 z79 := Tryz.sizeOf296
 v79 := Tryz.zeroValue296
 i79 := by kernel_rfl
 t80 := Tryz.underlying297
 a80 := Tryz.isAgg297
 z80 := Tryz.sizeOf297
 v80 := Tryz.zeroValue297
 i80 := by kernel_rfl
 t82 := Tryz.underlying299
 a82 := Tryz.isAgg299
 z82 := Tryz.sizeOf299
 v82 := Tryz.zeroValue299
 i82 := by kernel_rfl }
end Go.Proofs
namespace Go.Proofs.YtgcdcfjaeehnbaaGreat
open Go.ChangeShapes Go.WideShapes Go.ChangeAt Go.RowKit
attribute [local go_sem ↓] Go.wp_at_zero Go.wp_at_succ
abbrev fval (f : Fc) : Value := .agg #[.int .i64 f.n, .int .i64 f.i, .int .i64 f.s, .bool f.g]
def fd (f : Fc) : DataW Unit := .agg [.lit (.int .i64 f.n), .lit (.int .i64 f.i), .lit (.int .i64 f.s), .lit (.bool f.g)]
def fE : Value → Option (DataW Unit × List MemPlace)
 | .agg ⟨[.int .i64 a, .int .i64 b, .int .i64 c, .bool g]⟩ => some (fd ⟨a, b, c, g⟩, [])
 | _ => none
theorem fE_mk (f : Fc) : fE (fval f) = some (fd f, []) := rfl
theorem fE_inv {v : Value} {z : DataW Unit × List MemPlace} (h : fE v = some z) : ∃ f, v = fval f ∧ z = (fd f, []) := by
 unfold fE at h
 split at h
 ·simp only [Option.some.injEq] at h
  exact ⟨⟨_, _, _, _⟩, rfl, h.symm⟩
 ·cases h
theorem fd_inj {f g : Fc} (h : fd f = fd g) : f = g := by
 obtain ⟨a, b, c, d⟩ := f
 obtain ⟨a', b', c', d'⟩ := g
 simpa [fd] using h
def Kept (D : DataW Unit) (T : List Fc) : Prop := ∀ k : Int, Maps.has D (.int .i64 k) = (tget T k).isSome ∧ D.atKey (.int .i64 k) (fd Fc.zero) = fd ((tget T k).getD Fc.zero)
theorem kept_nil : Kept (.map []) [] := fun _ => ⟨rfl, rfl⟩
theorem kept_put {D : DataW Unit} {T : List Fc} {f : Fc} (hD : Maps.IsMap D) (h : Kept D T) (ha : Asc T) (hn : tnew T f = true) : Kept (D.put (.int .i64 f.n) (fd f)) (tput T f) := fun k => by
 rw [tget_tput ha]
 by_cases e : k = f.n
 ·subst e
  rw [if_pos ⟨rfl, hn⟩]
  exact ⟨Maps.has_put_same hD (by trivial) _, Maps.atKey_put_same hD (by trivial) _ _⟩
 ·rw [if_neg (fun h => e h.1)]
  have hne : (Lit.int .i64 k) ≠ .int .i64 f.n := fun h => e (by simpa using h)
  rw [Maps.has_put_other hne, Maps.atKey_put_other hne]
  exact h k
theorem keyed3 : Maps.Keyed Tryz.prog 3 := Maps.int_keyed Tryz.underlying3
theorem zero30 (w : World) : (zeroValue 96).run Tryz.prog w = .ok (fval Fc.zero) w := by kernel_rfl
theorem wpList_lookup_fact {w : World} {ops : Array Oper} {rest : List Oper} {o : Oper} {a : Act} {Q : Exit → Act → World → Prop} (hg : o.guard = none) (m x : Operand) (hop : o.op = Op.lookup 227 m x true)
  (b n : Nat) (D : DataW Unit) (T : List Fc) (hm : a.eval m = .map (some b)) (hown : w.ownsMap Tryz.prog 3 fE b n D) (hT : Kept D T) (k : Int) (hx : a.eval x = .int .i64 k) (hk : (Lit.int .i64 k).wf = true)
  (g : Fc) (q : Bool) (hgk : (tget T k).getD Fc.zero = g) (hq : (tget T k).isSome = q)
  (hK : wpList Tryz.prog ops Q rest (a.put o.dst (.tuple #[fval g, .bool q])) w) :
  wpList Tryz.prog ops Q (o :: rest) a w :=
 wpList_lookup_own_ok w hg m x 227 hop 3 96 keyed3 Tryz.underlying227 fE (zero30 w) (fd Fc.zero) [] rfl b n D hm hown _ _ hx (Maps.keyOf_int_mk Tryz.underlying3 hk) (fun v ps hv => by
  obtain ⟨f, rfl, hz⟩ := fE_inv hv
  simp only [Prod.mk.injEq] at hz
  rw [(hT k).2, hgk] at hz
  rw [(hT k).1, hq, ← fd_inj hz.1]
  exact hK)
def Reg (w : World) (base rb c : Nat) (T : List Fc) : Prop :=
 ∃ v mb D, w.heap[rb]? = some (.cells #[v, .map (some mb)] 229 (0, 0)) ∧ base ≤ rb ∧ base ≤ mb ∧ w.ownsRow base 3 1 v T.length (lv (T.map (·.n))) ∧ w.ownsMap Tryz.prog 3 fE mb c D ∧ Kept D T
theorem Reg.below {w w' : World} {base rb c : Nat} {T : List Fc} (h : Reg w base rb c T) (hb : Below w.heap.size w w') : Reg w' base rb c T := by
 obtain ⟨v, mb, D, h1, h2, h3, h4, h5, h6⟩ := h
 have hm := h5
 obtain ⟨es, clock, e1, r⟩ := h5
 exact ⟨v, mb, D, (hb.block rb (lt_of_block h1)).trans h1, h2, h3, own_below h4 hb, ⟨es, clock, (hb.block mb hm.lt).trans e1, r⟩, h6⟩
end Go.Proofs.YtgcdcfjaeehnbaaGreat
namespace Go.Proofs.YtgcdcfjaeehnbaaGreat
open Go.ChangeShapes Go.WideShapes Go.ChangeAt Go.RowKit
set_option maxRecDepth 20000
set_option maxHeartbeats 2000000
attribute [local go_sem ↓] Go.wp_at_zero Go.wp_at_succ
open Go.Shelf Go.Lib Go.Sort
theorem siT : ∃ i, Tryz.prog.info? 54 = some i ∧ i.desc = .slice 3 := ⟨(Tryz.prog.info? 54).get (by kernel_rfl), by kernel_rfl, by kernel_rfl⟩
theorem siE : ∃ i, Tryz.prog.info? 3 = some i ∧ i.size = 1 ∧ i.hasPointers = false ∧ i.bytes = 8 := ⟨(Tryz.prog.info? 3).get (by kernel_rfl), by kernel_rfl, by kernel_rfl, by kernel_rfl, by kernel_rfl⟩
theorem less_any (bx rb blk c size : Nat) (W : World) (G : Nat → Int) (hb : W.cell? ⟨bx, 0, none⟩ = some (.pointer (some ⟨rb, 0, none⟩))) (hs : W.cell? ⟨rb, 0, none⟩ = some (.slice (some ⟨blk, 0, none⟩) size c))
  (hc : ∀ t, t < size → W.cell? ⟨blk, t, none⟩ = some (.int .i64 (G t))) (i j : Nat) (hi : i < size) (hj : j < size) :
  Calls Tryz.prog 237 #[.int .i64 i, .int .i64 j, .pointer (some ⟨bx, 0, none⟩)] W fun e w' => e = .returned (.bool (decide (G i < G j))) ∧ ∃ q, w' = W.drewN q := by
 have ci := hc i hi
 have cj := hc j hj
 go_enter Tryz.func237, Tryz.ntmps237
 go_wp2
 go_quiet (fail)
 go_wp2
 go_ret
 exact ⟨rfl, nq, rfl⟩
theorem sort_two (bx rb g cap base : Nat) (L : List Int) (mv : Value) (w : World) (h2 : 2 ≤ L.length) (h12 : L.length ≤ 12) (hrb : w.heap[rb]? = some (.cells #[.slice (some ⟨g, 0, none⟩) L.length cap, mv] 229 (0, 0))) (hbx : w.heap[bx]? = some (.cells #[.pointer (some ⟨rb, 0, none⟩)] 204 (0, 0)))
  (hown : w.ownsRow base 3 1 (.slice (some ⟨g, 0, none⟩) L.length cap) L.length (lv L)) :
  Calls Tryz.prog 203 #[.iface 54 (.slice (some ⟨g, 0, none⟩) L.length cap), .func (.func 237) #[] #[.pointer (some ⟨bx, 0, none⟩)]] w fun e w' => e = .returned (.tuple #[]) ∧
   w'.ownsRow base 3 1 (.slice (some ⟨g, 0, none⟩) L.length cap) L.length (lv (L.mergeSort fun x y => decide (x ≤ y))) ∧ w.grownBy w' (some g) := by
 obtain ⟨iT, hiT, hdT⟩ := siT
 obtain ⟨iE, hiE, hsz, hpt, hby⟩ := siE
 have hK : Lib.swapperK L.toArray.size iE 2 = 5 := by
  have c : (L.length == 0) = false := by rw [beq_eq_false_iff_ne]; omega
  have d : (L.length == 1) = false := by rw [beq_eq_false_iff_ne]; omega
  simp [Lib.swapperK, hpt, hby, c, d]
 rcases hown.2 with ⟨h0, _⟩ | ⟨g1, cap1, cur, hv, hbase, hb, h1, h2', h3, h4⟩
 ·cases h0
 cases hv
 have hH : Holds (Value.int .i64) w g 0 L.toArray := holds_of_blockI hb (by simpa [lv] using h4)
 have hgl : g < w.heap.size := lt_of_block hb
 have n1 : rb ≠ g := fun e => by subst e; rw [hrb] at hb; simp at hb
 have n2 : bx ≠ g := fun e => by subst e; rw [hbx] at hb; simp at hb
 have hless : LessReads Tryz.prog 237 #[.pointer (some ⟨bx, 0, none⟩)] (Value.int .i64) ltInt g 0 L.toArray.size w := by
  intro m os dk hs i j hi hj
  have e : sortWorld (Value.int .i64) w g 0 m dk os = putRow (Value.int .i64) (grow (Sort.ahead w m) os) g 0 dk := by
   unfold sortWorld; rw [putRow_grow _ (Sort.ahead w m) _ g 0 _ hgl]
  have hHg : Holds (Value.int .i64) (grow (Sort.ahead w m) os) g 0 L.toArray := holds_grow _ _ _ g 0 _ hgl (holds_ahead _ _ _ _ _ _ hH)
  refine less_any bx rb g cap L.toArray.size _ (fun t => dk[t]!) ?_ ?_ (fun t ht => ?_) i j hi hj
  ·rw [e, cell?_putRow_other _ _ g 0 dk _ (Or.inl (by show bx ≠ g; omega)), cell?_grow _ _ _ (lt_of_block hbx)]
   show w.cell? _ = _
   simp [World.cell?, hbx]
  ·rw [e, cell?_putRow_other _ _ g 0 dk _ (Or.inl (by show rb ≠ g; omega)), cell?_grow _ _ _ (lt_of_block hrb)]
   show w.cell? _ = _
   simp [World.cell?, hrb]
  ·rw [e]
   have := cell?_putRow _ _ g 0 _ dk hHg hs t (by omega)
   rw [Nat.zero_add] at this
   exact this
 have hS := Any.sort_Slice_small_sorted Tryz.laysGg6 54 3 iT iE hiT hdT (by kernel_rfl) hiE 2 (fun _ => by kernel_rfl) hsz (fun _ => by kernel_rfl) (Value.int .i64) (fun _ => rfl) ltInt swo_ltInt 237 _
  (enters_of Tryz.func237 (by kernel_rfl) rfl) g 0 cap L.toArray (by simpa using h2) (by simpa using h12) 249 (by rw [hK]; kernel_rfl) true
  (fun args W => run_callFunc_extern Tryz.func249 (by kernel_rfl) (by kernel_rfl) (by kernel_rfl) (e := Extern.ReflectliteSwapper.swap true) (by kernel_rfl) args W) w hless hH hgl
 change Calls Tryz.prog 203 _ _ _ at hS
 refine hS.mono ?_
 rintro e w' ⟨rfl, d', n, os, hp, hso, rfl⟩
 have hd : d' = (L.mergeSort fun x y => decide (x ≤ y)).toArray := by
  have h := sorted_unique_holds (lt := ltInt) swo_ltInt (fun x y h1 h2 => by simp only [ltInt, decide_eq_false_iff_not] at h1 h2; omega) L.toArray d' hp hso
  have e : (fun x y : Int => !ltInt y x) = fun x y => decide (x ≤ y) := by
   funext x y
   simp only [ltInt]
   by_cases h : x ≤ y
   ·first | (simp [h]; done) | (simp [h]; omega)
   ·first | (simp [h]; done) | (simp [h]; omega)
  rw [e] at h
  rw [← h]
 subst hd
 exact ⟨rfl, ownsRow_sortedI (by simp [List.length_mergeSort]) hbase hb h1 h2' h3, grownBy_sortedI _⟩
theorem sort_one (bx g cap base : Nat) (x : Int) (w : World) (hown : w.ownsRow base 3 1 (.slice (some ⟨g, 0, none⟩) 1 cap) 1 (lv [x])) :
  Calls Tryz.prog 203 #[.iface 54 (.slice (some ⟨g, 0, none⟩) 1 cap), .func (.func 237) #[] #[.pointer (some ⟨bx, 0, none⟩)]] w fun e w' => e = .returned (.tuple #[]) ∧
   w'.ownsRow base 3 1 (.slice (some ⟨g, 0, none⟩) 1 cap) 1 (lv [x]) ∧ w.grownBy w' (some g) := by
 obtain ⟨iT, hiT, hdT⟩ := siT
 obtain ⟨iE, hiE, _, _, _⟩ := siE
 have hK : Lib.swapperK 1 iE 2 = 2 := by simp [Lib.swapperK]
 have hS := Any.sort_Slice_tiny Tryz.laysGg6 54 3 iT iE hiT hdT (by kernel_rfl) hiE 2 (fun _ => by kernel_rfl) (some ⟨g, 0, none⟩) 1 cap (by omega) 246 (by rw [hK]; kernel_rfl) (.func 237) #[] #[.pointer (some ⟨bx, 0, none⟩)] w
 change Calls Tryz.prog 203 _ _ _ at hS
 refine hS.mono ?_
 rintro e w' ⟨rfl, os, rfl⟩
 have hg : w.grownBy (grow w os) (some g) := ⟨rfl, rfl, rfl, by simp, fun k hk _ => heap_grow_old _ _ hk⟩
 exact ⟨rfl, hown.kept (row := none) ⟨rfl, rfl, rfl, by simp, fun k hk _ => heap_grow_old _ _ hk⟩ (.inr (by simp [Value.ownBlock])), hg⟩
theorem sort_any (bx rb cap base n : Nat) (a : Option Addr) (L : List Int) (mv : Value) (w : World) (h1 : 1 ≤ n) (h12 : n ≤ 12) (hrb : w.heap[rb]? = some (.cells #[.slice a n cap, mv] 229 (0, 0))) (hbx : w.heap[bx]? = some (.cells #[.pointer (some ⟨rb, 0, none⟩)] 204 (0, 0)))
  (hown : w.ownsRow base 3 1 (.slice a n cap) n (lv L)) :
  Calls Tryz.prog 203 #[.iface 54 (.slice a n cap), .func (.func 237) #[] #[.pointer (some ⟨bx, 0, none⟩)]] w fun e w' => e = .returned (.tuple #[]) ∧
   w'.ownsRow base 3 1 (.slice a n cap) n (lv (L.mergeSort fun x y => decide (x ≤ y))) ∧ w.grownBy w' (Value.slice a n cap).ownBlock := by
 have hl : L.length = n := by have := hown.1; simp [lv] at this; omega
 rcases own_shape hown with ⟨e, h0⟩ | ⟨g, c, e, _⟩
 ·omega
 ·simp only [Value.slice.injEq, true_and] at e
  obtain ⟨rfl, rfl⟩ := e
  subst hl
  match L, h1, hrb, h12, hown with
  | [x], _, _, _, hown =>
   have := sort_one bx g cap base x w hown
   simpa [Value.ownBlock] using this
  | x :: y :: r, _, hrb, h12, hown => exact sort_two bx rb g cap base (x :: y :: r) mv w (by simp) h12 hrb hbx hown
end Go.Proofs.YtgcdcfjaeehnbaaGreat
