/- Nodes: at every node NodeOk answers as its model does. -/
import Derived.Test.YtgcdcfjaeehnbaaGreatNd25
import Derived.Test.YtgcdcfjaeehnbaaGreatNd24
import Derived.Test.YtgcdcfjaeehnbaaGreatFacts
import Derived.Deep.Slices
import Derived.Deep.SlicePairs
import Derived.ChangeSame
import Derived.Lib.SmallJoins
import Derived.Test.YtgcdcfjaeehnbaaGreatItems
import Derived.Deep.Strs
import Derived.Test.YtgcdcfjaeehnbaaGreatNd40
import Derived.Test.YtgcdcfjaeehnbaaGreatNn6
namespace Go.Proofs.YtgcdcfjaeehnbaaGreat
open Go.ChangeShapes Go.WideShapes Go.ChangeAt Go.RowKit
attribute [local go_sem ↓] Go.wp_at_zero Go.wp_at_succ
theorem DtEq.symm' {x y z : Dt} (h : DtEq x z) (h' : DtEq y z) : DtEq x y := by
  obtain ⟨a0, a1, a2, a3, a4⟩ := h
  obtain ⟨b0, b1, b2, b3, b4⟩ := h'
  exact ⟨a0.trans b0.symm, a1.trans b1.symm, a2.trans b2.symm, a3.trans b3.symm, a4.trans b4.symm⟩
theorem PlEq.symm' {x y z : Pl} (h : PlEq x z) (h' : PlEq y z) : PlEq x y := by
  obtain ⟨a0, a1, a2, a3, a4, a5, a6⟩ := h
  obtain ⟨b0, b1, b2, b3, b4, b5, b6⟩ := h'
  exact ⟨a0.trans b0.symm, a1.trans b1.symm, a2.trans b2.symm, a3.trans b3.symm, a4.trans b4.symm, a5.trans b5.symm, a6.trans b6.symm⟩
theorem FgEq.symm' {x y z : Fg} (h : FgEq x z) (h' : FgEq y z) : FgEq x y := by
  obtain ⟨a0, a1, a2⟩ := h
  obtain ⟨b0, b1, b2⟩ := h'
  exact ⟨a0.trans b0.symm, a1.trans b1.symm, a2.trans b2.symm⟩
theorem row32 : ∃ d, Tryz.prog.underlying 32 = some d ∧ d.isRow = true := by
  have h : (Tryz.prog.underlying 32).map TypeDesc.isRow = some true := by kernel_rfl
  cases e : Tryz.prog.underlying 32 with
  | none => rw [e] at h; cases h
  | some d => rw [e] at h; exact ⟨d, rfl, by simpa using h⟩
theorem size32 : (Tryz.prog.info? 32).map (·.size) = some 21 := by kernel_rfl
theorem load32 {ops : Array Oper} {S : World → Prop} {op : Oper} {a : Act} (hw : Region.wanted op (yielded ops a.tmps) = true) (x : Operand) (ho : op.op = .load 32 x) (b : Nat) (hx : a.eval x = .pointer (some ⟨b, 0, none⟩)) (xs : List Value) (hS : ∀ w, S w → w.rangeAt b 0 xs) (hn : xs.length = 21) : YieldsIf Tryz.prog ops S op (.agg xs.toArray) a := by
  obtain ⟨d, hu, hd⟩ := row32
  exact yieldsIf_load_mid hw 32 x ho b 0 hx xs d hS hu hd (hn ▸ size32)
theorem load32L {ops : Array Oper} {rest : List Oper} {op : Oper} {a : Act} {w : World} {Q : Exit → Act → World → Prop} (hw : Region.wanted op (yielded ops a.tmps) = true) (x : Operand) (ho : op.op = .load 32 x) (b : Nat) (hx : a.eval x = .pointer (some ⟨b, 0, none⟩)) (xs : List Value) (hS : w.rangeAt b 0 xs) (hn : xs.length = 21)
    (h : wpList Tryz.prog ops Q rest (a.put op.dst (.agg xs.toArray)) w) : wpList Tryz.prog ops Q (op :: rest) a w := by
  obtain ⟨d, hu, hd⟩ := row32
  unfold wpList
  rw [if_pos hw]
  exact Or.inl (wp_load_mid 32 x ho b 0 hx xs d hS hu hd (hn ▸ size32) h)
def o3_10 : Array Oper := #[{ dst := some 22, op := .load 42 (.tmp 5), type := 42, pos := "exact.go:1726", after := #[], guard := none }, { dst := some 23, op := .load 32 (.tmp 1), type := 32, pos := "exact.go:1726", after := #[], guard := none }, { dst := some 24, op := .call { callee := .value (.func 8), args := #[.tmp 23], argTypes := #[32] }, type := 42, pos := "exact.go:1726", after := #[{ on := 1, ground := .data }], guard := none }, { dst := some 25, op := .call { callee := .value (.func 10), args := #[.tmp 22, .tmp 24], argTypes := #[42, 42] }, type := 4, pos := "exact.go:1726", after := #[{ on := 0, ground := .data }, { on := 2, ground := .data }, { on := 2, ground := .chain }], guard := none }, { dst := some 26, op := .unOp .not 4 (.tmp 25), type := 4, pos := "exact.go:1726", after := #[{ on := 3, ground := .data }], guard := none }]
theorem fo3_10 : FreeN .any o3_10 5 := ⟨⟨by kernel_rfl⟩, by kernel_rfl⟩
theorem o3_10_0 : o3_10[0]? = some { dst := some 22, op := .load 42 (.tmp 5), type := 42, pos := "exact.go:1726", after := #[], guard := none } := rfl
theorem o3_10_1 : o3_10[1]? = some { dst := some 23, op := .load 32 (.tmp 1), type := 32, pos := "exact.go:1726", after := #[], guard := none } := rfl
theorem o3_10_2 : o3_10[2]? = some { dst := some 24, op := .call { callee := .value (.func 8), args := #[.tmp 23], argTypes := #[32] }, type := 42, pos := "exact.go:1726", after := #[{ on := 1, ground := .data }], guard := none } := rfl
theorem o3_10_3 : o3_10[3]? = some { dst := some 25, op := .call { callee := .value (.func 10), args := #[.tmp 22, .tmp 24], argTypes := #[42, 42] }, type := 4, pos := "exact.go:1726", after := #[{ on := 0, ground := .data }, { on := 2, ground := .data }, { on := 2, ground := .chain }], guard := none } := rfl
theorem o3_10_4 : o3_10[4]? = some { dst := some 26, op := .unOp .not 4 (.tmp 25), type := 4, pos := "exact.go:1726", after := #[{ on := 3, ground := .data }], guard := none } := rfl
end Go.Proofs.YtgcdcfjaeehnbaaGreat
/- A list of facts that came in, opened. -/
namespace Go.Proofs.YtgcdcfjaeehnbaaGreat
open Go.ChangeShapes Go.WideShapes Go.ChangeAt Go.RowKit Go.Joins Go.Deep
theorem plain_of_cell {w : World} {a : Addr} {v : Value} (h : w.cell? a = some v) : a = ⟨a.block, a.off, none⟩ := by
  unfold World.cell? at h
  obtain ⟨b, o, s⟩ := a
  cases s with
  | none => rfl
  | some s => split at h <;> simp at h
section
variable {H : Type} {enc : TypeId × Value → H} {W : World} {base : Nat} {spare : Nat → Bool} {held : Bool}
set_option maxRecDepth 20000 in
theorem open_facts {fuel : Nat} {a : Option Addr} {len cap : Nat} {x : DataW H × List MemPlace} (t e : TypeId) (ht : Tryz.prog.underlying t = some (.slice e)) {f0 f1 f2 f3 : Field} (he : Tryz.prog.underlying e = some (.struct #[f0, f1, f2, f3])) (hone : oneCellFields Tryz.prog #[f0, f1, f2, f3] = true) (ce : Tryz.prog.cellsOf e = 4)
    (t0 : Tryz.prog.underlying f0.type = some (.int .i64)) (t1 : Tryz.prog.underlying f1.type = some (.int .i64)) (t2 : Tryz.prog.underlying f2.type = some (.int .i64)) (t3 : Tryz.prog.underlying f3.type = some .bool)
    (h : DataW.trod enc Tryz.prog W base spare held fuel t [.slice a len cap] = some x) :
    ∃ F : Nat → Fc, len ≤ cap ∧ len ≤ maxLen ∧ FSl W a len F := by
  rcases open_slice ht h with ⟨hcs, _⟩ | ⟨a', len', cap', m, n, D, Pl, hcs, hb, hl, hm, hmm, rfl, hx⟩
  · simp at hcs
    obtain ⟨rfl, rfl, rfl⟩ := hcs
    exact ⟨fun _ => Fc.zero, by omega, by omega, fun h => by omega⟩
  · simp at hcs
    obtain ⟨rfl, rfl, rfl⟩ := hcs
    have hlm : len ≤ m := by rw [hmm]; split <;> omega
    have each : ∀ i, i < m → ∃ q : Fc, W.cell? (a'.add (i * 4)) = some (.int .i64 q.n) ∧ W.cell? (a'.add (i * 4 + 1)) = some (.int .i64 q.i) ∧ W.cell? (a'.add (i * 4 + 2)) = some (.int .i64 q.s) ∧ W.cell? (a'.add (i * 4 + 3)) = some (.bool q.g) := by
      intro i hi
      obtain ⟨cs', h1, h2⟩ := hx i hi
      rw [ce] at h1
      obtain ⟨_, hlen, hcell⟩ := World.cells?_some h1
      obtain ⟨y0, y1, y2, y3, k, _, _, g0, g1, g2, g3⟩ := trod_struct4 he h2
      obtain ⟨o0, k0⟩ := hone_of hone 0 f0 rfl
      obtain ⟨o1, k1⟩ := hone_of hone 1 f1 rfl
      obtain ⟨o2, k2⟩ := hone_of hone 2 f2 rfl
      obtain ⟨o3, k3⟩ := hone_of hone 3 f3 rfl
      match cs', hlen with
      | [v0, v1, v2, v3], _ =>
        simp [o0, k0] at g0
        simp [o1, k1] at g1
        simp [o2, k2] at g2
        simp [o3, k3] at g3
        obtain ⟨x0, ea, _, _⟩ := DataW.trod_int t0 g0
        obtain ⟨x1, eb, _, _⟩ := DataW.trod_int t1 g1
        obtain ⟨x2, ec, _, _⟩ := DataW.trod_int t2 g2
        obtain ⟨x3, ed, _, _⟩ := DataW.trod_bool t3 g3
        simp at ea eb ec ed
        subst ea eb ec ed
        have e0 := hcell 0 (by omega)
        have e1 := hcell 1 (by omega)
        have e2 := hcell 2 (by omega)
        have e3 := hcell 3 (by omega)
        rw [add_add] at e0 e1 e2 e3
        exact ⟨⟨x0, x1, x2, x3⟩, by simpa using e0, by simpa using e1, by simpa using e2, by simpa using e3⟩
    have inh : Inhabited Fc := ⟨Fc.zero⟩
    obtain ⟨F, hF⟩ := choose_lt each
    refine ⟨F, hl, by omega, fun h0 => ?_⟩
    have hp := plain_of_cell (hF 0 (by omega)).1
    simp [Addr.add] at hp
    obtain ⟨b, off, sp⟩ := a'
    obtain rfl : sp = none := by simpa using hp
    refine ⟨b, off, rfl, ?_, fun k hk => ?_⟩
    · have := World.block_lt_of_cell? W _ (hF 0 (by omega)).1
      simpa [Addr.add] using this
    · have := hF k (by omega)
      rw [add_plain, add_plain, add_plain, add_plain] at this
      simpa [Nat.add_assoc] using this
end
end Go.Proofs.YtgcdcfjaeehnbaaGreat
/- A list of items that came in, opened. -/
namespace Go.Proofs.YtgcdcfjaeehnbaaGreat
open Go.ChangeShapes Go.WideShapes Go.ChangeAt Go.RowKit Go.Joins Go.Deep
section
variable {H : Type} {enc : TypeId × Value → H} {W : World} {base : Nat} {spare : Nat → Bool} {held : Bool}
set_option maxRecDepth 20000 in
theorem open_items {fuel : Nat} {a : Option Addr} {len cap : Nat} {x : DataW H × List MemPlace} (t e : TypeId) (ht : Tryz.prog.underlying t = some (.slice e)) {g0 g1 : Field} (he : Tryz.prog.underlying e = some (.struct #[g0, g1])) (ce : Tryz.prog.cellsOf e = 5)
    (o0 : g0.offset = 0) (k0 : Tryz.prog.cellsOf g0.type = 4) (o1 : g1.offset = 4) (k1 : Tryz.prog.cellsOf g1.type = 1) (tl : Tryz.prog.underlying g1.type = some (.int .i64))
    {f0 f1 f2 f3 : Field} (he2 : Tryz.prog.underlying g0.type = some (.struct #[f0, f1, f2, f3])) (hone : oneCellFields Tryz.prog #[f0, f1, f2, f3] = true)
    (t0 : Tryz.prog.underlying f0.type = some (.int .i64)) (t1 : Tryz.prog.underlying f1.type = some (.int .i64)) (t2 : Tryz.prog.underlying f2.type = some (.int .i64)) (t3 : Tryz.prog.underlying f3.type = some .bool)
    (h : DataW.trod enc Tryz.prog W base spare held fuel t [.slice a len cap] = some x) :
    ∃ F : Nat → It, len ≤ cap ∧ len ≤ maxLen ∧ TSl W a len F := by
  rcases open_slice ht h with ⟨hcs, _⟩ | ⟨a', len', cap', m, n, D, Pl, hcs, hb, hl, hm, hmm, rfl, hx⟩
  · simp at hcs
    obtain ⟨rfl, rfl, rfl⟩ := hcs
    exact ⟨fun _ => It.zero, by omega, by omega, fun h => by omega⟩
  · simp at hcs
    obtain ⟨rfl, rfl, rfl⟩ := hcs
    have hlm : len ≤ m := by rw [hmm]; split <;> omega
    have each : ∀ i, i < m → ∃ q : It, W.cell? (a'.add (i * 5)) = some (.int .i64 q.n) ∧ W.cell? (a'.add (i * 5 + 1)) = some (.int .i64 q.i) ∧ W.cell? (a'.add (i * 5 + 2)) = some (.int .i64 q.s) ∧ W.cell? (a'.add (i * 5 + 3)) = some (.bool q.g) ∧ W.cell? (a'.add (i * 5 + 4)) = some (.int .i64 q.l) := by
      intro i hi
      obtain ⟨cs', h1, h2⟩ := hx i hi
      rw [ce] at h1
      obtain ⟨_, hlen, hcell⟩ := World.cells?_some h1
      obtain ⟨z0, z1, kk, _, _, q0, q1⟩ := trod_struct2 he h2
      match cs', hlen with
      | [v0, v1, v2, v3, v4], _ =>
        simp [o0, k0] at q0
        simp [o1, k1] at q1
        obtain ⟨y0, y1, y2, y3, k, _, _, g0', g1', g2', g3'⟩ := trod_struct4 he2 q0
        obtain ⟨o0', k0'⟩ := hone_of hone 0 f0 rfl
        obtain ⟨o1', k1'⟩ := hone_of hone 1 f1 rfl
        obtain ⟨o2', k2'⟩ := hone_of hone 2 f2 rfl
        obtain ⟨o3', k3'⟩ := hone_of hone 3 f3 rfl
        simp [o0', k0'] at g0'
        simp [o1', k1'] at g1'
        simp [o2', k2'] at g2'
        simp [o3', k3'] at g3'
        obtain ⟨x0, ea, _, _⟩ := DataW.trod_int t0 g0'
        obtain ⟨x1, eb, _, _⟩ := DataW.trod_int t1 g1'
        obtain ⟨x2, ec, _, _⟩ := DataW.trod_int t2 g2'
        obtain ⟨x3, ed, _, _⟩ := DataW.trod_bool t3 g3'
        obtain ⟨x4, ee, _, _⟩ := DataW.trod_int tl q1
        simp at ea eb ec ed ee
        subst ea eb ec ed ee
        have e0 := hcell 0 (by omega)
        have e1 := hcell 1 (by omega)
        have e2 := hcell 2 (by omega)
        have e3 := hcell 3 (by omega)
        have e4 := hcell 4 (by omega)
        rw [add_add] at e0 e1 e2 e3 e4
        exact ⟨⟨x0, x1, x2, x3, x4⟩, by simpa using e0, by simpa using e1, by simpa using e2, by simpa using e3, by simpa using e4⟩
    have inh : Inhabited It := ⟨It.zero⟩
    obtain ⟨F, hF⟩ := choose_lt each
    refine ⟨F, hl, by omega, fun h0 => ?_⟩
    have hp := plain_of_cell (hF 0 (by omega)).1
    simp [Addr.add] at hp
    obtain ⟨b, off, sp⟩ := a'
    obtain rfl : sp = none := by simpa using hp
    refine ⟨b, off, rfl, ?_, fun k hk => ?_⟩
    · have := World.block_lt_of_cell? W _ (hF 0 (by omega)).1
      simpa [Addr.add] using this
    · have := hF k (by omega)
      rw [add_plain, add_plain, add_plain, add_plain, add_plain] at this
      simpa [Nat.add_assoc] using this
end
end Go.Proofs.YtgcdcfjaeehnbaaGreat
/- A word that came in, opened. -/
namespace Go.Proofs.YtgcdcfjaeehnbaaGreat
open Go.ChangeShapes Go.WideShapes Go.ChangeAt Go.RowKit Go.Joins Go.Deep
theorem array11 {α : Type} {cs : Array α} (h : cs.size = 11) : ∃ c0 c1 c2 c3 c4 c5 c6 c7 c8 c9 c10, cs = #[c0, c1, c2, c3, c4, c5, c6, c7, c8, c9, c10] := by
  obtain ⟨l⟩ := cs
  match l, h with
  | [c0, c1, c2, c3, c4, c5, c6, c7, c8, c9, c10], _ => exact ⟨c0, c1, c2, c3, c4, c5, c6, c7, c8, c9, c10, rfl⟩
theorem cellsOf3 : Tryz.prog.cellsOf 3 = 1 := by kernel_rfl
theorem cellsOf48 : Tryz.prog.cellsOf 28 = 4 := by kernel_rfl
theorem cellsOf30 : Tryz.prog.cellsOf 22 = 1 := by kernel_rfl
section
variable {H : Type} {enc : TypeId × Value → H} {W : World} {base : Nat} {spare : Nat → Bool} {held : Bool}
theorem int_of {n : Nat} {v : Value} {x : Option (DataW H × List MemPlace)} (h : DataW.trod enc Tryz.prog W base spare held n 3 [v] = x) (hx : x.isSome = true) : ∃ z : Int, v = .int .i64 z := by
  obtain ⟨y, rfl⟩ := Option.isSome_iff_exists.1 hx
  obtain ⟨z, e, _, _⟩ := DataW.trod_int Tryz.underlying3 h
  simp at e
  exact ⟨z, e⟩
end
end Go.Proofs.YtgcdcfjaeehnbaaGreat
/- A node that came in, opened. -/
namespace Go.Proofs.YtgcdcfjaeehnbaaGreat
open Go.ChangeShapes Go.WideShapes Go.ChangeAt Go.RowKit Go.Joins Go.Deep
theorem cellsOf4 : Tryz.prog.cellsOf 4 = 1 := by kernel_rfl
theorem cellsOf59 : Tryz.prog.cellsOf 54 = 1 := by kernel_rfl
section
variable {H : Type} {enc : TypeId × Value → H} {W : World} {base : Nat} {spare : Nat → Bool} {held : Bool}
theorem bool_of {n : Nat} {v : Value} {x : Option (DataW H × List MemPlace)} (h : DataW.trod enc Tryz.prog W base spare held n 4 [v] = x) (hx : x.isSome = true) : ∃ z : Bool, v = .bool z := by
  obtain ⟨y, rfl⟩ := Option.isSome_iff_exists.1 hx
  obtain ⟨z, e, _, _⟩ := DataW.trod_bool Tryz.underlying4 h
  simp at e
  exact ⟨z, e⟩
theorem slice_of {n : Nat} {t e : TypeId} (ht : Tryz.prog.underlying t = some (.slice e)) {v : Value} {x : DataW H × List MemPlace} (h : DataW.trod enc Tryz.prog W base spare held n t [v] = some x) : ∃ a len cap, v = .slice a len cap := by
  rcases open_slice ht h with ⟨hcs, _⟩ | ⟨a', len', cap', _, _, _, _, hcs, _⟩
  · simp at hcs; exact ⟨_, _, _, hcs⟩
  · simp at hcs; exact ⟨_, _, _, hcs⟩
set_option maxRecDepth 20000 in
theorem open_ints {fuel : Nat} {a : Option Addr} {len cap : Nat} {x : DataW H × List MemPlace} (h : DataW.trod enc Tryz.prog W base spare held fuel 54 [.slice a len cap] = some x) :
    ∃ f : Nat → Int, len ≤ cap ∧ len ≤ maxLen ∧ ISl W a len f := by
  rcases open_slice Tryz.underlying54 h with ⟨hcs, _⟩ | ⟨a', len', cap', m, n, D, PLc, hcs, hb, hl, hm, hmm, rfl, hx⟩
  · simp at hcs
    obtain ⟨rfl, rfl, rfl⟩ := hcs
    exact ⟨fun _ => 0, by omega, by omega, fun h => by omega⟩
  · simp at hcs
    obtain ⟨rfl, rfl, rfl⟩ := hcs
    have hlm : len ≤ m := by rw [hmm]; split <;> omega
    have each : ∀ i, i < m → ∃ q : Int, W.cell? (a'.add (i * 1)) = some (.int .i64 q) := by
      intro i hi
      obtain ⟨cs', h1, h2⟩ := hx i hi
      rw [cellsOf3] at h1
      obtain ⟨_, hlen, hcell⟩ := World.cells?_some h1
      match cs', hlen with
      | [v0], _ =>
        obtain ⟨z, rfl⟩ := int_of h2 rfl
        have e0 := hcell 0 (by omega)
        rw [add_add] at e0
        exact ⟨z, by simpa using e0⟩
    obtain ⟨F, hF⟩ := choose_lt each
    refine ⟨F, hl, by omega, fun h0 => ?_⟩
    have hp := plain_of_cell (hF 0 (by omega))
    simp [Addr.add] at hp
    obtain ⟨b, off, sp⟩ := a'
    obtain rfl : sp = none := by simpa using hp
    refine ⟨b, off, rfl, ?_, fun k hk => ?_⟩
    · have := World.block_lt_of_cell? W _ (hF 0 (by omega))
      simpa [Addr.add] using this
    · have := hF k (by omega)
      rw [add_plain] at this
      simpa [Nat.add_assoc] using this
theorem cellsOf22 : Tryz.prog.cellsOf 22 = 1 := by kernel_rfl
theorem open_facts22 {fuel : Nat} {a : Option Addr} {len cap : Nat} {x : DataW H × List MemPlace} (h : DataW.trod enc Tryz.prog W base spare held fuel 22 [.slice a len cap] = some x) : ∃ F : Nat → Fc, len ≤ cap ∧ len ≤ maxLen ∧ FSl W a len F :=
  open_facts 22 125 Tryz.underlying22 Tryz.underlying125 (by kernel_rfl) (by kernel_rfl) Tryz.underlying3 Tryz.underlying3 Tryz.underlying3 Tryz.underlying4 h
theorem coord_of {n : Nat} {c0 c1 c2 c3 : Value} {x : DataW H × List MemPlace} (h : DataW.trod enc Tryz.prog W base spare held n 28 [c0, c1, c2, c3] = some x) : ∃ x y z e : Int, c0 = .int .i64 x ∧ c1 = .int .i64 y ∧ c2 = .int .i64 z ∧ c3 = .int .i64 e := by
  obtain ⟨u0, u1, u2, u3, m, _, _, k0, k1, k2, k3⟩ := trod_struct4 Tryz.underlying28 h
  dsimp only at k0 k1 k2 k3
  rw [cellsOf3] at k0 k1 k2 k3
  simp only [List.drop, List.take] at k0 k1 k2 k3
  obtain ⟨z6, rfl⟩ := int_of k0 rfl
  obtain ⟨z7, rfl⟩ := int_of k1 rfl
  obtain ⟨z8, rfl⟩ := int_of k2 rfl
  obtain ⟨z9, rfl⟩ := int_of k3 rfl
  exact ⟨z6, z7, z8, z9, rfl, rfl, rfl, rfl⟩
set_option maxRecDepth 20000 in
theorem open_doubts {fuel : Nat} {a : Option Addr} {len cap : Nat} {x : DataW H × List MemPlace} (h : DataW.trod enc Tryz.prog W base spare held fuel 26 [.slice a len cap] = some x) :
    ∃ F : Nat → Dt, len ≤ cap ∧ len ≤ maxLen ∧ DtSl W a len F ∧ ∀ j, j < len → ISl W (F j).ba (F j).bl (F j).bf ∧ (F j).bl ≤ maxLen ∧ (F j).bl ≤ (F j).bc := by
  rcases open_slice Tryz.underlying26 h with ⟨hcs, _⟩ | ⟨a', len', cap', m, n, D, PLc, hcs, hb, hl, hm, hmm, rfl, hx⟩
  · simp at hcs
    obtain ⟨rfl, rfl, rfl⟩ := hcs
    exact ⟨fun _ => Dt.zero, by omega, by omega, fun h => by omega, fun j hj => by omega⟩
  · simp at hcs
    obtain ⟨rfl, rfl, rfl⟩ := hcs
    have hlm : len ≤ m := by rw [hmm]; split <;> omega
    have ce : Tryz.prog.cellsOf 109 = 4 := by kernel_rfl
    have each : ∀ i, i < m → ∃ q : Dt, (W.cell? (a'.add (i * 4)) = some (.int .i64 q.n) ∧ W.cell? (a'.add (i * 4 + 1)) = some (.int .i64 q.i) ∧ W.cell? (a'.add (i * 4 + 2)) = some (.int .i64 q.s) ∧ W.cell? (a'.add (i * 4 + 3)) = some (.slice q.ba q.bl q.bc)) ∧ ISl W q.ba q.bl q.bf ∧ q.bl ≤ maxLen ∧ q.bl ≤ q.bc := by
      intro i hi
      obtain ⟨cs', h1, h2⟩ := hx i hi
      rw [ce] at h1
      obtain ⟨_, hlen, hcell⟩ := World.cells?_some h1
      match cs', hlen with
      | [v0, v1, v2, v3], _ =>
        obtain ⟨u0, u1, u2, u3, m', _, _, k0, k1, k2, k3⟩ := trod_struct4 Tryz.underlying109 h2
        dsimp only at k0 k1 k2 k3
        rw [cellsOf3] at k0 k1 k2
        rw [cellsOf59] at k3
        simp only [List.drop, List.take] at k0 k1 k2 k3
        obtain ⟨z0, rfl⟩ := int_of k0 rfl
        obtain ⟨z1, rfl⟩ := int_of k1 rfl
        obtain ⟨z2, rfl⟩ := int_of k2 rfl
        obtain ⟨ba, bl, bc, rfl⟩ := slice_of Tryz.underlying54 k3
        obtain ⟨bf, hC, hM, hI⟩ := open_ints k3
        have e0 := hcell 0 (by omega)
        have e1 := hcell 1 (by omega)
        have e2 := hcell 2 (by omega)
        have e3 := hcell 3 (by omega)
        rw [add_add] at e0 e1 e2 e3
        exact ⟨⟨z0, z1, z2, ba, bl, bc, bf⟩, ⟨by simpa using e0, by simpa using e1, by simpa using e2, by simpa using e3⟩, hI, hM, hC⟩
    have inh : Inhabited Dt := ⟨Dt.zero⟩
    obtain ⟨F, hF⟩ := choose_lt each
    refine ⟨F, hl, by omega, fun h0 => ?_, fun j hj => (hF j (by omega)).2⟩
    have hp := plain_of_cell (hF 0 (by omega)).1.1
    simp [Addr.add] at hp
    obtain ⟨b, off, sp⟩ := a'
    obtain rfl : sp = none := by simpa using hp
    refine ⟨b, off, rfl, ?_, fun k hk => ?_⟩
    · have := World.block_lt_of_cell? W _ (hF 0 (by omega)).1.1
      simpa [Addr.add] using this
    · have := (hF k (by omega)).1
      rw [add_plain, add_plain, add_plain, add_plain] at this
      simpa [Nat.add_assoc] using this
set_option maxRecDepth 20000 in
theorem open_places {fuel : Nat} {a : Option Addr} {len cap : Nat} {x : DataW H × List MemPlace} (h : DataW.trod enc Tryz.prog W base spare held fuel 29 [.slice a len cap] = some x) :
    ∃ F : Nat → Pl, len ≤ cap ∧ len ≤ maxLen ∧ PlSl W a len F ∧ ∀ j, j < len → ISl W (F j).ba (F j).bl (F j).bf ∧ (F j).bl ≤ maxLen ∧ (F j).bl ≤ (F j).bc := by
  rcases open_slice Tryz.underlying29 h with ⟨hcs, _⟩ | ⟨a', len', cap', m, n, D, PLc, hcs, hb, hl, hm, hmm, rfl, hx⟩
  · simp at hcs
    obtain ⟨rfl, rfl, rfl⟩ := hcs
    exact ⟨fun _ => Pl.zero, by omega, by omega, fun h => by omega, fun j hj => by omega⟩
  · simp at hcs
    obtain ⟨rfl, rfl, rfl⟩ := hcs
    have hlm : len ≤ m := by rw [hmm]; split <;> omega
    have ce : Tryz.prog.cellsOf 112 = 6 := by kernel_rfl
    have each : ∀ i, i < m → ∃ q : Pl, (W.cell? (a'.add (i * 6)) = some (.int .i64 q.n) ∧ W.cell? (a'.add (i * 6 + 1)) = some (.int .i64 q.x) ∧ W.cell? (a'.add (i * 6 + 2)) = some (.int .i64 q.y) ∧ W.cell? (a'.add (i * 6 + 3)) = some (.int .i64 q.h) ∧ W.cell? (a'.add (i * 6 + 4)) = some (.int .i64 q.e) ∧ W.cell? (a'.add (i * 6 + 5)) = some (.slice q.ba q.bl q.bc)) ∧ ISl W q.ba q.bl q.bf ∧ q.bl ≤ maxLen ∧ q.bl ≤ q.bc := by
      intro i hi
      obtain ⟨cs', h1, h2⟩ := hx i hi
      rw [ce] at h1
      obtain ⟨_, hlen, hcell⟩ := World.cells?_some h1
      match cs', hlen with
      | [v0, v1, v2, v3, v4, v5], _ =>
        obtain ⟨u0, u1, u2, m', _, _, k0, k1, k2⟩ := trod_struct3 Tryz.underlying112 h2
        dsimp only at k0 k1 k2
        rw [cellsOf3] at k0
        rw [cellsOf48] at k1
        rw [cellsOf59] at k2
        simp only [List.drop, List.take] at k0 k1 k2
        obtain ⟨z0, rfl⟩ := int_of k0 rfl
        obtain ⟨z1, z2, z3, z4, rfl, rfl, rfl, rfl⟩ := coord_of k1
        obtain ⟨ba, bl, bc, rfl⟩ := slice_of Tryz.underlying54 k2
        obtain ⟨bf, hC, hM, hI⟩ := open_ints k2
        have e0 := hcell 0 (by omega)
        have e1 := hcell 1 (by omega)
        have e2 := hcell 2 (by omega)
        have e3 := hcell 3 (by omega)
        have e4 := hcell 4 (by omega)
        have e5 := hcell 5 (by omega)
        rw [add_add] at e0 e1 e2 e3 e4 e5
        exact ⟨⟨z0, z1, z2, z3, z4, ba, bl, bc, bf⟩, ⟨by simpa using e0, by simpa using e1, by simpa using e2, by simpa using e3, by simpa using e4, by simpa using e5⟩, hI, hM, hC⟩
    have inh : Inhabited Pl := ⟨Pl.zero⟩
    obtain ⟨F, hF⟩ := choose_lt each
    refine ⟨F, hl, by omega, fun h0 => ?_, fun j hj => (hF j (by omega)).2⟩
    have hp := plain_of_cell (hF 0 (by omega)).1.1
    simp [Addr.add] at hp
    obtain ⟨b, off, sp⟩ := a'
    obtain rfl : sp = none := by simpa using hp
    refine ⟨b, off, rfl, ?_, fun k hk => ?_⟩
    · have := World.block_lt_of_cell? W _ (hF 0 (by omega)).1.1
      simpa [Addr.add] using this
    · have := (hF k (by omega)).1
      rw [add_plain, add_plain, add_plain, add_plain, add_plain, add_plain] at this
      simpa [Nat.add_assoc] using this
set_option maxRecDepth 20000 in
theorem open_foreigns {fuel : Nat} {a : Option Addr} {len cap : Nat} {x : DataW H × List MemPlace} (h : DataW.trod enc Tryz.prog W base spare held fuel 30 [.slice a len cap] = some x) :
    ∃ F : Nat → Fg, len ≤ cap ∧ len ≤ maxLen ∧ FgSl W a len F ∧ ∀ j, j < len → FSl W (F j).ba (F j).bl (F j).bf ∧ (F j).bl ≤ maxLen ∧ (F j).bl ≤ (F j).bc := by
  rcases open_slice Tryz.underlying30 h with ⟨hcs, _⟩ | ⟨a', len', cap', m, n, D, PLc, hcs, hb, hl, hm, hmm, rfl, hx⟩
  · simp at hcs
    obtain ⟨rfl, rfl, rfl⟩ := hcs
    exact ⟨fun _ => Fg.zero, by omega, by omega, fun h => by omega, fun j hj => by omega⟩
  · simp at hcs
    obtain ⟨rfl, rfl, rfl⟩ := hcs
    have hlm : len ≤ m := by rw [hmm]; split <;> omega
    have ce : Tryz.prog.cellsOf 115 = 2 := by kernel_rfl
    have each : ∀ i, i < m → ∃ q : Fg, (W.cell? (a'.add (i * 2)) = some (.int .i64 q.n) ∧ W.cell? (a'.add (i * 2 + 1)) = some (.slice q.ba q.bl q.bc)) ∧ FSl W q.ba q.bl q.bf ∧ q.bl ≤ maxLen ∧ q.bl ≤ q.bc := by
      intro i hi
      obtain ⟨cs', h1, h2⟩ := hx i hi
      rw [ce] at h1
      obtain ⟨_, hlen, hcell⟩ := World.cells?_some h1
      match cs', hlen with
      | [v0, v1], _ =>
        obtain ⟨u0, u1, m', _, _, k0, k1⟩ := trod_struct2 Tryz.underlying115 h2
        dsimp only at k0 k1
        rw [cellsOf3] at k0
        rw [cellsOf22] at k1
        simp only [List.drop, List.take] at k0 k1
        obtain ⟨z0, rfl⟩ := int_of k0 rfl
        obtain ⟨ba, bl, bc, rfl⟩ := slice_of Tryz.underlying22 k1
        obtain ⟨bf, hC, hM, hI⟩ := open_facts22 k1
        have e0 := hcell 0 (by omega)
        have e1 := hcell 1 (by omega)
        rw [add_add] at e0 e1
        exact ⟨⟨z0, ba, bl, bc, bf⟩, ⟨by simpa using e0, by simpa using e1⟩, hI, hM, hC⟩
    have inh : Inhabited Fg := ⟨Fg.zero⟩
    obtain ⟨F, hF⟩ := choose_lt each
    refine ⟨F, hl, by omega, fun h0 => ?_, fun j hj => (hF j (by omega)).2⟩
    have hp := plain_of_cell (hF 0 (by omega)).1.1
    simp [Addr.add] at hp
    obtain ⟨b, off, sp⟩ := a'
    obtain rfl : sp = none := by simpa using hp
    refine ⟨b, off, rfl, ?_, fun k hk => ?_⟩
    · have := World.block_lt_of_cell? W _ (hF 0 (by omega)).1.1
      simpa [Addr.add] using this
    · have := (hF k (by omega)).1
      rw [add_plain, add_plain] at this
      simpa [Nat.add_assoc] using this
theorem array21 {α : Type} {cs : Array α} (h : cs.size = 21) : ∃ c0 c1 c2 c3 c4 c5 c6 c7 c8 c9 c10 c11 c12 c13 c14 c15 c16 c17 c18 c19 c20, cs = #[c0, c1, c2, c3, c4, c5, c6, c7, c8, c9, c10, c11, c12, c13, c14, c15, c16, c17, c18, c19, c20] := by
  obtain ⟨l⟩ := cs
  match l, h with
  | [c0, c1, c2, c3, c4, c5, c6, c7, c8, c9, c10, c11, c12, c13, c14, c15, c16, c17, c18, c19, c20], _ => exact ⟨c0, c1, c2, c3, c4, c5, c6, c7, c8, c9, c10, c11, c12, c13, c14, c15, c16, c17, c18, c19, c20, rfl⟩
theorem cellsOf23 : Tryz.prog.cellsOf 23 = 1 := by kernel_rfl
theorem cellsOf25 : Tryz.prog.cellsOf 25 = 4 := by kernel_rfl
theorem cellsOf26 : Tryz.prog.cellsOf 26 = 1 := by kernel_rfl
theorem cellsOf29 : Tryz.prog.cellsOf 29 = 1 := by kernel_rfl
theorem cellsOf30' : Tryz.prog.cellsOf 30 = 1 := by kernel_rfl
theorem probe_of {n : Nat} {c0 c1 c2 c3 : Value} {x : DataW H × List MemPlace} (h : DataW.trod enc Tryz.prog W base spare held n 25 [c0, c1, c2, c3] = some x) : ∃ (x y z : Int) (e : Bool), c0 = .int .i64 x ∧ c1 = .int .i64 y ∧ c2 = .int .i64 z ∧ c3 = .bool e := by
  obtain ⟨u0, u1, u2, u3, m, _, _, k0, k1, k2, k3⟩ := trod_struct4 Tryz.underlying25 h
  dsimp only at k0 k1 k2 k3
  rw [cellsOf3] at k0 k1 k2
  rw [cellsOf4] at k3
  simp only [List.drop, List.take] at k0 k1 k2 k3
  obtain ⟨z6, rfl⟩ := int_of k0 rfl
  obtain ⟨z7, rfl⟩ := int_of k1 rfl
  obtain ⟨z8, rfl⟩ := int_of k2 rfl
  obtain ⟨z9, rfl⟩ := bool_of k3 rfl
  exact ⟨z6, z7, z8, z9, rfl, rfl, rfl, rfl⟩
/-- a node's value that came in -/
def NdVal (W : World) (v : Value) : Prop := ∃ (me : Int) (up gone gate : Bool) (inc now sq turn : Int) (ta : Option Addr) (tl tc : Nat) (ca : Option Addr) (cl cc : Nat) (pn ps pq : Int) (pa : Bool) (da : Option Addr) (dl dc : Nat) (cx cy ch ce : Int) (pla : Option Addr) (pll plc : Nat) (oa : Option Addr) (ol oc : Nat) (F : Nat → Fc) (GI : Nat → It) (GD : Nat → Dt) (GP : Nat → Pl) (GO : Nat → Fg), v = .agg #[.int .i64 me, .bool up, .bool gone, .bool gate, .int .i64 inc, .int .i64 now, .int .i64 sq, .int .i64 turn, .slice ta tl tc, .slice ca cl cc, .int .i64 pn, .int .i64 ps, .int .i64 pq, .bool pa, .slice da dl dc, .int .i64 cx, .int .i64 cy, .int .i64 ch, .int .i64 ce, .slice pla pll plc, .slice oa ol oc] ∧ NdRaw W ta tl tc F ca cl cc GI da dl GD pla pll GP oa ol GO
set_option maxRecDepth 20000 in
set_option maxHeartbeats 1000000 in
theorem open_node {r : Reach} {b0 : Nat} {v : Value} {d : DataW H} {p : List MemPlace} (hv : Value.okWide Tryz.prog W r b0 32 v) (h : DataW.Trod enc Tryz.prog W base spare held 32 v d p) : NdVal W v := by
  obtain ⟨cs, rfl, hsz⟩ := okWide_struct Tryz.underlying32 hv
  obtain ⟨c0, c1, c2, c3, c4, c5, c6, c7, c8, c9, c10, c11, c12, c13, c14, c15, c16, c17, c18, c19, c20, rfl⟩ := array21 (hsz.trans (by kernel_rfl))
  obtain ⟨fuel, hf⟩ := h
  obtain ⟨xs, n, _, _, _, hlen, hfs⟩ := DataW.trod_struct Tryz.underlying32 hf
  simp only [Value.cells] at hfs
  have hsome : ∀ i, i < 15 → (xs[i]?).isSome = true := fun i hi => by
    have : i < xs.length := by rw [hlen]; exact hi
    simp [this]
  have g0 := hfs 0 ⟨"Me", 3, 0, false, "", "", 0⟩ rfl
  have g1 := hfs 1 ⟨"Up", 4, 1, false, "", "", 8⟩ rfl
  have g2 := hfs 2 ⟨"Gone", 4, 2, false, "", "", 9⟩ rfl
  have g3 := hfs 3 ⟨"Gate", 4, 3, false, "", "", 10⟩ rfl
  have g4 := hfs 4 ⟨"Inc", 3, 4, false, "", "", 16⟩ rfl
  have g5 := hfs 5 ⟨"Now", 3, 5, false, "", "", 24⟩ rfl
  have g6 := hfs 6 ⟨"Seq", 3, 6, false, "", "", 32⟩ rfl
  have g7 := hfs 7 ⟨"Turn", 3, 7, false, "", "", 40⟩ rfl
  have g8 := hfs 8 ⟨"Table", 22, 8, false, "", "", 48⟩ rfl
  have g9 := hfs 9 ⟨"Cast", 23, 9, false, "", "", 72⟩ rfl
  have g10 := hfs 10 ⟨"Probe", 25, 10, false, "", "", 96⟩ rfl
  have g11 := hfs 11 ⟨"Doubts", 26, 14, false, "", "", 128⟩ rfl
  have g12 := hfs 12 ⟨"Coord", 28, 15, false, "", "", 152⟩ rfl
  have g13 := hfs 13 ⟨"Places", 29, 19, false, "", "", 184⟩ rfl
  have g14 := hfs 14 ⟨"Others", 30, 20, false, "", "", 208⟩ rfl
  dsimp only at g0 g1 g2 g3 g4 g5 g6 g7 g8 g9 g10 g11 g12 g13 g14
  rw [cellsOf3] at g0 g4 g5 g6 g7
  rw [cellsOf4] at g1 g2 g3
  rw [cellsOf22] at g8
  rw [cellsOf23] at g9
  rw [cellsOf25] at g10
  rw [cellsOf26] at g11
  rw [cellsOf48] at g12
  rw [cellsOf29] at g13
  rw [cellsOf30'] at g14
  simp only [List.drop, List.take] at g0 g1 g2 g3 g4 g5 g6 g7 g8 g9 g10 g11 g12 g13 g14
  obtain ⟨z0, rfl⟩ := int_of g0 (hsome 0 (by omega))
  obtain ⟨z1, rfl⟩ := bool_of g1 (hsome 1 (by omega))
  obtain ⟨z2, rfl⟩ := bool_of g2 (hsome 2 (by omega))
  obtain ⟨z3, rfl⟩ := bool_of g3 (hsome 3 (by omega))
  obtain ⟨z4, rfl⟩ := int_of g4 (hsome 4 (by omega))
  obtain ⟨z5, rfl⟩ := int_of g5 (hsome 5 (by omega))
  obtain ⟨z6, rfl⟩ := int_of g6 (hsome 6 (by omega))
  obtain ⟨z7, rfl⟩ := int_of g7 (hsome 7 (by omega))
  obtain ⟨y8, e8⟩ := Option.isSome_iff_exists.1 (hsome 8 (by omega))
  rw [e8] at g8
  obtain ⟨y9, e9⟩ := Option.isSome_iff_exists.1 (hsome 9 (by omega))
  rw [e9] at g9
  obtain ⟨y10, e10⟩ := Option.isSome_iff_exists.1 (hsome 10 (by omega))
  rw [e10] at g10
  obtain ⟨y11, e11⟩ := Option.isSome_iff_exists.1 (hsome 11 (by omega))
  rw [e11] at g11
  obtain ⟨y12, e12⟩ := Option.isSome_iff_exists.1 (hsome 12 (by omega))
  rw [e12] at g12
  obtain ⟨y13, e13⟩ := Option.isSome_iff_exists.1 (hsome 13 (by omega))
  rw [e13] at g13
  obtain ⟨y14, e14⟩ := Option.isSome_iff_exists.1 (hsome 14 (by omega))
  rw [e14] at g14
  obtain ⟨p0, p1, p2, p3, rfl, rfl, rfl, rfl⟩ := probe_of g10
  obtain ⟨q0, q1, q2, q3, rfl, rfl, rfl, rfl⟩ := coord_of g12
  obtain ⟨ta, tl, tc, rfl⟩ := slice_of Tryz.underlying22 g8
  obtain ⟨ca, cl, cc, rfl⟩ := slice_of Tryz.underlying23 g9
  obtain ⟨da, dl, dc, rfl⟩ := slice_of Tryz.underlying26 g11
  obtain ⟨pla, pll, plc, rfl⟩ := slice_of Tryz.underlying29 g13
  obtain ⟨oa, ol, oc, rfl⟩ := slice_of Tryz.underlying30 g14
  obtain ⟨F, f1, f2, f3⟩ := open_facts22 g8
  obtain ⟨GI, i1, i2, i3⟩ := open_items 23 130 Tryz.underlying23 Tryz.underlying130 (by kernel_rfl) rfl (by kernel_rfl) rfl (by kernel_rfl) Tryz.underlying3 Tryz.underlying125 (by kernel_rfl) Tryz.underlying3 Tryz.underlying3 Tryz.underlying3 Tryz.underlying4 g9
  obtain ⟨GD, d1, d2, d3, d4⟩ := open_doubts g11
  obtain ⟨GP, r1, r2, r3, r4⟩ := open_places g13
  obtain ⟨GO, s1, s2, s3, s4⟩ := open_foreigns g14
  exact ⟨z0, z1, z2, z3, z4, z5, z6, z7, ta, tl, tc, ca, cl, cc, p0, p1, p2, p3, da, dl, dc, q0, q1, q2, q3, pla, pll, plc, oa, ol, oc, F, GI, GD, GP, GO, rfl, ⟨f3, i3, d3, r3, s3, d4, r4, s4, f2, i2, d2, r2, s2, f1, i1⟩⟩
end
end Go.Proofs.YtgcdcfjaeehnbaaGreat
/- Nodes: at every node NodeNear answers as its model does, and its answer is its own. -/
namespace Go.Proofs.YtgcdcfjaeehnbaaGreat
open Go.ChangeShapes Go.WideShapes Go.ChangeAt Go.RowKit
attribute [local go_sem ↓] Go.wp_at_zero Go.wp_at_succ
def s6_5 : List Stp := [⟨some 18, .load 32 (.tmp 2), 32, none, 0⟩, ⟨some 19, .call { callee := .value (.func 8), args := #[.tmp 18], argTypes := #[32] }, 42, none, 1⟩, ⟨some 20, .move (.tmp 1), 3, none, 0⟩, ⟨some 21, .call { callee := .value (.func 18), args := #[.tmp 19, .tmp 20], argTypes := #[42, 3] }, 54, none, 1⟩, ⟨some 6, .assign (.tmp 21), 54, none, 0⟩]
def t6_5 : List (Nat × Nat) := [(0, 0), (1, 1), (2, 0), (3, 1), (4, 0)]
def s6_7 : List Stp := [⟨some 24, .load 42 (.tmp 7), 42, none, 0⟩, ⟨some 25, .move (.tmp 1), 3, none, 0⟩, ⟨some 26, .call { callee := .value (.func 19), args := #[.tmp 24, .tmp 25], argTypes := #[42, 3] }, 54, none, 1⟩, ⟨some 8, .assign (.tmp 26), 54, none, 0⟩]
def t6_7 : List (Nat × Nat) := [(0, 0), (1, 0), (2, 1), (3, 0)]
def s6_10 : List Stp := [⟨some 31, .load 42 (.tmp 7), 42, none, 0⟩, ⟨some 32, .load 32 (.tmp 2), 32, none, 0⟩, ⟨some 33, .call { callee := .value (.func 8), args := #[.tmp 32], argTypes := #[32] }, 42, none, 1⟩, ⟨some 34, .call { callee := .value (.func 10), args := #[.tmp 31, .tmp 33], argTypes := #[42, 42] }, 4, none, 1⟩, ⟨some 35, .unOp .not 4 (.tmp 34), 4, none, 0⟩]
def t6_10 : List (Nat × Nat) := [(0, 0), (1, 0), (2, 1), (3, 1), (4, 0)]
def s6_24 : List Stp := [⟨some 58, .load 32 (.tmp 2), 32, none, 0⟩, ⟨some 59, .call { callee := .value (.func 8), args := #[.tmp 58], argTypes := #[32] }, 42, none, 1⟩, ⟨some 60, .move (.tmp 1), 3, none, 0⟩, ⟨some 61, .call { callee := .value (.func 19), args := #[.tmp 59, .tmp 60], argTypes := #[42, 3] }, 54, none, 1⟩, ⟨some 12, .assign (.tmp 61), 54, none, 0⟩]
def t6_24 : List (Nat × Nat) := [(0, 0), (1, 1), (2, 0), (3, 1), (4, 0)]
theorem nea_congr {G G' : Nat → Pl} (h : ∀ j, PlEq (G j) (G' j)) (q up : Bool) (most cx cy ch ce : Int) (tl : Nat) (F : Nat → Fc) (pll : Nat) : neaL q up most cx cy ch ce tl F pll G = neaL q up most cx cy ch ce tl F pll G' := by
  have e1 : far cx cy ch ce G = far cx cy ch ce G' := funext fun j => by
    obtain ⟨_, h1, h2, h3, h4, _⟩ := h j
    unfold far pd
    rw [h1, h2, h3, h4]
  have e2 : alv tl F G = alv tl F G' := funext fun j => by unfold alv; rw [(h j).1]
  have e3 : (fun j => (G j).n) = fun j => (G' j).n := funext fun j => (h j).1
  unfold neaL nrL
  rw [e1, e2, e3]
theorem nea_le {q up : Bool} {most cx cy ch ce : Int} {tl : Nat} {F : Nat → Fc} {pll : Nat} {GP : Nat → Pl} (h : q = true → up = true → pll ≤ 3) : (neaL q up most cx cy ch ce tl F pll GP).length ≤ 1048576 := by
  unfold neaL
  cases q <;> cases up <;> first | exact Nat.zero_le _ | exact Nat.le_trans (nrL_le _ _ _ _ _ _ _ _ _ (h rfl rfl)) (by omega)
theorem markInts_own (base n cap : Nat) (a : Option Addr) (xs : List Value) (k0 : Nat) (w : World) (h : w.ownsRow base 3 1 (.slice a n cap) n xs) (hl : n ≤ 1048576) (hk0 : k0 ≤ 1048576) :
    Calls Tryz.prog 21 #[.slice a n cap, .int .i64 (k0 : Int)] w fun e w' => e = .returned (.int .i64 ((k0 + n : Nat) : Int)) ∧ w'.ownsRow base 3 1 (.slice a n cap) n (mk k0 n) ∧ w.grownBy w' (Value.slice a n cap).ownBlock := by
  rcases own_shape h with ⟨e, rfl⟩ | ⟨g, c, e, _⟩
  · simp only [Value.slice.injEq, true_and] at e
    obtain ⟨rfl, rfl⟩ := e
    exact (markInts_nil k0 w).mono (by rintro r w' ⟨rfl, rfl⟩; exact ⟨rfl, by simpa [mk] using World.ownsRow_nil w' base 3 1, World.grownBy.refl _ _⟩)
  · simp only [Value.slice.injEq, true_and] at e
    obtain ⟨rfl, rfl⟩ := e
    exact markInts_any base g n cap xs k0 w h hl hk0
theorem ne_two {w w' : World} {base size n : Nat} {e : TypeId} {v : Value} {xs : List Value} {base' size' n' : Nat} {e' : TypeId} {v' : Value} {xs' : List Value} (h : w.ownsRow base e size v n xs) (h' : w'.ownsRow base' e' size' v' n' xs') (hb : w.heap.size ≤ base') : v.ownBlock = none ∨ v.ownBlock ≠ v'.ownBlock := by
  cases hv : v.ownBlock with
  | none => exact .inl rfl
  | some k => exact .inr fun e => by have := (h.lt k hv).2; have := (h'.lt k e.symm).1; omega
theorem own_mrk {w w' : World} {lo hi base size n : Nat} {e : TypeId} {v : Value} {xs : List Value} (h : w.ownsRow base e size v n xs) (k : Mrk lo hi w w') (q : ∀ x, v.ownBlock = some x → x < lo ∨ hi ≤ x) : w'.ownsRow base e size v n xs := by
  have h0 := h
  refine ⟨h.1, h.2.imp id ?_⟩
  rintro ⟨g, cap, cur, rfl, hg, r⟩
  have hb : (Value.slice (some ⟨g, 0, none⟩) n cap).ownBlock = some g := rfl
  exact ⟨g, cap, cur, rfl, hg, (k.block g (h0.lt g hb).2 (q g hb)).trans r.1, r.2⟩
theorem range_lt {w : World} {b : Nat} {v : Value} {xs : List Value} (h : w.rangeAt b 0 (v :: xs)) : b < w.heap.size := by
  have hc := h 0 v rfl
  unfold World.cell? at hc
  rcases Nat.lt_or_ge b w.heap.size with q | q
  · exact q
  · exfalso
    simp [Array.getElem?_eq_none q] at hc
theorem Mrk.range {lo hi : Nat} {w w' : World} {b o : Nat} {xs : List Value} (k : Mrk lo hi w w') (h : w.rangeAt b o xs) (q : b < lo ∨ hi ≤ b) : w'.rangeAt b o xs := fun j x hx => k.cell (h j x hx) q
theorem range_grow {w w' : World} {b : Nat} {v : Value} {xs : List Value} {r : Option Nat} (h : w.rangeAt b 0 (v :: xs)) (g : w.grownBy w' r) (hr : ∀ k, r = some k → k ≠ b) : w'.rangeAt b 0 (v :: xs) := fun j x hx =>
  (World.cell?_of_block (a := ⟨b, 0 + j, none⟩) (g.block b (range_lt h) (fun e => hr b e.symm rfl))).trans (h j x hx)
set_option maxRecDepth 20000 in
set_option maxHeartbeats 8000000 in
set_option linter.unusedSimpArgs false in
theorem exNodeNear_walk (me : Int) (up gone gate : Bool) (inc now sq turn : Int) (ta : Option Addr) (tl tc : Nat) (ca : Option Addr) (cl cc : Nat) (pn ps pq : Int) (pa : Bool) (da : Option Addr) (dl dc : Nat) (cx cy ch ce : Int) (pla : Option Addr) (pll plc : Nat) (oa : Option Addr) (ol oc : Nat) (F : Nat → Fc) (GI : Nat → It) (GD : Nat → Dt) (GP : Nat → Pl) (GO : Nat → Fg) (site : Int) (w : World) (h : NdRaw w ta tl tc F ca cl cc GI da dl GD pla pll GP oa ol GO) :
    Calls Tryz.prog 5 #[.agg #[.int .i64 me, .bool up, .bool gone, .bool gate, .int .i64 inc, .int .i64 now, .int .i64 sq, .int .i64 turn, .slice ta tl tc, .slice ca cl cc, .int .i64 pn, .int .i64 ps, .int .i64 pq, .bool pa, .slice da dl dc, .int .i64 cx, .int .i64 cy, .int .i64 ch, .int .i64 ce, .slice pla pll plc, .slice oa ol oc], .int .i64 site] w fun r w' => r = .returned (.bool true) ∧ Below w.heap.size w w' := by
  have b0 := balloc (.cells #[.int .i64 me, .bool up, .bool gone, .bool gate, .int .i64 inc, .int .i64 now, .int .i64 sq, .int .i64 turn, .slice ta tl tc, .slice ca cl cc, .int .i64 pn, .int .i64 ps, .int .i64 pq, .bool pa, .slice da dl dc, .int .i64 cx, .int .i64 cy, .int .i64 ch, .int .i64 ce, .slice pla pll plc, .slice oa ol oc] 32) (Below.refl w.heap.size w)
  have X0 := Ws.box (w := w) #[.int .i64 me, .bool up, .bool gone, .bool gate, .int .i64 inc, .int .i64 now, .int .i64 sq, .int .i64 turn, .slice ta tl tc, .slice ca cl cc, .int .i64 pn, .int .i64 ps, .int .i64 pq, .bool pa, .slice da dl dc, .int .i64 cx, .int .i64 cy, .int .i64 ch, .int .i64 ce, .slice pla pll plc, .slice oa ol oc] 32
  go_enter Tryz.func5, Tryz.ntmps5
  go_upto_region 1 with fail
  generalize w.alloc (.cells #[.int .i64 me, .bool up, .bool gone, .bool gate, .int .i64 inc, .int .i64 now, .int .i64 sq, .int .i64 turn, .slice ta tl tc, .slice ca cl cc, .int .i64 pn, .int .i64 ps, .int .i64 pq, .bool pa, .slice da dl dc, .int .i64 cx, .int .i64 cy, .int .i64 ch, .int .i64 ce, .slice pla pll plc, .slice oa ol oc] 32) = u at *
  have h0 := h.below b0
  have x0 : u.rangeAt w.heap.size 0 [.int .i64 me, .bool up, .bool gone, .bool gate, .int .i64 inc, .int .i64 now, .int .i64 sq, .int .i64 turn, .slice ta tl tc, .slice ca cl cc, .int .i64 pn, .int .i64 ps, .int .i64 pq, .bool pa, .slice da dl dc, .int .i64 cx, .int .i64 cy, .int .i64 ch, .int .i64 ce, .slice pla pll plc, .slice oa ol oc] := X0.range
  clear X0
  obtain ⟨L, hL⟩ : ∃ L, Hid (neaL (nodB me up gone gate inc now sq turn tl F cl GI pn ps pq pa dl GD cx cy ch ce pll GP ol GO) up site cx cy ch ce tl F pll GP = L) := ⟨_, rfl⟩
  go_wp2_with (refine load32L (by rfl) (.tmp 2) rfl w.heap.size rfl [.int .i64 me, .bool up, .bool gone, .bool gate, .int .i64 inc, .int .i64 now, .int .i64 sq, .int .i64 turn, .slice ta tl tc, .slice ca cl cc, .int .i64 pn, .int .i64 ps, .int .i64 pq, .bool pa, .slice da dl dc, .int .i64 cx, .int .i64 cy, .int .i64 ch, .int .i64 ce, .slice pla pll plc, .slice oa ol oc] x0 rfl ?_)
  refine (szNode_any me up gone gate inc now sq turn ta tl tc ca cl cc pn ps pq pa da dl dc cx cy ch ce pla pll plc oa ol oc F GI GD GP GO _ h0).mono ?_
  rintro r w1 ⟨⟨z, rfl, hz⟩, k1⟩
  have b1 := btrans b0 k1
  have x1 := range_keep x0 k1
  have h1 := h0.below k1
  clear b0 x0 h0 k1
  rcases hz with hz | ⟨hz, hm⟩
  · have hz' := hz
    subst hz'
    clear x1 h1
    go_wp2
    go_ret
    exact ⟨rfl, b1⟩
  obtain ⟨hz0, hz1⟩ := hz
  have hz2 : ¬ z < 0 := by omega
  have hgl : L.length ≤ 1048576 := by rw [← hL.out]; exact nea_le (fun a b => nod_three _ _ _ _ _ _ _ _ _ _ _ _ _ _ _ _ _ _ _ _ _ _ _ _ _ _ a b)
  clear hz0 hz1
  go_upto_region 5 with fail
  clear hz2
  refine wp_region_q0 s6_5 t6_5 (fun hbq => ?_)
  refine qR ?_
  refine qC (fun K hK => ?_)
  go_simp
  refine (toNode_any me up gone gate inc now sq turn ta tl tc ca cl cc pn ps pq pa da dl dc cx cy ch ce pla pll plc oa ol oc F GI GD GP GO _ ((h1.below hbq).toIn hm) (h1.below hbq).cf (h1.below hbq).ci (fun j hj => ((h1.below hbq).db j hj).2.2) (fun j hj => ((h1.below hbq).pb j hj).2.2) (fun j hj => ((h1.below hbq).ob j hj).2.2)).mono ?_; rintro r w2 ⟨s1, s2, s3, s4, s5, sD, sP, sO, rfl, sN, sd, sp, so, k2⟩
  go_wp2_with fail
  refine hK.out _ _ (btrans hbq k2) (.inl ?_)
  clear hK K
  replace hbq := btrans hbq k2
  clear k2
  try simp only [putQ]
  refine qY ?_
  refine qC (fun K hK => ?_)
  go_simp
  refine (near18_any me up gone gate inc now sq turn (some ⟨s1, 0, none⟩) tl tl (some ⟨s2, 0, none⟩) cl cl pn ps pq pa (some ⟨s3, 0, none⟩) dl dl cx cy ch ce (some ⟨s4, 0, none⟩) pll pll (some ⟨s5, 0, none⟩) ol ol F GI sD sP sO site _ sN).mono ?_; rintro r w3 ⟨hga, k3⟩; rw [← nod_same, nod_congr _ _ _ _ _ _ _ _ _ _ _ _ _ _ _ _ _ GD _ _ _ _ _ GP _ GO sD sP sO sd sp so, nea_congr sp, hL.out] at hga; obtain ⟨v0, rfl, o0⟩ := hga
  go_wp2_with fail
  refine hK.out _ _ (btrans hbq k3) (.inl ?_)
  clear hK K
  replace hbq := btrans hbq k3
  clear k3
  try simp only [putQ]
  refine qY ?_
  refine qE ?_
  have b2 := btrans b1 hbq
  have x2 := range_keep x1 hbq
  have h2 := h1.below hbq
  clear b1 x1 h1 hbq sN sd sp so
  obtain ⟨a0, c0, rfl, _, _⟩ := own_list o0
  go_wp2_with (refine load32L (by rfl) (.tmp 2) rfl w.heap.size rfl [.int .i64 me, .bool up, .bool gone, .bool gate, .int .i64 inc, .int .i64 now, .int .i64 sq, .int .i64 turn, .slice ta tl tc, .slice ca cl cc, .int .i64 pn, .int .i64 ps, .int .i64 pq, .bool pa, .slice da dl dc, .int .i64 cx, .int .i64 cy, .int .i64 ch, .int .i64 ce, .slice pla pll plc, .slice oa ol oc] x2 rfl ?_)
  refine (toNodeM_any me up gone gate inc now sq turn ta tl tc ca cl cc pn ps pq pa da dl dc cx cy ch ce pla pll plc oa ol oc F GI GD GP GO _ (h2.toIn hm) h2.cf h2.ci (fun j hj => (h2.db j hj).2.2) (fun j hj => (h2.pb j hj).2.2) (fun j hj => (h2.ob j hj).2.2)).mono ?_
  rintro r w4 ⟨f1, f2, f3, f4, f5, fD, fP, fO, rfl, fN, fd, fp, fo, k4⟩
  have lo0 := (o0.lt · ·)
  have hlo : ∀ x, (Value.slice a0 L.length c0).ownBlock = some x → x < w3.heap.size := fun x e => (o0.lt x e).2
  clear lo0
  obtain ⟨lo, hlo2⟩ : ∃ lo, Hid (w3.heap.size = lo) := ⟨_, rfl⟩
  rw [hlo2.out] at hlo fN
  have hbl : w.heap.size ≤ lo := by rw [← hlo2.out]; exact b2.size
  have f5h := fN.o.lt
  have fOh := fN.oO.lt
  obtain ⟨hi, hhi⟩ : ∃ hi, Hid (w4.heap.size = hi) := ⟨_, rfl⟩
  rw [hhi.out] at f5h fOh
  have R := Ws.box (w := w4) #[.int .i64 0, .bool false, .bool false, .bool false, .int .i64 0, .int .i64 0, .int .i64 0, .int .i64 0, .slice none 0 0, .slice none 0 0, .int .i64 0, .int .i64 0, .int .i64 0, .bool false, .slice none 0 0, .int .i64 0, .int .i64 0, .int .i64 0, .int .i64 0, .slice none 0 0, .slice none 0 0] 42
  have hth : (w4.alloc (.cells #[.int .i64 0, .bool false, .bool false, .bool false, .int .i64 0, .int .i64 0, .int .i64 0, .int .i64 0, .slice none 0 0, .slice none 0 0, .int .i64 0, .int .i64 0, .int .i64 0, .bool false, .slice none 0 0, .int .i64 0, .int .i64 0, .int .i64 0, .int .i64 0, .slice none 0 0, .slice none 0 0] 42)).there w4.heap.size 0 21 := R.there rfl
  have kk := below_cells (w := w4) w4.heap.size (#[.int .i64 me, .bool up, .bool gone, .bool gate, .int .i64 inc, .int .i64 now, .int .i64 sq, .int .i64 turn, .slice (some ⟨f1, 0, none⟩) tl tl, .slice (some ⟨f2, 0, none⟩) cl cl, .int .i64 pn, .int .i64 ps, .int .i64 pq, .bool pa, .slice (some ⟨f3, 0, none⟩) dl dl, .int .i64 cx, .int .i64 cy, .int .i64 ch, .int .i64 ce, .slice (some ⟨f4, 0, none⟩) pll pll, .slice (some ⟨f5, 0, none⟩) ol ol] : Array Value).toList 0 (w4.alloc (.cells #[.int .i64 0, .bool false, .bool false, .bool false, .int .i64 0, .int .i64 0, .int .i64 0, .int .i64 0, .slice none 0 0, .slice none 0 0, .int .i64 0, .int .i64 0, .int .i64 0, .bool false, .slice none 0 0, .int .i64 0, .int .i64 0, .int .i64 0, .int .i64 0, .slice none 0 0, .slice none 0 0] 42)) (Nat.le_refl _) (balloc (.cells #[.int .i64 0, .bool false, .bool false, .bool false, .int .i64 0, .int .i64 0, .int .i64 0, .int .i64 0, .slice none 0 0, .slice none 0 0, .int .i64 0, .int .i64 0, .int .i64 0, .bool false, .slice none 0 0, .int .i64 0, .int .i64 0, .int .i64 0, .int .i64 0, .slice none 0 0, .slice none 0 0] 42) (Below.refl w4.heap.size w4))
  have rr := World.rangeAt_setCells_same (w4.alloc (.cells #[.int .i64 0, .bool false, .bool false, .bool false, .int .i64 0, .int .i64 0, .int .i64 0, .int .i64 0, .slice none 0 0, .slice none 0 0, .int .i64 0, .int .i64 0, .int .i64 0, .bool false, .slice none 0 0, .int .i64 0, .int .i64 0, .int .i64 0, .int .i64 0, .slice none 0 0, .slice none 0 0] 42)) w4.heap.size 0 (#[.int .i64 me, .bool up, .bool gone, .bool gate, .int .i64 inc, .int .i64 now, .int .i64 sq, .int .i64 turn, .slice (some ⟨f1, 0, none⟩) tl tl, .slice (some ⟨f2, 0, none⟩) cl cl, .int .i64 pn, .int .i64 ps, .int .i64 pq, .bool pa, .slice (some ⟨f3, 0, none⟩) dl dl, .int .i64 cx, .int .i64 cy, .int .i64 ch, .int .i64 ce, .slice (some ⟨f4, 0, none⟩) pll pll, .slice (some ⟨f5, 0, none⟩) ol ol] : Array Value).toList hth
  have kz := btrans k4 kk
  have b4 := btrans b2 kz
  have x4 := range_keep x2 kz
  have h4 := h2.below kz
  have o04 := own_below o0 kz
  have fM := fN.below kk
  have hhs : hi ≤ ((w4.alloc (.cells #[.int .i64 0, .bool false, .bool false, .bool false, .int .i64 0, .int .i64 0, .int .i64 0, .int .i64 0, .slice none 0 0, .slice none 0 0, .int .i64 0, .int .i64 0, .int .i64 0, .bool false, .slice none 0 0, .int .i64 0, .int .i64 0, .int .i64 0, .int .i64 0, .slice none 0 0, .slice none 0 0] 42)).setCells w4.heap.size 0 (#[.int .i64 me, .bool up, .bool gone, .bool gate, .int .i64 inc, .int .i64 now, .int .i64 sq, .int .i64 turn, .slice (some ⟨f1, 0, none⟩) tl tl, .slice (some ⟨f2, 0, none⟩) cl cl, .int .i64 pn, .int .i64 ps, .int .i64 pq, .bool pa, .slice (some ⟨f3, 0, none⟩) dl dl, .int .i64 cx, .int .i64 cy, .int .i64 ch, .int .i64 ce, .slice (some ⟨f4, 0, none⟩) pll pll, .slice (some ⟨f5, 0, none⟩) ol ol] : Array Value).toList).heap.size := by rw [← hhi.out]; exact kk.size
  have x3 := x2
  have hlo3 := hlo2
  clear b2 x2 h2 k4 kz R fN o0 hlo2
  go_upto_region 7 with (refine wpList_store_mid rfl 42 _ _ rfl w4.heap.size 0 #[.int .i64 me, .bool up, .bool gone, .bool gate, .int .i64 inc, .int .i64 now, .int .i64 sq, .int .i64 turn, .slice (some ⟨f1, 0, none⟩) tl tl, .slice (some ⟨f2, 0, none⟩) cl cl, .int .i64 pn, .int .i64 ps, .int .i64 pq, .bool pa, .slice (some ⟨f3, 0, none⟩) dl dl, .int .i64 cx, .int .i64 cy, .int .i64 ch, .int .i64 ce, .slice (some ⟨f4, 0, none⟩) pll pll, .slice (some ⟨f5, 0, none⟩) ol ol] rfl rfl hth (by kernel_rfl) (by kernel_rfl) ?_)
  clear hth kk
  generalize ((w4.alloc (.cells #[.int .i64 0, .bool false, .bool false, .bool false, .int .i64 0, .int .i64 0, .int .i64 0, .int .i64 0, .slice none 0 0, .slice none 0 0, .int .i64 0, .int .i64 0, .int .i64 0, .bool false, .slice none 0 0, .int .i64 0, .int .i64 0, .int .i64 0, .int .i64 0, .slice none 0 0, .slice none 0 0] 42)).setCells w4.heap.size 0 (#[.int .i64 me, .bool up, .bool gone, .bool gate, .int .i64 inc, .int .i64 now, .int .i64 sq, .int .i64 turn, .slice (some ⟨f1, 0, none⟩) tl tl, .slice (some ⟨f2, 0, none⟩) cl cl, .int .i64 pn, .int .i64 ps, .int .i64 pq, .bool pa, .slice (some ⟨f3, 0, none⟩) dl dl, .int .i64 cx, .int .i64 cy, .int .i64 ch, .int .i64 ce, .slice (some ⟨f4, 0, none⟩) pll pll, .slice (some ⟨f5, 0, none⟩) ol ol] : Array Value).toList) = w5 at *
  generalize w4.heap.size = KX at *
  have rf : w5.rangeAt KX 0 [.int .i64 me, .bool up, .bool gone, .bool gate, .int .i64 inc, .int .i64 now, .int .i64 sq, .int .i64 turn, .slice (some ⟨f1, 0, none⟩) tl tl, .slice (some ⟨f2, 0, none⟩) cl cl, .int .i64 pn, .int .i64 ps, .int .i64 pq, .bool pa, .slice (some ⟨f3, 0, none⟩) dl dl, .int .i64 cx, .int .i64 cy, .int .i64 ch, .int .i64 ce, .slice (some ⟨f4, 0, none⟩) pll pll, .slice (some ⟨f5, 0, none⟩) ol ol] := rr
  have mi := h4.toIn hm
  have fI := fM.toIn fd fp fo (fun j hj => (mi.db j hj).2) (fun j hj => (mi.pb j hj).2) (fun j hj => (mi.ob j hj).2) mi.hf mi.hi mi.hd mi.hp mi.ho
  have hKX : hi ≤ KX := by rw [← hhi.out]; exact Nat.le_refl _
  clear rr hhi
  refine wp_region_q0 s6_7 t6_7 (fun hbq => ?_)
  refine qR ?_
  refine qY ?_
  refine qC (fun K hK => ?_)
  go_simp
  refine (near19_any me up gone gate inc now sq turn (some ⟨f1, 0, none⟩) tl tl (some ⟨f2, 0, none⟩) cl cl pn ps pq pa (some ⟨f3, 0, none⟩) dl dl cx cy ch ce (some ⟨f4, 0, none⟩) pll pll (some ⟨f5, 0, none⟩) ol ol F GI fD fP fO site _ (fI.below hbq) (.inr ⟨f4, 0, rfl⟩)).mono ?_; rintro r w6 ⟨hga, k6⟩; rw [nod_congr _ _ _ _ _ _ _ _ _ _ _ _ _ _ _ _ _ GD _ _ _ _ _ GP _ GO fD fP fO fd fp fo, nea_congr fp, hL.out] at hga; obtain ⟨v1, rfl, o1⟩ := hga
  go_wp2_with fail
  refine hK.out _ _ (btrans hbq k6) (.inl ?_)
  clear hK K
  replace hbq := btrans hbq k6
  clear k6
  try simp only [putQ]
  refine qY ?_
  refine qE ?_
  have b6 := btrans b4 hbq
  have x6 := range_keep x4 hbq
  have h6 := h4.below hbq
  have o06 := own_below o04 hbq
  have fK := fM.below hbq
  have rf6 := range_keep rf hbq
  have hs6 := Nat.le_trans hhs hbq.size
  clear b4 x4 h4 o04 fM rf fI hbq mi
  obtain ⟨a1, c1, rfl, _, i1⟩ := own_list o1
  have hh1 : ∀ x, (Value.slice a1 L.length c1).ownBlock = some x → hi ≤ x := fun x e => Nat.le_trans hhs (o1.lt x e).1
  have h1s : ∀ x, (Value.slice a1 L.length c1).ownBlock = some x → w.heap.size ≤ x := fun x e => by
    have := hh1 x e
    have := fK.lo1
    have := fK.o12
    have := fK.o23
    have := fK.o34
    have := fK.o45
    omega
  have hlh : lo < hi := by
    have := fK.lo1
    have := fK.o12
    have := fK.o23
    have := fK.o34
    have := fK.o45
    omega
  have q01 : (Value.slice a0 L.length c0).ownBlock = none ∨ (Value.slice a0 L.length c0).ownBlock ≠ (Value.slice a1 L.length c1).ownBlock := by
    cases hv : (Value.slice a0 L.length c0).ownBlock with
    | none => exact .inl rfl
    | some k => exact .inr fun e => by have := hlo k hv; have := hh1 k e.symm; omega
  have hbl2 : w.heap.size < lo := by rw [← hlo3.out]; exact range_lt x3
  clear x3 hlo3
  go_wp2_with fail
  obtain ⟨a0', c0', e0, _, i0⟩ := own_list o06
  simp only [Value.slice.injEq, true_and] at e0
  obtain ⟨rfl, rfl⟩ := e0
  refine (eqInts_same _ _ _ _ _ _ _ i1 i0 hgl).mono ?_
  rintro r w7 ⟨rfl, k7⟩
  have b7 := btrans b6 k7
  have x7 := range_keep x6 k7
  have o07 := own_below o06 k7
  have o17 := own_below o1 k7
  have fJ := fK.below k7
  have rf7 := range_keep rf6 k7
  have hs7 := Nat.le_trans hs6 k7.size
  clear b6 x6 h6 o06 fK rf6 i0 i1 k7 hs6 o1
  go_upto_region 10 with fail
  have mi := (h.below b7).toIn hm
  have fI := fJ.toIn fd fp fo (fun j hj => (mi.db j hj).2) (fun j hj => (mi.pb j hj).2) (fun j hj => (mi.ob j hj).2) mi.hf mi.hi mi.hd mi.hp mi.ho
  clear mi
  refine wp_region_q s6_10 t6_10 (fun hbq => ?_)
  iterate 2 refine qR ?_
  refine qC (fun K hK => ?_)
  go_simp
  refine (toNode_any me up gone gate inc now sq turn ta tl tc ca cl cc pn ps pq pa da dl dc cx cy ch ce pla pll plc oa ol oc F GI GD GP GO _ ((h.below (btrans b7 hbq)).toIn hm) (h.below (btrans b7 hbq)).cf (h.below (btrans b7 hbq)).ci (fun j hj => ((h.below (btrans b7 hbq)).db j hj).2.2) (fun j hj => ((h.below (btrans b7 hbq)).pb j hj).2.2) (fun j hj => ((h.below (btrans b7 hbq)).ob j hj).2.2)).mono ?_; rintro r w8 ⟨g1, g2, g3, g4, g5, gD, gP, gO, rfl, gN, gd, gp, go, k8⟩
  have hED : ∀ j, DtEq (fD j) (gD j) := fun j => (fd j).symm' (gd j)
  have hEP : ∀ j, PlEq (fP j) (gP j) := fun j => (fp j).symm' (gp j)
  have hEO : ∀ j, FgEq (fO j) (gO j) := fun j => (fo j).symm' (go j)
  go_wp2_with fail
  refine hK.out _ _ (btrans hbq k8) (.inl ?_)
  clear hK K
  replace hbq := btrans hbq k8
  clear k8
  try simp only [putQ]
  refine qC (fun K hK => ?_)
  go_simp
  refine (eqNode_same me up gone gate inc now sq turn (some ⟨f1, 0, none⟩) tl tl (some ⟨f2, 0, none⟩) cl cl pn ps pq pa (some ⟨f3, 0, none⟩) dl dl cx cy ch ce (some ⟨f4, 0, none⟩) pll pll (some ⟨f5, 0, none⟩) ol ol (some ⟨g1, 0, none⟩) tl (some ⟨g2, 0, none⟩) cl (some ⟨g3, 0, none⟩) dl (some ⟨g4, 0, none⟩) pll (some ⟨g5, 0, none⟩) ol F GI fD fP fO gD gP gO _ (fI.below hbq) gN hED hEP hEO).mono ?_; rintro r w9 ⟨rfl, k9⟩
  go_wp2_with fail
  refine hK.out _ _ (btrans hbq k9) (.inl ?_)
  clear hK K
  replace hbq := btrans hbq k9
  clear k9
  try simp only [putQ]
  refine qY ?_
  refine qE ?_
  have b8 := btrans b7 hbq
  have x8 := range_keep x7 hbq
  have o08 := own_below o07 hbq
  have o18 := own_below o17 hbq
  have fL := fJ.below hbq
  have fI8 := fI.below hbq
  have rf8 := range_keep rf7 hbq
  have hs8 := Nat.le_trans hs7 hbq.size
  clear b7 x7 o07 o17 fJ fI rf7 hs7 hbq gN hED hEP hEO gd gp go
  go_wp2_with (refine load43L (by rfl) (.tmp 7) rfl KX rfl [.int .i64 me, .bool up, .bool gone, .bool gate, .int .i64 inc, .int .i64 now, .int .i64 sq, .int .i64 turn, .slice (some ⟨f1, 0, none⟩) tl tl, .slice (some ⟨f2, 0, none⟩) cl cl, .int .i64 pn, .int .i64 ps, .int .i64 pq, .bool pa, .slice (some ⟨f3, 0, none⟩) dl dl, .int .i64 cx, .int .i64 cy, .int .i64 ch, .int .i64 ce, .slice (some ⟨f4, 0, none⟩) pll pll, .slice (some ⟨f5, 0, none⟩) ol ol] rf8 rfl ?_)
  refine (markNode_any me up gone gate inc now sq turn pn ps pq pa cx cy ch ce tl F cl GI dl fD pll fP ol fO lo hi f1 f2 f3 f4 f5 _ fL f5h fOh hs8 fI8.hf fI8.hi fI8.hd fI8.hp fI8.ho (fun j hj => (fI8.db j hj).2) (fun j hj => (fI8.pb j hj).2) (fun j hj => (fI8.ob j hj).2)).mono ?_
  rintro r w10 ⟨⟨kz, rfl⟩, M10⟩
  have b10 := M10.below b8 hbl
  have x10 := M10.range x8 (.inl hbl2)
  have o010 := own_mrk o08 M10 (fun x e => .inl (hlo x e))
  have o110 := own_mrk o18 M10 (fun x e => .inr (hh1 x e))
  have hkz : ¬ ((kz : Int) < 0) := by omega
  clear b8 x8 o08 o18 fL fI8 rf8 hs8 M10 f5h fOh fd fp fo
  go_wp2_with fail
  obtain ⟨a0', c0', e0, _, i0⟩ := own_list o010
  simp only [Value.slice.injEq, true_and] at e0
  obtain ⟨rfl, rfl⟩ := e0
  obtain ⟨a1', c1', e0, _, i1⟩ := own_list o110
  simp only [Value.slice.injEq, true_and] at e0
  obtain ⟨rfl, rfl⟩ := e0
  refine (eqInts_same _ _ _ _ _ _ _ i1 i0 hgl).mono ?_
  rintro r w11 ⟨rfl, k11⟩
  have b11 := btrans b10 k11
  have x11 := range_keep x10 k11
  have o011 := own_below o010 k11
  have o111 := own_below o110 k11
  clear b10 x10 o010 o110 i0 i1 k11 hkz
  go_wp2_with fail
  refine (markInts_own _ _ _ _ _ 1 _ o111 hgl (by omega)).mono ?_
  rintro r w12 ⟨rfl, om, g12⟩
  have b12 := b11.grown g12 b11.size (fun k hk => h1s k hk)
  have x12 := range_grow x11 g12 (fun k hk e => by have := hh1 k hk; omega)
  have o012 := o011.kept g12 q01
  clear b11 x11 o011 o111 g12
  obtain ⟨K, hK⟩ : ∃ K : Nat, Hid (1 + L.length = K) := ⟨_, rfl⟩
  rw [hK.out]
  go_wp2_with fail
  obtain ⟨a1', c1', e1, _, i1⟩ := own_ints (f := fun j => ((1 + j : Nat) : Int)) om
  simp only [Value.slice.injEq, true_and] at e1
  obtain ⟨rfl, rfl⟩ := e1
  refine (heldInts_any _ _ _ 1 _ i1 hgl (by omega)).mono ?_
  rintro r w13 ⟨rfl, hw⟩
  obtain rfl := hw.symm
  clear hw i1
  rw [hK.out]
  have kk0 : ¬ ((K : Int) < 0) := by omega
  have kk1 : ¬ ((K : Int) ≠ (K : Int)) := by simp
  go_upto_region 24 with fail
  refine wp_region_q0 s6_24 t6_24 (fun hbq => ?_)
  refine qR ?_
  refine qC (fun K hK => ?_)
  go_simp
  refine (toNode_any me up gone gate inc now sq turn ta tl tc ca cl cc pn ps pq pa da dl dc cx cy ch ce pla pll plc oa ol oc F GI GD GP GO _ ((h.below (btrans b12 hbq)).toIn hm) (h.below (btrans b12 hbq)).cf (h.below (btrans b12 hbq)).ci (fun j hj => ((h.below (btrans b12 hbq)).db j hj).2.2) (fun j hj => ((h.below (btrans b12 hbq)).pb j hj).2.2) (fun j hj => ((h.below (btrans b12 hbq)).ob j hj).2.2)).mono ?_; rintro r w14 ⟨t1, t2, t3, t4, t5, tD, tP, tO, rfl, tN, td, tp, to_, k14⟩
  go_wp2_with fail
  refine hK.out _ _ (btrans hbq k14) (.inl ?_)
  clear hK K
  replace hbq := btrans hbq k14
  clear k14
  try simp only [putQ]
  refine qY ?_
  refine qC (fun K hK => ?_)
  go_simp
  refine (near19_any me up gone gate inc now sq turn (some ⟨t1, 0, none⟩) tl tl (some ⟨t2, 0, none⟩) cl cl pn ps pq pa (some ⟨t3, 0, none⟩) dl dl cx cy ch ce (some ⟨t4, 0, none⟩) pll pll (some ⟨t5, 0, none⟩) ol ol F GI tD tP tO site _ tN (.inr ⟨t4, 0, rfl⟩)).mono ?_; rintro r w15 ⟨hga, k15⟩; rw [nod_congr _ _ _ _ _ _ _ _ _ _ _ _ _ _ _ _ _ GD _ _ _ _ _ GP _ GO tD tP tO td tp to_, nea_congr tp, hL.out] at hga; obtain ⟨v2, rfl, o2⟩ := hga
  go_wp2_with fail
  refine hK.out _ _ (btrans hbq k15) (.inl ?_)
  clear hK K
  replace hbq := btrans hbq k15
  clear k15
  try simp only [putQ]
  refine qY ?_
  refine qE ?_
  have b15 := btrans b12 hbq
  have o015 := own_below o012 hbq
  have om15 := own_below om hbq
  clear b12 o012 om x12 hbq tN td tp to_
  obtain ⟨a2, c2, rfl, _, i2⟩ := own_list o2
  go_wp2_with fail
  obtain ⟨a0', c0', e0, _, i0⟩ := own_list o015
  simp only [Value.slice.injEq, true_and] at e0
  obtain ⟨rfl, rfl⟩ := e0
  refine (eqInts_same _ _ _ _ _ _ _ i2 i0 hgl).mono ?_
  rintro r w16 ⟨rfl, k16⟩
  have b16 := btrans b15 k16
  have om16 := own_below om15 k16
  clear b15 om15 i0 i2 o015 o2 k16
  go_wp2_with fail
  obtain ⟨a1', c1', e1, _, i1⟩ := own_ints (f := fun j => ((1 + j : Nat) : Int)) om16
  simp only [Value.slice.injEq, true_and] at e1
  obtain ⟨rfl, rfl⟩ := e1
  refine (heldInts_any _ _ _ 1 _ i1 hgl (by omega)).mono ?_
  rintro r w17 ⟨rfl, hw⟩
  obtain rfl := hw.symm
  clear hw i1 om16
  rw [hK.out]
  go_wp2
  go_ret
  exact ⟨rfl, b16⟩
end Go.Proofs.YtgcdcfjaeehnbaaGreat
