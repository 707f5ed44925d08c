/- A list of facts that came in, opened. -/
import Derived.Test.YtgcdcfjaeehnbaaGreatInts
import Derived.Deep.Slices
import Derived.Deep.SlicePairs
import Derived.ChangeSame
import Derived.Lib.SmallJoins
import Derived.Test.YtgcdcfjaeehnbaaGreatItems
import Derived.Test.YtgcdcfjaeehnbaaGreatNd24
import Derived.Deep.Strs
set_option maxRecDepth 20000
set_option maxHeartbeats 1000000
namespace Go.Proofs.YtgcdcfjaeehnbaaGreat
open Go.ChangeShapes Go.WideShapes Go.ChangeAt Go.RowKit Go.Joins Go.Deep
theorem plain_of_cell {w : World} {a : Addr} {v : Value} (h : w.cell? a = some v) : a = ⟨a.block, a.off, none⟩ := by
 unfold World.cell? at h
 obtain ⟨b, o, s⟩ := a
 cases s with
 | none => rfl
 | some s => split at h <;> simp at h
section
variable {H : Type} {enc : TypeId × Value → H} {W : World} {base : Nat} {spare : Nat → Bool} {held : Bool}
theorem open_facts {fuel : Nat} {a : Option Addr} {len cap : Nat} {x : DataW H × List MemPlace} (t e : TypeId) (ht : Tryz.prog.underlying t = some (.slice e)) {f0 f1 f2 f3 : Field} (he : Tryz.prog.underlying e = some (.struct #[f0, f1, f2, f3])) (hone : oneCellFields Tryz.prog #[f0, f1, f2, f3] = true) (ce : Tryz.prog.cellsOf e = 4)
  (t0 : Tryz.prog.underlying f0.type = some (.int .i64)) (t1 : Tryz.prog.underlying f1.type = some (.int .i64)) (t2 : Tryz.prog.underlying f2.type = some (.int .i64)) (t3 : Tryz.prog.underlying f3.type = some .bool)
  (h : DataW.trod enc Tryz.prog W base spare held fuel t [.slice a len cap] = some x) :
  ∃ F : Nat → Fc, len ≤ cap ∧ len ≤ maxLen ∧ FSl W a len F := by
 rcases open_slice ht h with ⟨hcs, _⟩ | ⟨a', len', cap', m, n, D, Pl, hcs, hb, hl, hm, hmm, rfl, hx⟩
 ·simp at hcs
  obtain ⟨rfl, rfl, rfl⟩ := hcs
  exact ⟨fun _ => Fc.zero, by omega, by omega, fun h => by omega⟩
 ·simp at hcs
  obtain ⟨rfl, rfl, rfl⟩ := hcs
  have hlm : len ≤ m := by rw [hmm]; split <;> omega
  have each : ∀ i, i < m → ∃ q : Fc, W.cell? (a'.add (i * 4)) = some (.int .i64 q.n) ∧ W.cell? (a'.add (i * 4 + 1)) = some (.int .i64 q.i) ∧ W.cell? (a'.add (i * 4 + 2)) = some (.int .i64 q.s) ∧ W.cell? (a'.add (i * 4 + 3)) = some (.bool q.g) := by
   intro i hi
   obtain ⟨cs', h1, h2⟩ := hx i hi
   rw [ce] at h1
   obtain ⟨_, hlen, hcell⟩ := World.cells?_some h1
   obtain ⟨y0, y1, y2, y3, k, _, _, g0, g1, g2, g3⟩ := trod_struct4 he h2
   obtain ⟨o0, k0⟩ := hone_of hone 0 f0 rfl
   obtain ⟨o1, k1⟩ := hone_of hone 1 f1 rfl
   obtain ⟨o2, k2⟩ := hone_of hone 2 f2 rfl
   obtain ⟨o3, k3⟩ := hone_of hone 3 f3 rfl
   match cs', hlen with
   | [v0, v1, v2, v3], _ =>
    simp [o0, k0] at g0
    simp [o1, k1] at g1
    simp [o2, k2] at g2
    simp [o3, k3] at g3
    obtain ⟨x0, ea, _, _⟩ := DataW.trod_int t0 g0
    obtain ⟨x1, eb, _, _⟩ := DataW.trod_int t1 g1
    obtain ⟨x2, ec, _, _⟩ := DataW.trod_int t2 g2
    obtain ⟨x3, ed, _, _⟩ := DataW.trod_bool t3 g3
    simp at ea eb ec ed
    subst ea eb ec ed
    have e0 := hcell 0 (by omega)
    have e1 := hcell 1 (by omega)
    have e2 := hcell 2 (by omega)
    have e3 := hcell 3 (by omega)
    rw [add_add] at e0 e1 e2 e3
    exact ⟨⟨x0, x1, x2, x3⟩, by simpa using e0, by simpa using e1, by simpa using e2, by simpa using e3⟩
  have inh : Inhabited Fc := ⟨Fc.zero⟩
  obtain ⟨F, hF⟩ := choose_lt each
  refine ⟨F, hl, by omega, fun h0 => ?_⟩
  have hp := plain_of_cell (hF 0 (by omega)).1
  simp [Addr.add] at hp
  obtain ⟨b, off, sp⟩ := a'
  obtain rfl : sp = none := by simpa using hp
  refine ⟨b, off, rfl, ?_, fun k hk => ?_⟩
  ·have := World.block_lt_of_cell? W _ (hF 0 (by omega)).1
   simpa [Addr.add] using this
  ·have := hF k (by omega)
   rw [add_plain, add_plain, add_plain, add_plain] at this
   simpa [Nat.add_assoc] using this
end
end Go.Proofs.YtgcdcfjaeehnbaaGreat
namespace Go.Proofs.YtgcdcfjaeehnbaaGreat
open Go.ChangeShapes Go.WideShapes Go.ChangeAt Go.RowKit Go.Joins Go.Deep
section
variable {H : Type} {enc : TypeId × Value → H} {W : World} {base : Nat} {spare : Nat → Bool} {held : Bool}
theorem open_items {fuel : Nat} {a : Option Addr} {len cap : Nat} {x : DataW H × List MemPlace} (t e : TypeId) (ht : Tryz.prog.underlying t = some (.slice e)) {g0 g1 : Field} (he : Tryz.prog.underlying e = some (.struct #[g0, g1])) (ce : Tryz.prog.cellsOf e = 5)
  (o0 : g0.offset = 0) (k0 : Tryz.prog.cellsOf g0.type = 4) (o1 : g1.offset = 4) (k1 : Tryz.prog.cellsOf g1.type = 1) (tl : Tryz.prog.underlying g1.type = some (.int .i64))
  {f0 f1 f2 f3 : Field} (he2 : Tryz.prog.underlying g0.type = some (.struct #[f0, f1, f2, f3])) (hone : oneCellFields Tryz.prog #[f0, f1, f2, f3] = true)
  (t0 : Tryz.prog.underlying f0.type = some (.int .i64)) (t1 : Tryz.prog.underlying f1.type = some (.int .i64)) (t2 : Tryz.prog.underlying f2.type = some (.int .i64)) (t3 : Tryz.prog.underlying f3.type = some .bool)
  (h : DataW.trod enc Tryz.prog W base spare held fuel t [.slice a len cap] = some x) :
  ∃ F : Nat → It, len ≤ cap ∧ len ≤ maxLen ∧ TSl W a len F := by
 rcases open_slice ht h with ⟨hcs, _⟩ | ⟨a', len', cap', m, n, D, Pl, hcs, hb, hl, hm, hmm, rfl, hx⟩
 ·simp at hcs
  obtain ⟨rfl, rfl, rfl⟩ := hcs
  exact ⟨fun _ => It.zero, by omega, by omega, fun h => by omega⟩
 ·simp at hcs
  obtain ⟨rfl, rfl, rfl⟩ := hcs
  have hlm : len ≤ m := by rw [hmm]; split <;> omega
  have each : ∀ i, i < m → ∃ q : It, W.cell? (a'.add (i * 5)) = some (.int .i64 q.n) ∧ W.cell? (a'.add (i * 5 + 1)) = some (.int .i64 q.i) ∧ W.cell? (a'.add (i * 5 + 2)) = some (.int .i64 q.s) ∧ W.cell? (a'.add (i * 5 + 3)) = some (.bool q.g) ∧ W.cell? (a'.add (i * 5 + 4)) = some (.int .i64 q.l) := by
   intro i hi
   obtain ⟨cs', h1, h2⟩ := hx i hi
   rw [ce] at h1
   obtain ⟨_, hlen, hcell⟩ := World.cells?_some h1
   obtain ⟨z0, z1, kk, _, _, q0, q1⟩ := trod_struct2 he h2
   match cs', hlen with
   | [v0, v1, v2, v3, v4], _ =>
    simp [o0, k0] at q0
    simp [o1, k1] at q1
    obtain ⟨y0, y1, y2, y3, k, _, _, g0', g1', g2', g3'⟩ := trod_struct4 he2 q0
    obtain ⟨o0', k0'⟩ := hone_of hone 0 f0 rfl
    obtain ⟨o1', k1'⟩ := hone_of hone 1 f1 rfl
    obtain ⟨o2', k2'⟩ := hone_of hone 2 f2 rfl
    obtain ⟨o3', k3'⟩ := hone_of hone 3 f3 rfl
    simp [o0', k0'] at g0'
    simp [o1', k1'] at g1'
    simp [o2', k2'] at g2'
    simp [o3', k3'] at g3'
    obtain ⟨x0, ea, _, _⟩ := DataW.trod_int t0 g0'
    obtain ⟨x1, eb, _, _⟩ := DataW.trod_int t1 g1'
    obtain ⟨x2, ec, _, _⟩ := DataW.trod_int t2 g2'
    obtain ⟨x3, ed, _, _⟩ := DataW.trod_bool t3 g3'
    obtain ⟨x4, ee, _, _⟩ := DataW.trod_int tl q1
    simp at ea eb ec ed ee
    subst ea eb ec ed ee
    have e0 := hcell 0 (by omega)
    have e1 := hcell 1 (by omega)
    have e2 := hcell 2 (by omega)
    have e3 := hcell 3 (by omega)
    have e4 := hcell 4 (by omega)
    rw [add_add] at e0 e1 e2 e3 e4
    exact ⟨⟨x0, x1, x2, x3, x4⟩, by simpa using e0, by simpa using e1, by simpa using e2, by simpa using e3, by simpa using e4⟩
  have inh : Inhabited It := ⟨It.zero⟩
  obtain ⟨F, hF⟩ := choose_lt each
  refine ⟨F, hl, by omega, fun h0 => ?_⟩
  have hp := plain_of_cell (hF 0 (by omega)).1
  simp [Addr.add] at hp
  obtain ⟨b, off, sp⟩ := a'
  obtain rfl : sp = none := by simpa using hp
  refine ⟨b, off, rfl, ?_, fun k hk => ?_⟩
  ·have := World.block_lt_of_cell? W _ (hF 0 (by omega)).1
   simpa [Addr.add] using this
  ·have := hF k (by omega)
   rw [add_plain, add_plain, add_plain, add_plain, add_plain] at this
   simpa [Nat.add_assoc] using this
end
end Go.Proofs.YtgcdcfjaeehnbaaGreat
namespace Go.Proofs.YtgcdcfjaeehnbaaGreat
open Go.ChangeShapes Go.WideShapes Go.ChangeAt Go.RowKit Go.Joins Go.Deep
theorem cellsOf3 : Tryz.prog.cellsOf 3 = 1 := by kernel_rfl
theorem cellsOf48 : Tryz.prog.cellsOf 28 = 4 := by kernel_rfl
section
variable {H : Type} {enc : TypeId × Value → H} {W : World} {base : Nat} {spare : Nat → Bool} {held : Bool}
theorem int_of {n : Nat} {v : Value} {x : Option (DataW H × List MemPlace)} (h : DataW.trod enc Tryz.prog W base spare held n 3 [v] = x) (hx : x.isSome = true) : ∃ z : Int, v = .int .i64 z := by
 obtain ⟨y, rfl⟩ := Option.isSome_iff_exists.1 hx
 obtain ⟨z, e, _, _⟩ := DataW.trod_int Tryz.underlying3 h
 simp at e
 exact ⟨z, e⟩
end
end Go.Proofs.YtgcdcfjaeehnbaaGreat
namespace Go.Proofs.YtgcdcfjaeehnbaaGreat
open Go.ChangeShapes Go.WideShapes Go.ChangeAt Go.RowKit Go.Joins Go.Deep
theorem cellsOf4 : Tryz.prog.cellsOf 4 = 1 := by kernel_rfl
theorem cellsOf59 : Tryz.prog.cellsOf 54 = 1 := by kernel_rfl
section
variable {H : Type} {enc : TypeId × Value → H} {W : World} {base : Nat} {spare : Nat → Bool} {held : Bool}
theorem bool_of {n : Nat} {v : Value} {x : Option (DataW H × List MemPlace)} (h : DataW.trod enc Tryz.prog W base spare held n 4 [v] = x) (hx : x.isSome = true) : ∃ z : Bool, v = .bool z := by
 obtain ⟨y, rfl⟩ := Option.isSome_iff_exists.1 hx
 obtain ⟨z, e, _, _⟩ := DataW.trod_bool Tryz.underlying4 h
 simp at e
 exact ⟨z, e⟩
theorem slice_of {n : Nat} {t e : TypeId} (ht : Tryz.prog.underlying t = some (.slice e)) {v : Value} {x : DataW H × List MemPlace} (h : DataW.trod enc Tryz.prog W base spare held n t [v] = some x) : ∃ a len cap, v = .slice a len cap := by
 rcases open_slice ht h with ⟨hcs, _⟩ | ⟨a', len', cap', _, _, _, _, hcs, _⟩
 ·simp at hcs; exact ⟨_, _, _, hcs⟩
 ·simp at hcs; exact ⟨_, _, _, hcs⟩
theorem open_ints {fuel : Nat} {a : Option Addr} {len cap : Nat} {x : DataW H × List MemPlace} (h : DataW.trod enc Tryz.prog W base spare held fuel 54 [.slice a len cap] = some x) :
  ∃ f : Nat → Int, len ≤ cap ∧ len ≤ maxLen ∧ ISl W a len f := by
 rcases open_slice Tryz.underlying54 h with ⟨hcs, _⟩ | ⟨a', len', cap', m, n, D, PLc, hcs, hb, hl, hm, hmm, rfl, hx⟩
 ·simp at hcs
  obtain ⟨rfl, rfl, rfl⟩ := hcs
  exact ⟨fun _ => 0, by omega, by omega, fun h => by omega⟩
 ·simp at hcs
  obtain ⟨rfl, rfl, rfl⟩ := hcs
  have hlm : len ≤ m := by rw [hmm]; split <;> omega
  have each : ∀ i, i < m → ∃ q : Int, W.cell? (a'.add (i * 1)) = some (.int .i64 q) := by
   intro i hi
   obtain ⟨cs', h1, h2⟩ := hx i hi
   rw [cellsOf3] at h1
   obtain ⟨_, hlen, hcell⟩ := World.cells?_some h1
   match cs', hlen with
   | [v0], _ =>
    obtain ⟨z, rfl⟩ := int_of h2 rfl
    have e0 := hcell 0 (by omega)
    rw [add_add] at e0
    exact ⟨z, by simpa using e0⟩
  obtain ⟨F, hF⟩ := choose_lt each
  refine ⟨F, hl, by omega, fun h0 => ?_⟩
  have hp := plain_of_cell (hF 0 (by omega))
  simp [Addr.add] at hp
  obtain ⟨b, off, sp⟩ := a'
  obtain rfl : sp = none := by simpa using hp
  refine ⟨b, off, rfl, ?_, fun k hk => ?_⟩
  ·have := World.block_lt_of_cell? W _ (hF 0 (by omega))
   simpa [Addr.add] using this
  ·have := hF k (by omega)
   rw [add_plain] at this
   simpa [Nat.add_assoc] using this
theorem cellsOf22 : Tryz.prog.cellsOf 22 = 1 := by kernel_rfl
theorem open_facts22 {fuel : Nat} {a : Option Addr} {len cap : Nat} {x : DataW H × List MemPlace} (h : DataW.trod enc Tryz.prog W base spare held fuel 22 [.slice a len cap] = some x) : ∃ F : Nat → Fc, len ≤ cap ∧ len ≤ maxLen ∧ FSl W a len F :=
 open_facts 22 125 Tryz.underlying22 Tryz.underlying125 (by kernel_rfl) (by kernel_rfl) Tryz.underlying3 Tryz.underlying3 Tryz.underlying3 Tryz.underlying4 h
theorem coord_of {n : Nat} {c0 c1 c2 c3 : Value} {x : DataW H × List MemPlace} (h : DataW.trod enc Tryz.prog W base spare held n 28 [c0, c1, c2, c3] = some x) : ∃ x y z e : Int, c0 = .int .i64 x ∧ c1 = .int .i64 y ∧ c2 = .int .i64 z ∧ c3 = .int .i64 e := by
 obtain ⟨u0, u1, u2, u3, m, _, _, k0, k1, k2, k3⟩ := trod_struct4 Tryz.underlying28 h
 dsimp only at k0 k1 k2 k3
 rw [cellsOf3] at k0 k1 k2 k3
 simp only [List.drop, List.take] at k0 k1 k2 k3
 obtain ⟨z6, rfl⟩ := int_of k0 rfl
 obtain ⟨z7, rfl⟩ := int_of k1 rfl
 obtain ⟨z8, rfl⟩ := int_of k2 rfl
 obtain ⟨z9, rfl⟩ := int_of k3 rfl
 exact ⟨z6, z7, z8, z9, rfl, rfl, rfl, rfl⟩
theorem open_doubts {fuel : Nat} {a : Option Addr} {len cap : Nat} {x : DataW H × List MemPlace} (h : DataW.trod enc Tryz.prog W base spare held fuel 26 [.slice a len cap] = some x) :
  ∃ F : Nat → Dt, len ≤ cap ∧ len ≤ maxLen ∧ DtSl W a len F ∧ ∀ j, j < len → ISl W (F j).ba (F j).bl (F j).bf ∧ (F j).bl ≤ maxLen ∧ (F j).bl ≤ (F j).bc := by
 rcases open_slice Tryz.underlying26 h with ⟨hcs, _⟩ | ⟨a', len', cap', m, n, D, PLc, hcs, hb, hl, hm, hmm, rfl, hx⟩
 ·simp at hcs
  obtain ⟨rfl, rfl, rfl⟩ := hcs
  exact ⟨fun _ => Dt.zero, by omega, by omega, fun h => by omega, fun j hj => by omega⟩
 ·simp at hcs
  obtain ⟨rfl, rfl, rfl⟩ := hcs
  have hlm : len ≤ m := by rw [hmm]; split <;> omega
  have ce : Tryz.prog.cellsOf 109 = 4 := by kernel_rfl
  have each : ∀ i, i < m → ∃ q : Dt, (W.cell? (a'.add (i * 4)) = some (.int .i64 q.n) ∧ W.cell? (a'.add (i * 4 + 1)) = some (.int .i64 q.i) ∧ W.cell? (a'.add (i * 4 + 2)) = some (.int .i64 q.s) ∧ W.cell? (a'.add (i * 4 + 3)) = some (.slice q.ba q.bl q.bc)) ∧ ISl W q.ba q.bl q.bf ∧ q.bl ≤ maxLen ∧ q.bl ≤ q.bc := by
   intro i hi
   obtain ⟨cs', h1, h2⟩ := hx i hi
   rw [ce] at h1
   obtain ⟨_, hlen, hcell⟩ := World.cells?_some h1
   match cs', hlen with
   | [v0, v1, v2, v3], _ =>
    obtain ⟨u0, u1, u2, u3, m', _, _, k0, k1, k2, k3⟩ := trod_struct4 Tryz.underlying109 h2
    dsimp only at k0 k1 k2 k3
    rw [cellsOf3] at k0 k1 k2
    rw [cellsOf59] at k3
    simp only [List.drop, List.take] at k0 k1 k2 k3
    obtain ⟨z0, rfl⟩ := int_of k0 rfl
    obtain ⟨z1, rfl⟩ := int_of k1 rfl
    obtain ⟨z2, rfl⟩ := int_of k2 rfl
    obtain ⟨ba, bl, bc, rfl⟩ := slice_of Tryz.underlying54 k3
    obtain ⟨bf, hC, hM, hI⟩ := open_ints k3
    have e0 := hcell 0 (by omega)
    have e1 := hcell 1 (by omega)
    have e2 := hcell 2 (by omega)
    have e3 := hcell 3 (by omega)
    rw [add_add] at e0 e1 e2 e3
    exact ⟨⟨z0, z1, z2, ba, bl, bc, bf⟩, ⟨by simpa using e0, by simpa using e1, by simpa using e2, by simpa using e3⟩, hI, hM, hC⟩
  have inh : Inhabited Dt := ⟨Dt.zero⟩
  obtain ⟨F, hF⟩ := choose_lt each
  refine ⟨F, hl, by omega, fun h0 => ?_, fun j hj => (hF j (by omega)).2⟩
  have hp := plain_of_cell (hF 0 (by omega)).1.1
  simp [Addr.add] at hp
  obtain ⟨b, off, sp⟩ := a'
  obtain rfl : sp = none := by simpa using hp
  refine ⟨b, off, rfl, ?_, fun k hk => ?_⟩
  ·have := World.block_lt_of_cell? W _ (hF 0 (by omega)).1.1
   simpa [Addr.add] using this
  ·have := (hF k (by omega)).1
   rw [add_plain, add_plain, add_plain, add_plain] at this
   simpa [Nat.add_assoc] using this
theorem open_places {fuel : Nat} {a : Option Addr} {len cap : Nat} {x : DataW H × List MemPlace} (h : DataW.trod enc Tryz.prog W base spare held fuel 29 [.slice a len cap] = some x) :
  ∃ F : Nat → Pl, len ≤ cap ∧ len ≤ maxLen ∧ PlSl W a len F ∧ ∀ j, j < len → ISl W (F j).ba (F j).bl (F j).bf ∧ (F j).bl ≤ maxLen ∧ (F j).bl ≤ (F j).bc := by
 rcases open_slice Tryz.underlying29 h with ⟨hcs, _⟩ | ⟨a', len', cap', m, n, D, PLc, hcs, hb, hl, hm, hmm, rfl, hx⟩
 ·simp at hcs
  obtain ⟨rfl, rfl, rfl⟩ := hcs
  exact ⟨fun _ => Pl.zero, by omega, by omega, fun h => by omega, fun j hj => by omega⟩
 ·simp at hcs
  obtain ⟨rfl, rfl, rfl⟩ := hcs
  have hlm : len ≤ m := by rw [hmm]; split <;> omega
  have ce : Tryz.prog.cellsOf 112 = 6 := by kernel_rfl
  have each : ∀ i, i < m → ∃ q : Pl, (W.cell? (a'.add (i * 6)) = some (.int .i64 q.n) ∧ W.cell? (a'.add (i * 6 + 1)) = some (.int .i64 q.x) ∧ W.cell? (a'.add (i * 6 + 2)) = some (.int .i64 q.y) ∧ W.cell? (a'.add (i * 6 + 3)) = some (.int .i64 q.h) ∧ W.cell? (a'.add (i * 6 + 4)) = some (.int .i64 q.e) ∧ W.cell? (a'.add (i * 6 + 5)) = some (.slice q.ba q.bl q.bc)) ∧ ISl W q.ba q.bl q.bf ∧ q.bl ≤ maxLen ∧ q.bl ≤ q.bc := by
   intro i hi
   obtain ⟨cs', h1, h2⟩ := hx i hi
   rw [ce] at h1
   obtain ⟨_, hlen, hcell⟩ := World.cells?_some h1
   match cs', hlen with
   | [v0, v1, v2, v3, v4, v5], _ =>
    obtain ⟨u0, u1, u2, m', _, _, k0, k1, k2⟩ := trod_struct3 Tryz.underlying112 h2
    dsimp only at k0 k1 k2
    rw [cellsOf3] at k0
    rw [cellsOf48] at k1
    rw [cellsOf59] at k2
    simp only [List.drop, List.take] at k0 k1 k2
    obtain ⟨z0, rfl⟩ := int_of k0 rfl
    obtain ⟨z1, z2, z3, z4, rfl, rfl, rfl, rfl⟩ := coord_of k1
    obtain ⟨ba, bl, bc, rfl⟩ := slice_of Tryz.underlying54 k2
    obtain ⟨bf, hC, hM, hI⟩ := open_ints k2
    have e0 := hcell 0 (by omega)
    have e1 := hcell 1 (by omega)
    have e2 := hcell 2 (by omega)
    have e3 := hcell 3 (by omega)
    have e4 := hcell 4 (by omega)
    have e5 := hcell 5 (by omega)
    rw [add_add] at e0 e1 e2 e3 e4 e5
    exact ⟨⟨z0, z1, z2, z3, z4, ba, bl, bc, bf⟩, ⟨by simpa using e0, by simpa using e1, by simpa using e2, by simpa using e3, by simpa using e4, by simpa using e5⟩, hI, hM, hC⟩
  have inh : Inhabited Pl := ⟨Pl.zero⟩
  obtain ⟨F, hF⟩ := choose_lt each
  refine ⟨F, hl, by omega, fun h0 => ?_, fun j hj => (hF j (by omega)).2⟩
  have hp := plain_of_cell (hF 0 (by omega)).1.1
  simp [Addr.add] at hp
  obtain ⟨b, off, sp⟩ := a'
  obtain rfl : sp = none := by simpa using hp
  refine ⟨b, off, rfl, ?_, fun k hk => ?_⟩
  ·have := World.block_lt_of_cell? W _ (hF 0 (by omega)).1.1
   simpa [Addr.add] using this
  ·have := (hF k (by omega)).1
   rw [add_plain, add_plain, add_plain, add_plain, add_plain, add_plain] at this
   simpa [Nat.add_assoc] using this
theorem open_foreigns {fuel : Nat} {a : Option Addr} {len cap : Nat} {x : DataW H × List MemPlace} (h : DataW.trod enc Tryz.prog W base spare held fuel 30 [.slice a len cap] = some x) :
  ∃ F : Nat → Fg, len ≤ cap ∧ len ≤ maxLen ∧ FgSl W a len F ∧ ∀ j, j < len → FSl W (F j).ba (F j).bl (F j).bf ∧ (F j).bl ≤ maxLen ∧ (F j).bl ≤ (F j).bc := by
 rcases open_slice Tryz.underlying30 h with ⟨hcs, _⟩ | ⟨a', len', cap', m, n, D, PLc, hcs, hb, hl, hm, hmm, rfl, hx⟩
 ·simp at hcs
  obtain ⟨rfl, rfl, rfl⟩ := hcs
  exact ⟨fun _ => Fg.zero, by omega, by omega, fun h => by omega, fun j hj => by omega⟩
 ·simp at hcs
  obtain ⟨rfl, rfl, rfl⟩ := hcs
  have hlm : len ≤ m := by rw [hmm]; split <;> omega
  have ce : Tryz.prog.cellsOf 115 = 2 := by kernel_rfl
  have each : ∀ i, i < m → ∃ q : Fg, (W.cell? (a'.add (i * 2)) = some (.int .i64 q.n) ∧ W.cell? (a'.add (i * 2 + 1)) = some (.slice q.ba q.bl q.bc)) ∧ FSl W q.ba q.bl q.bf ∧ q.bl ≤ maxLen ∧ q.bl ≤ q.bc := by
   intro i hi
   obtain ⟨cs', h1, h2⟩ := hx i hi
   rw [ce] at h1
   obtain ⟨_, hlen, hcell⟩ := World.cells?_some h1
   match cs', hlen with
   | [v0, v1], _ =>
    obtain ⟨u0, u1, m', _, _, k0, k1⟩ := trod_struct2 Tryz.underlying115 h2
    dsimp only at k0 k1
    rw [cellsOf3] at k0
    rw [cellsOf22] at k1
    simp only [List.drop, List.take] at k0 k1
    obtain ⟨z0, rfl⟩ := int_of k0 rfl
    obtain ⟨ba, bl, bc, rfl⟩ := slice_of Tryz.underlying22 k1
    obtain ⟨bf, hC, hM, hI⟩ := open_facts22 k1
    have e0 := hcell 0 (by omega)
    have e1 := hcell 1 (by omega)
    rw [add_add] at e0 e1
    exact ⟨⟨z0, ba, bl, bc, bf⟩, ⟨by simpa using e0, by simpa using e1⟩, hI, hM, hC⟩
  have inh : Inhabited Fg := ⟨Fg.zero⟩
  obtain ⟨F, hF⟩ := choose_lt each
  refine ⟨F, hl, by omega, fun h0 => ?_, fun j hj => (hF j (by omega)).2⟩
  have hp := plain_of_cell (hF 0 (by omega)).1.1
  simp [Addr.add] at hp
  obtain ⟨b, off, sp⟩ := a'
  obtain rfl : sp = none := by simpa using hp
  refine ⟨b, off, rfl, ?_, fun k hk => ?_⟩
  ·have := World.block_lt_of_cell? W _ (hF 0 (by omega)).1.1
   simpa [Addr.add] using this
  ·have := (hF k (by omega)).1
   rw [add_plain, add_plain] at this
   simpa [Nat.add_assoc] using this
theorem array21 {α : Type} {cs : Array α} (h : cs.size = 21) : ∃ c0 c1 c2 c3 c4 c5 c6 c7 c8 c9 c10 c11 c12 c13 c14 c15 c16 c17 c18 c19 c20, cs = #[c0, c1, c2, c3, c4, c5, c6, c7, c8, c9, c10, c11, c12, c13, c14, c15, c16, c17, c18, c19, c20] := by
 obtain ⟨l⟩ := cs
 match l, h with
 | [c0, c1, c2, c3, c4, c5, c6, c7, c8, c9, c10, c11, c12, c13, c14, c15, c16, c17, c18, c19, c20], _ => exact ⟨c0, c1, c2, c3, c4, c5, c6, c7, c8, c9, c10, c11, c12, c13, c14, c15, c16, c17, c18, c19, c20, rfl⟩
theorem cellsOf23 : Tryz.prog.cellsOf 23 = 1 := by kernel_rfl
theorem cellsOf25 : Tryz.prog.cellsOf 25 = 4 := by kernel_rfl
theorem cellsOf26 : Tryz.prog.cellsOf 26 = 1 := by kernel_rfl
theorem cellsOf29 : Tryz.prog.cellsOf 29 = 1 := by kernel_rfl
theorem cellsOf30' : Tryz.prog.cellsOf 30 = 1 := by kernel_rfl
theorem probe_of {n : Nat} {c0 c1 c2 c3 : Value} {x : DataW H × List MemPlace} (h : DataW.trod enc Tryz.prog W base spare held n 25 [c0, c1, c2, c3] = some x) : ∃ (x y z : Int) (e : Bool), c0 = .int .i64 x ∧ c1 = .int .i64 y ∧ c2 = .int .i64 z ∧ c3 = .bool e := by
 obtain ⟨u0, u1, u2, u3, m, _, _, k0, k1, k2, k3⟩ := trod_struct4 Tryz.underlying25 h
 dsimp only at k0 k1 k2 k3
 rw [cellsOf3] at k0 k1 k2
 rw [cellsOf4] at k3
 simp only [List.drop, List.take] at k0 k1 k2 k3
 obtain ⟨z6, rfl⟩ := int_of k0 rfl
 obtain ⟨z7, rfl⟩ := int_of k1 rfl
 obtain ⟨z8, rfl⟩ := int_of k2 rfl
 obtain ⟨z9, rfl⟩ := bool_of k3 rfl
 exact ⟨z6, z7, z8, z9, rfl, rfl, rfl, rfl⟩
def NdVal (W : World) (v : Value) : Prop := ∃ (me : Int) (up gone gate : Bool) (inc now sq turn : Int) (ta : Option Addr) (tl tc : Nat) (ca : Option Addr) (cl cc : Nat) (pn ps pq : Int) (pa : Bool) (da : Option Addr) (dl dc : Nat) (cx cy ch ce : Int) (pla : Option Addr) (pll plc : Nat) (oa : Option Addr) (ol oc : Nat) (F : Nat → Fc) (GI : Nat → It) (GD : Nat → Dt) (GP : Nat → Pl) (GO : Nat → Fg), v = .agg #[.int .i64 me, .bool up, .bool gone, .bool gate, .int .i64 inc, .int .i64 now, .int .i64 sq, .int .i64 turn, .slice ta tl tc, .slice ca cl cc, .int .i64 pn, .int .i64 ps, .int .i64 pq, .bool pa, .slice da dl dc, .int .i64 cx, .int .i64 cy, .int .i64 ch, .int .i64 ce, .slice pla pll plc, .slice oa ol oc] ∧ NdRaw W ta tl tc F ca cl cc GI da dl GD pla pll GP oa ol GO
theorem open_node {r : Reach} {b0 : Nat} {v : Value} {d : DataW H} {p : List MemPlace} (hv : Value.okWide Tryz.prog W r b0 32 v) (h : DataW.Trod enc Tryz.prog W base spare held 32 v d p) : NdVal W v := by
 obtain ⟨cs, rfl, hsz⟩ := okWide_struct Tryz.underlying32 hv
 obtain ⟨c0, c1, c2, c3, c4, c5, c6, c7, c8, c9, c10, c11, c12, c13, c14, c15, c16, c17, c18, c19, c20, rfl⟩ := array21 (hsz.trans (by kernel_rfl))
 obtain ⟨fuel, hf⟩ := h
 obtain ⟨xs, n, _, _, _, hlen, hfs⟩ := DataW.trod_struct Tryz.underlying32 hf
 simp only [Value.cells] at hfs
 have hsome : ∀ i, i < 15 → (xs[i]?).isSome = true := fun i hi => by
  have : i < xs.length := by rw [hlen]; exact hi
  simp [this]
 have g0 := hfs 0 ⟨"Me", 3, 0, false, "", "", 0⟩ rfl
 have g1 := hfs 1 ⟨"Up", 4, 1, false, "", "", 8⟩ rfl
 have g2 := hfs 2 ⟨"Gone", 4, 2, false, "", "", 9⟩ rfl
 have g3 := hfs 3 ⟨"Gate", 4, 3, false, "", "", 10⟩ rfl
 have g4 := hfs 4 ⟨"Inc", 3, 4, false, "", "", 16⟩ rfl
 have g5 := hfs 5 ⟨"Now", 3, 5, false, "", "", 24⟩ rfl
 have g6 := hfs 6 ⟨"Seq", 3, 6, false, "", "", 32⟩ rfl
 have g7 := hfs 7 ⟨"Turn", 3, 7, false, "", "", 40⟩ rfl
 have g8 := hfs 8 ⟨"Table", 22, 8, false, "", "", 48⟩ rfl
 have g9 := hfs 9 ⟨"Cast", 23, 9, false, "", "", 72⟩ rfl
 have g10 := hfs 10 ⟨"Probe", 25, 10, false, "", "", 96⟩ rfl
 have g11 := hfs 11 ⟨"Doubts", 26, 14, false, "", "", 128⟩ rfl
 have g12 := hfs 12 ⟨"Coord", 28, 15, false, "", "", 152⟩ rfl
 have g13 := hfs 13 ⟨"Places", 29, 19, false, "", "", 184⟩ rfl
 have g14 := hfs 14 ⟨"Others", 30, 20, false, "", "", 208⟩ rfl
 dsimp only at g0 g1 g2 g3 g4 g5 g6 g7 g8 g9 g10 g11 g12 g13 g14
 rw [cellsOf3] at g0 g4 g5 g6 g7
 rw [cellsOf4] at g1 g2 g3
 rw [cellsOf22] at g8
 rw [cellsOf23] at g9
 rw [cellsOf25] at g10
 rw [cellsOf26] at g11
 rw [cellsOf48] at g12
 rw [cellsOf29] at g13
 rw [cellsOf30'] at g14
 simp only [List.drop, List.take] at g0 g1 g2 g3 g4 g5 g6 g7 g8 g9 g10 g11 g12 g13 g14
 obtain ⟨z0, rfl⟩ := int_of g0 (hsome 0 (by omega))
 obtain ⟨z1, rfl⟩ := bool_of g1 (hsome 1 (by omega))
 obtain ⟨z2, rfl⟩ := bool_of g2 (hsome 2 (by omega))
 obtain ⟨z3, rfl⟩ := bool_of g3 (hsome 3 (by omega))
 obtain ⟨z4, rfl⟩ := int_of g4 (hsome 4 (by omega))
 obtain ⟨z5, rfl⟩ := int_of g5 (hsome 5 (by omega))
 obtain ⟨z6, rfl⟩ := int_of g6 (hsome 6 (by omega))
 obtain ⟨z7, rfl⟩ := int_of g7 (hsome 7 (by omega))
 obtain ⟨y8, e8⟩ := Option.isSome_iff_exists.1 (hsome 8 (by omega))
 rw [e8] at g8
 obtain ⟨y9, e9⟩ := Option.isSome_iff_exists.1 (hsome 9 (by omega))
 rw [e9] at g9
 obtain ⟨y10, e10⟩ := Option.isSome_iff_exists.1 (hsome 10 (by omega))
 rw [e10] at g10
 obtain ⟨y11, e11⟩ := Option.isSome_iff_exists.1 (hsome 11 (by omega))
 rw [e11] at g11
 obtain ⟨y12, e12⟩ := Option.isSome_iff_exists.1 (hsome 12 (by omega))
 rw [e12] at g12
 obtain ⟨y13, e13⟩ := Option.isSome_iff_exists.1 (hsome 13 (by omega))
 rw [e13] at g13
 obtain ⟨y14, e14⟩ := Option.isSome_iff_exists.1 (hsome 14 (by omega))
 rw [e14] at g14
 obtain ⟨p0, p1, p2, p3, rfl, rfl, rfl, rfl⟩ := probe_of g10
 obtain ⟨q0, q1, q2, q3, rfl, rfl, rfl, rfl⟩ := coord_of g12
 obtain ⟨ta, tl, tc, rfl⟩ := slice_of Tryz.underlying22 g8
 obtain ⟨ca, cl, cc, rfl⟩ := slice_of Tryz.underlying23 g9
 obtain ⟨da, dl, dc, rfl⟩ := slice_of Tryz.underlying26 g11
 obtain ⟨pla, pll, plc, rfl⟩ := slice_of Tryz.underlying29 g13
 obtain ⟨oa, ol, oc, rfl⟩ := slice_of Tryz.underlying30 g14
 obtain ⟨F, f1, f2, f3⟩ := open_facts22 g8
 obtain ⟨GI, i1, i2, i3⟩ := open_items 23 130 Tryz.underlying23 Tryz.underlying130 (by kernel_rfl) rfl (by kernel_rfl) rfl (by kernel_rfl) Tryz.underlying3 Tryz.underlying125 (by kernel_rfl) Tryz.underlying3 Tryz.underlying3 Tryz.underlying3 Tryz.underlying4 g9
 obtain ⟨GD, d1, d2, d3, d4⟩ := open_doubts g11
 obtain ⟨GP, r1, r2, r3, r4⟩ := open_places g13
 obtain ⟨GO, s1, s2, s3, s4⟩ := open_foreigns g14
 exact ⟨z0, z1, z2, z3, z4, z5, z6, z7, ta, tl, tc, ca, cl, cc, p0, p1, p2, p3, da, dl, dc, q0, q1, q2, q3, pla, pll, plc, oa, ol, oc, F, GI, GD, GP, GO, rfl, ⟨f3, i3, d3, r3, s3, d4, r4, s4, f2, i2, d2, r2, s2, f1, i1⟩⟩
end
end Go.Proofs.YtgcdcfjaeehnbaaGreat
