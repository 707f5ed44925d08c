/- A list of events that came in, opened. -/
import Derived.Test.YtfjepjfpjkdclaaDoorEv
import Derived.Deep.Slices
import Derived.Deep.SlicePairs
import Derived.ChangeSame
import Derived.Lib.SmallJoins
namespace Go.Proofs.YtfjepjfpjkdclaaDoor
open Go.ChangeShapes Go.WideShapes Go.ChangeAt Go.RowKit Go.Joins Go.Deep
set_option maxRecDepth 20000 in
theorem plain_of_cell {w : World} {a : Addr} {v : Value} (h : w.cell? a = some v) : a = ⟨a.block, a.off, none⟩ := by
  unfold World.cell? at h
  obtain ⟨b, o, s⟩ := a
  cases s with
  | none => rfl
  | some s => split at h <;> simp at h
section
variable {H : Type} {enc : TypeId × Value → H} {W : World} {base : Nat} {spare : Nat → Bool} {held : Bool}
set_option maxRecDepth 20000 in
theorem open_facts {fuel : Nat} {a : Option Addr} {len cap : Nat} {x : DataW H × List MemPlace} (t e : TypeId) (ht : Tryd.prog.underlying t = some (.slice e)) {f0 f1 f2 f3 : Field} (he : Tryd.prog.underlying e = some (.struct #[f0, f1, f2, f3])) (hone : oneCellFields Tryd.prog #[f0, f1, f2, f3] = true) (ce : Tryd.prog.cellsOf e = 4)
    (t0 : Tryd.prog.underlying f0.type = some (.int .i64)) (t1 : Tryd.prog.underlying f1.type = some (.int .i64)) (t2 : Tryd.prog.underlying f2.type = some (.int .i64)) (t3 : Tryd.prog.underlying f3.type = some .bool)
    (h : DataW.trod enc Tryd.prog W base spare held fuel t [.slice a len cap] = some x) :
    ∃ F : Nat → Fc, len ≤ cap ∧ len ≤ maxLen ∧ FSl W a len F := by
  rcases open_slice ht h with ⟨hcs, _⟩ | ⟨a', len', cap', m, n, D, Pl, hcs, hb, hl, hm, hmm, rfl, hx⟩
  · simp at hcs
    obtain ⟨rfl, rfl, rfl⟩ := hcs
    exact ⟨fun _ => Fc.zero, by omega, by omega, fun h => by omega⟩
  · simp at hcs
    obtain ⟨rfl, rfl, rfl⟩ := hcs
    have hlm : len ≤ m := by rw [hmm]; split <;> omega
    have each : ∀ i, i < m → ∃ q : Fc, W.cell? (a'.add (i * 4)) = some (.int .i64 q.n) ∧ W.cell? (a'.add (i * 4 + 1)) = some (.int .i64 q.i) ∧ W.cell? (a'.add (i * 4 + 2)) = some (.int .i64 q.s) ∧ W.cell? (a'.add (i * 4 + 3)) = some (.bool q.g) := by
      intro i hi
      obtain ⟨cs', h1, h2⟩ := hx i hi
      rw [ce] at h1
      obtain ⟨_, hlen, hcell⟩ := World.cells?_some h1
      obtain ⟨y0, y1, y2, y3, k, _, _, g0, g1, g2, g3⟩ := trod_struct4 he h2
      obtain ⟨o0, k0⟩ := hone_of hone 0 f0 rfl
      obtain ⟨o1, k1⟩ := hone_of hone 1 f1 rfl
      obtain ⟨o2, k2⟩ := hone_of hone 2 f2 rfl
      obtain ⟨o3, k3⟩ := hone_of hone 3 f3 rfl
      match cs', hlen with
      | [v0, v1, v2, v3], _ =>
        simp [o0, k0] at g0
        simp [o1, k1] at g1
        simp [o2, k2] at g2
        simp [o3, k3] at g3
        obtain ⟨x0, ea, _, _⟩ := DataW.trod_int t0 g0
        obtain ⟨x1, eb, _, _⟩ := DataW.trod_int t1 g1
        obtain ⟨x2, ec, _, _⟩ := DataW.trod_int t2 g2
        obtain ⟨x3, ed, _, _⟩ := DataW.trod_bool t3 g3
        simp at ea eb ec ed
        subst ea eb ec ed
        have e0 := hcell 0 (by omega)
        have e1 := hcell 1 (by omega)
        have e2 := hcell 2 (by omega)
        have e3 := hcell 3 (by omega)
        rw [add_add] at e0 e1 e2 e3
        exact ⟨⟨x0, x1, x2, x3⟩, by simpa using e0, by simpa using e1, by simpa using e2, by simpa using e3⟩
    have inh : Inhabited Fc := ⟨Fc.zero⟩
    obtain ⟨F, hF⟩ := choose_lt each
    refine ⟨F, hl, by omega, fun h0 => ?_⟩
    have hp := plain_of_cell (hF 0 (by omega)).1
    simp [Addr.add] at hp
    obtain ⟨b, off, sp⟩ := a'
    obtain rfl : sp = none := by simpa using hp
    refine ⟨b, off, rfl, ?_, fun k hk => ?_⟩
    · have := World.block_lt_of_cell? W _ (hF 0 (by omega)).1
      simpa [Addr.add] using this
    · have := hF k (by omega)
      rw [add_plain, add_plain, add_plain, add_plain] at this
      simpa [Nat.add_assoc] using this
end
end Go.Proofs.YtfjepjfpjkdclaaDoor
