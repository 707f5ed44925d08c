/- A word that came in, opened. -/
import Derived.Test.YtnplhfgdbabmaaaGreatOpen
namespace Go.Proofs.YtnplhfgdbabmaaaGreat
open Go.ChangeShapes Go.WideShapes Go.ChangeAt Go.RowKit Go.Joins Go.Deep
theorem array11 {α : Type} {cs : Array α} (h : cs.size = 11) : ∃ c0 c1 c2 c3 c4 c5 c6 c7 c8 c9 c10, cs = #[c0, c1, c2, c3, c4, c5, c6, c7, c8, c9, c10] := by
  obtain ⟨l⟩ := cs
  match l, h with
  | [c0, c1, c2, c3, c4, c5, c6, c7, c8, c9, c10], _ => exact ⟨c0, c1, c2, c3, c4, c5, c6, c7, c8, c9, c10, rfl⟩
theorem cellsOf3 : Tryz.prog.cellsOf 3 = 1 := by kernel_rfl
theorem cellsOf48 : Tryz.prog.cellsOf 28 = 4 := by kernel_rfl
theorem cellsOf30 : Tryz.prog.cellsOf 22 = 1 := by kernel_rfl
section
variable {H : Type} {enc : TypeId × Value → H} {W : World} {base : Nat} {spare : Nat → Bool} {held : Bool}
theorem int_of {n : Nat} {v : Value} {x : Option (DataW H × List MemPlace)} (h : DataW.trod enc Tryz.prog W base spare held n 3 [v] = x) (hx : x.isSome = true) : ∃ z : Int, v = .int .i64 z := by
  obtain ⟨y, rfl⟩ := Option.isSome_iff_exists.1 hx
  obtain ⟨z, e, _, _⟩ := DataW.trod_int Tryz.underlying3 h
  simp at e
  exact ⟨z, e⟩
set_option maxRecDepth 20000 in
theorem open_word {r : Reach} {b0 : Nat} {v : Value} {d : DataW H} {p : List MemPlace} (hv : Value.okWide Tryz.prog W r b0 48 v) (h : DataW.Trod enc Tryz.prog W base spare held 48 v d p) :
    ∃ (p k f t s q x y z e : Int) (a : Option Addr) (len cap : Nat) (F : Nat → Fc), v = .agg #[.int .i64 p, .int .i64 k, .int .i64 f, .int .i64 t, .int .i64 s, .int .i64 q, .int .i64 x, .int .i64 y, .int .i64 z, .int .i64 e, .slice a len cap] ∧ len ≤ cap ∧ len ≤ maxLen ∧ FSl W a len F := by
  obtain ⟨cs, rfl, hsz⟩ := okWide_struct Tryz.underlying48 hv
  obtain ⟨c0, c1, c2, c3, c4, c5, c6, c7, c8, c9, c10, rfl⟩ := array11 (hsz.trans (by kernel_rfl))
  obtain ⟨fuel, hf⟩ := h
  obtain ⟨xs, n, _, _, _, hlen, hfs⟩ := DataW.trod_struct Tryz.underlying48 hf
  simp only [Value.cells] at hfs
  have hsome : ∀ i, i < 8 → (xs[i]?).isSome = true := fun i hi => by
    have : i < xs.length := by rw [hlen]; exact hi
    simp [this]
  have g0 := hfs 0 ⟨"Pool", 3, 0, false, "", "", 0⟩ rfl
  have g1 := hfs 1 ⟨"Kind", 3, 1, false, "", "", 8⟩ rfl
  have g2 := hfs 2 ⟨"From", 3, 2, false, "", "", 16⟩ rfl
  have g3 := hfs 3 ⟨"To", 3, 3, false, "", "", 24⟩ rfl
  have g4 := hfs 4 ⟨"Seq", 3, 4, false, "", "", 32⟩ rfl
  have g5 := hfs 5 ⟨"About", 3, 5, false, "", "", 40⟩ rfl
  have g6 := hfs 6 ⟨"Coord", 28, 6, false, "", "", 48⟩ rfl
  have g7 := hfs 7 ⟨"Facts", 22, 10, false, "", "", 80⟩ rfl
  dsimp only at g0 g1 g2 g3 g4 g5 g6 g7
  rw [cellsOf3] at g0 g1 g2 g3 g4 g5
  rw [cellsOf48] at g6
  rw [cellsOf30] at g7
  simp only [List.drop, List.take] at g0 g1 g2 g3 g4 g5 g6 g7
  obtain ⟨z0, rfl⟩ := int_of g0 (hsome 0 (by omega))
  obtain ⟨z1, rfl⟩ := int_of g1 (hsome 1 (by omega))
  obtain ⟨z2, rfl⟩ := int_of g2 (hsome 2 (by omega))
  obtain ⟨z3, rfl⟩ := int_of g3 (hsome 3 (by omega))
  obtain ⟨z4, rfl⟩ := int_of g4 (hsome 4 (by omega))
  obtain ⟨z5, rfl⟩ := int_of g5 (hsome 5 (by omega))
  obtain ⟨y6, e6⟩ := Option.isSome_iff_exists.1 (hsome 6 (by omega))
  obtain ⟨y7, e7⟩ := Option.isSome_iff_exists.1 (hsome 7 (by omega))
  rw [e6] at g6
  rw [e7] at g7
  obtain ⟨u0, u1, u2, u3, m, _, _, k0, k1, k2, k3⟩ := trod_struct4 Tryz.underlying28 g6
  dsimp only at k0 k1 k2 k3
  rw [cellsOf3] at k0 k1 k2 k3
  simp only [List.drop, List.take] at k0 k1 k2 k3
  obtain ⟨z6, rfl⟩ := int_of k0 rfl
  obtain ⟨z7, rfl⟩ := int_of k1 rfl
  obtain ⟨z8, rfl⟩ := int_of k2 rfl
  obtain ⟨z9, rfl⟩ := int_of k3 rfl
  obtain ⟨a, len, cap, rfl⟩ : ∃ a len cap, c10 = .slice a len cap := by
    rcases open_slice Tryz.underlying22 g7 with ⟨hcs, _⟩ | ⟨a', len', cap', _, _, _, _, hcs, _⟩
    · simp at hcs; exact ⟨_, _, _, hcs⟩
    · simp at hcs; exact ⟨_, _, _, hcs⟩
  obtain ⟨F, h1, h2, h3⟩ := open_facts 22 125 Tryz.underlying22 Tryz.underlying125 (by kernel_rfl) (by kernel_rfl) Tryz.underlying3 Tryz.underlying3 Tryz.underlying3 Tryz.underlying4 g7
  exact ⟨z0, z1, z2, z3, z4, z5, z6, z7, z8, z9, a, len, cap, F, rfl, h1, h2, h3⟩
end
end Go.Proofs.YtnplhfgdbabmaaaGreat
