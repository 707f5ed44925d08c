/- The copy that the law makes of a word; whether two are the same; the exact law of WordOk, walked. -/
import Derived.Test.YtgcdcfjaeehnbaaGreatWordOk
namespace Go.Proofs.YtgcdcfjaeehnbaaGreat
open Go.ChangeShapes Go.WideShapes Go.ChangeAt Go.RowKit
attribute [local go_sem ↓] Go.wp_at_zero Go.wp_at_succ
theorem cs_far {w : World} {b i c j : Nat} {u : Value} (v : Value) (hbc : b ≠ c) (h : w.cell? ⟨b, i, none⟩ = some u) : (w.setCell ⟨c, j, none⟩ v).cell? ⟨b, i, none⟩ = some u := (World.cell?_setCell_far _ _ _ _ (fun e => hbc e.symm)).trans h
theorem FSl.set {w : World} {b len : Nat} {F : Nat → Fc} (R o : Nat) (v : Value) (hne : b ≠ R) (h : FSl w (some ⟨b, 0, none⟩) len F) : FSl (w.setCell ⟨R, o, none⟩ v) (some ⟨b, 0, none⟩) len F := fun hl => by
  obtain ⟨b', off, e, hlt, hf⟩ := h hl
  simp only [Option.some.injEq, Addr.mk.injEq, and_true] at e
  obtain ⟨rfl, rfl⟩ := e
  refine ⟨b, 0, rfl, by simpa [World.setCell] using hlt, fun k hk => ?_⟩
  obtain ⟨h0, h1, h2, h3⟩ := hf k hk
  exact ⟨(World.cell?_setCell_far _ _ _ _ (fun e => hne e.symm)).trans h0, (World.cell?_setCell_far _ _ _ _ (fun e => hne e.symm)).trans h1, (World.cell?_setCell_far _ _ _ _ (fun e => hne e.symm)).trans h2, (World.cell?_setCell_far _ _ _ _ (fun e => hne e.symm)).trans h3⟩
end Go.Proofs.YtgcdcfjaeehnbaaGreat
