/- A fact more, the model's way. -/
import Derived.Test.YtibnojbhoepcdaaDoorL3
import Derived.Laws.AppendOwn
namespace Go.Proofs.YtibnojbhoepcdaaDoor
open Go.ChangeShapes Go.WideShapes Go.ChangeAt Go.RowKit
attribute [local go_sem ↓] Go.wp_at_zero Go.wp_at_succ
set_option maxRecDepth 20000 in
theorem fl_set (T : List Fc) : ∀ (j : Nat) (f : Fc), j < T.length → fl (T.set j f) = ((((fl T).set (j * 4) (.int .i64 f.n)).set (j * 4 + 1) (.int .i64 f.i)).set (j * 4 + 2) (.int .i64 f.s)).set (j * 4 + 3) (.bool f.g) := by
  induction T with
  | nil => intro j f h; simp at h
  | cons g r ih =>
    intro j f h
    have e : ∀ (g : Fc) (r : List Fc), fl (g :: r) = .int .i64 g.n :: .int .i64 g.i :: .int .i64 g.s :: .bool g.g :: fl r := fun g r => by simp [fl]
    match j, h with
    | 0, _ => rw [List.set_cons_zero, e, e]; rfl
    | j + 1, h =>
      rw [List.set_cons_succ, e, e, ih j f (by simpa using h), show (j + 1) * 4 = j * 4 + 4 by omega]
      rfl
set_option maxRecDepth 20000 in
theorem tput_set : ∀ (T : List Fc) (j : Nat) (f : Fc), Asc T → j < T.length → (T.getD j Fc.zero).n = f.n → ovr f (T.getD j Fc.zero) = true → tput T f = T.set j f
  | [], j, f, _, h, _, _ => by simp at h
  | g :: r, 0, f, _, _, h1, h2 => by
    simp at h1 h2
    unfold tput
    rw [if_neg (by omega), if_pos h1, if_pos h2]
    rfl
  | g :: r, j + 1, f, hA, h, h1, h2 => by
    obtain ⟨a1, a2⟩ := asc_cons.1 hA
    have hj : j < r.length := by simpa using h
    have e : (g :: r).getD (j + 1) Fc.zero = r.getD j Fc.zero := by simp
    rw [e] at h1 h2
    have := a1 (r.getD j Fc.zero) (by simp [List.getD, hj])
    unfold tput
    rw [if_pos (by omega), tput_set r j f a2 hj h1 h2]
    rfl
end Go.Proofs.YtibnojbhoepcdaaDoor
