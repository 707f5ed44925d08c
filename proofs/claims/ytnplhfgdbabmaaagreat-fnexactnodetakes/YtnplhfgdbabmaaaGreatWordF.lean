/- What is left of the texts on words. -/
import Derived.Test.YtnplhfgdbabmaaaGreatSite
import Derived.Test.YtnplhfgdbabmaaaGreatExVersion
import Derived.Test.YtnplhfgdbabmaaaGreatWord
import Derived.Test.YtnplhfgdbabmaaaGreatWordOk
import Derived.Test.YtnplhfgdbabmaaaGreatExWord
import Derived.Test.YtnplhfgdbabmaaaGreatExWordOk
namespace Go.Proofs.YtnplhfgdbabmaaaGreat
open Go.ChangeShapes Go.WideShapes Go.ChangeAt Go.RowKit
attribute [local go_sem ↓] Go.wp_at_zero Go.wp_at_succ
theorem first_cell {w : World} {b off len : Nat} {F : Nat → Fc} (h : FactsIn w b off len F) (hl : 0 < len) : w.cell? ⟨b, off, none⟩ = some (.int .i64 (F 0).n) := by
  have := (h 0 hl).1
  simpa using this
set_option maxRecDepth 10000 in
set_option maxHeartbeats 4000000 in
theorem sites_any (p k f t s q x y z e : Int) (a : Option Addr) (len cap : Nat) (F : Nat → Fc) (w : World) (h : FSl w a len F) (hl : len ≤ 1048576) :
    Calls Tryz.prog 165 #[.agg #[.int .i64 p, .int .i64 k, .int .i64 f, .int .i64 t, .int .i64 s, .int .i64 q, .int .i64 x, .int .i64 y, .int .i64 z, .int .i64 e, (.slice a len cap)]] w fun r w' => r = .returned (.bool (wsB len F k f)) ∧ Below w.heap.size w w' := by
  by_cases hk : k = 6
  · subst hk
    rcases Nat.eq_zero_or_pos len with h0 | h0
    · subst h0
      go_enter Tryz.func165, Tryz.ntmps165
      go_wp2_with fail
      have c0 : (w.alloc (.cells #[.int .i64 p, .int .i64 6, .int .i64 f, .int .i64 t, .int .i64 s, .int .i64 q, .int .i64 x, .int .i64 y, .int .i64 z, .int .i64 e, (.slice a 0 cap)] 52)).cell? ⟨w.heap.size, 0, none⟩ = some (.int .i64 p) := by simp [go_sem]
      have c1 : (w.alloc (.cells #[.int .i64 p, .int .i64 6, .int .i64 f, .int .i64 t, .int .i64 s, .int .i64 q, .int .i64 x, .int .i64 y, .int .i64 z, .int .i64 e, (.slice a 0 cap)] 52)).cell? ⟨w.heap.size, 1, none⟩ = some (.int .i64 6) := by simp [go_sem]
      have c2 : (w.alloc (.cells #[.int .i64 p, .int .i64 6, .int .i64 f, .int .i64 t, .int .i64 s, .int .i64 q, .int .i64 x, .int .i64 y, .int .i64 z, .int .i64 e, (.slice a 0 cap)] 52)).cell? ⟨w.heap.size, 2, none⟩ = some (.int .i64 f) := by simp [go_sem]
      have c3 : (w.alloc (.cells #[.int .i64 p, .int .i64 6, .int .i64 f, .int .i64 t, .int .i64 s, .int .i64 q, .int .i64 x, .int .i64 y, .int .i64 z, .int .i64 e, (.slice a 0 cap)] 52)).cell? ⟨w.heap.size, 3, none⟩ = some (.int .i64 t) := by simp [go_sem]
      have c4 : (w.alloc (.cells #[.int .i64 p, .int .i64 6, .int .i64 f, .int .i64 t, .int .i64 s, .int .i64 q, .int .i64 x, .int .i64 y, .int .i64 z, .int .i64 e, (.slice a 0 cap)] 52)).cell? ⟨w.heap.size, 4, none⟩ = some (.int .i64 s) := by simp [go_sem]
      have c5 : (w.alloc (.cells #[.int .i64 p, .int .i64 6, .int .i64 f, .int .i64 t, .int .i64 s, .int .i64 q, .int .i64 x, .int .i64 y, .int .i64 z, .int .i64 e, (.slice a 0 cap)] 52)).cell? ⟨w.heap.size, 5, none⟩ = some (.int .i64 q) := by simp [go_sem]
      have c6 : (w.alloc (.cells #[.int .i64 p, .int .i64 6, .int .i64 f, .int .i64 t, .int .i64 s, .int .i64 q, .int .i64 x, .int .i64 y, .int .i64 z, .int .i64 e, (.slice a 0 cap)] 52)).cell? ⟨w.heap.size, 6, none⟩ = some (.int .i64 x) := by simp [go_sem]
      have c7 : (w.alloc (.cells #[.int .i64 p, .int .i64 6, .int .i64 f, .int .i64 t, .int .i64 s, .int .i64 q, .int .i64 x, .int .i64 y, .int .i64 z, .int .i64 e, (.slice a 0 cap)] 52)).cell? ⟨w.heap.size, 7, none⟩ = some (.int .i64 y) := by simp [go_sem]
      have c8 : (w.alloc (.cells #[.int .i64 p, .int .i64 6, .int .i64 f, .int .i64 t, .int .i64 s, .int .i64 q, .int .i64 x, .int .i64 y, .int .i64 z, .int .i64 e, (.slice a 0 cap)] 52)).cell? ⟨w.heap.size, 8, none⟩ = some (.int .i64 z) := by simp [go_sem]
      have c9 : (w.alloc (.cells #[.int .i64 p, .int .i64 6, .int .i64 f, .int .i64 t, .int .i64 s, .int .i64 q, .int .i64 x, .int .i64 y, .int .i64 z, .int .i64 e, (.slice a 0 cap)] 52)).cell? ⟨w.heap.size, 9, none⟩ = some (.int .i64 e) := by simp [go_sem]
      have c10 : (w.alloc (.cells #[.int .i64 p, .int .i64 6, .int .i64 f, .int .i64 t, .int .i64 s, .int .i64 q, .int .i64 x, .int .i64 y, .int .i64 z, .int .i64 e, (.slice a 0 cap)] 52)).cell? ⟨w.heap.size, 10, none⟩ = some (.slice a 0 cap) := by simp [go_sem]
      have bw := balloc (.cells #[.int .i64 p, .int .i64 6, .int .i64 f, .int .i64 t, .int .i64 s, .int .i64 q, .int .i64 x, .int .i64 y, .int .i64 z, .int .i64 e, (.slice a 0 cap)] 52) (Below.refl w.heap.size w)
      generalize (w.alloc (.cells #[.int .i64 p, .int .i64 6, .int .i64 f, .int .i64 t, .int .i64 s, .int .i64 q, .int .i64 x, .int .i64 y, .int .i64 z, .int .i64 e, (.slice a 0 cap)] 52)) = W at *
      refine wp_region_held_drew (S := (fun w' => w'.cell? ⟨w.heap.size, 0, none⟩ = some (.int .i64 p) ∧ w'.cell? ⟨w.heap.size, 1, none⟩ = some (.int .i64 6) ∧ w'.cell? ⟨w.heap.size, 2, none⟩ = some (.int .i64 f) ∧ w'.cell? ⟨w.heap.size, 3, none⟩ = some (.int .i64 t) ∧ w'.cell? ⟨w.heap.size, 4, none⟩ = some (.int .i64 s) ∧ w'.cell? ⟨w.heap.size, 5, none⟩ = some (.int .i64 q) ∧ w'.cell? ⟨w.heap.size, 6, none⟩ = some (.int .i64 x) ∧ w'.cell? ⟨w.heap.size, 7, none⟩ = some (.int .i64 y) ∧ w'.cell? ⟨w.heap.size, 8, none⟩ = some (.int .i64 z) ∧ w'.cell? ⟨w.heap.size, 9, none⟩ = some (.int .i64 e) ∧ w'.cell? ⟨w.heap.size, 10, none⟩ = some (.slice a 0 cap))) (by kernel_rfl) ?_ (fun hHeld => ?_)
      · (try dsimp only); (refine ⟨?_, ?_, ?_, ?_, ?_, ?_, ?_, ?_, ?_, ?_, ?_⟩ <;> (repeat (first | with_reducible assumption | with_reducible refine keep_drew ?_ | with_reducible refine keep_below (by assumption) ?_)))
      refine tlQ (i := 0) (oi := { dst := some 6, op := .fieldAddr 52 (.tmp 1) 7, type := 0, pos := "l4_word.go:204", after := #[], guard := none }) ?_; try simp only [putP]; refine tlQ (i := 1) (oi := { dst := some 7, op := .load 35 (.tmp 6), type := 35, pos := "l4_word.go:204", after := #[{ on := 0, ground := .data }], guard := none }) ?_; try simp only [putP]; refine tlQ (i := 2) (oi := { dst := some 8, op := .call { callee := .builtin .len, args := #[.tmp 7], argTypes := #[35] }, type := 3, pos := "l4_word.go:204", after := #[{ on := 1, ground := .data }], guard := none }) ?_; try simp only [putP]; refine tlQ (i := 3) (oi := { dst := some 9, op := .binOp .gtr 3 (.tmp 8) (.const (.int .i64 0)) 3, type := 4, pos := "l4_word.go:204", after := #[{ on := 2, ground := .data }], guard := none }) ?_; try simp only [putP]; refine tlQ (i := 4) (oi := { dst := some 10, op := .move (.tmp 9), type := 4, pos := "l4_word.go:204", after := #[{ on := 3, ground := .data }], guard := none }) ?_; try simp only [putP]; refine tzQ (i := 5) (oi := { dst := some 11, op := .fieldAddr 52 (.tmp 1) 7, type := 0, pos := "l4_word.go:204", after := #[{ on := 4, ground := .guard }], guard := some (4, true) }) ?_; try simp only [putP]; refine tzQ (i := 6) (oi := { dst := some 12, op := .load 35 (.tmp 11), type := 35, pos := "l4_word.go:204", after := #[{ on := 5, ground := .data }, { on := 4, ground := .guard }], guard := some (4, true) }) ?_; try simp only [putP]; refine tzQ (i := 7) (oi := { dst := some 13, op := .fieldAddr 52 (.tmp 1) 7, type := 0, pos := "l4_word.go:204", after := #[{ on := 4, ground := .guard }], guard := some (4, true) }) ?_; try simp only [putP]; refine tzQ (i := 8) (oi := { dst := some 14, op := .load 35 (.tmp 13), type := 35, pos := "l4_word.go:204", after := #[{ on := 7, ground := .data }, { on := 4, ground := .guard }], guard := some (4, true) }) ?_; try simp only [putP]; refine tzQ (i := 9) (oi := { dst := some 15, op := .indexAddr 35 (.tmp 14) (.const (.int .i64 0)), type := 0, pos := "l4_word.go:204", after := #[{ on := 8, ground := .data }, { on := 4, ground := .guard }], guard := some (4, true) }) ?_; try simp only [putP]; refine tzQ (i := 10) (oi := { dst := some 16, op := .fieldAddr 119 (.tmp 15) 0, type := 0, pos := "l4_word.go:204", after := #[{ on := 9, ground := .data }, { on := 4, ground := .guard }], guard := some (4, true) }) ?_; try simp only [putP]; refine tzQ (i := 11) (oi := { dst := some 17, op := .load 3 (.tmp 16), type := 3, pos := "l4_word.go:204", after := #[{ on := 10, ground := .data }, { on := 4, ground := .guard }], guard := some (4, true) }) ?_; try simp only [putP]; refine tzQ (i := 12) (oi := { dst := some 18, op := .call { callee := .value (.func 127), args := #[.tmp 17], argTypes := #[3] }, type := 3, pos := "l4_word.go:204", after := #[{ on := 11, ground := .data }, { on := 4, ground := .chain }, { on := 4, ground := .guard }], guard := some (4, true) }) ?_; try simp only [putP]; refine tzQ (i := 13) (oi := { dst := some 19, op := .call { callee := .value (.func 103), args := #[.tmp 12, .tmp 18], argTypes := #[35, 3] }, type := 4, pos := "l4_word.go:204", after := #[{ on := 6, ground := .data }, { on := 12, ground := .data }, { on := 12, ground := .chain }, { on := 4, ground := .guard }], guard := some (4, true) }) ?_; try simp only [putP]; refine tlQ (i := 14) (oi := { dst := some 20, op := .pick (.tmp 10) (.tmp 19) (.const (.bool false)), type := 4, pos := "l4_word.go:204", after := #[{ on := 4, ground := .data }, { on := 13, ground := .data }], guard := none }) ?_; try simp only [putP]; refine tlQ (i := 15) (oi := { dst := some 2, op := .assign (.tmp 20), type := 4, pos := "l4_word.go:204", after := #[{ on := 14, ground := .data }, { on := 13, ground := .chain }, { on := 0, ground := .phase }, { on := 1, ground := .phase }, { on := 2, ground := .phase }, { on := 3, ground := .phase }, { on := 4, ground := .phase }, { on := 5, ground := .phase }, { on := 6, ground := .phase }, { on := 7, ground := .phase }, { on := 8, ground := .phase }, { on := 9, ground := .phase }, { on := 10, ground := .phase }, { on := 11, ground := .phase }, { on := 12, ground := .phase }, { on := 13, ground := .phase }, { on := 14, ground := .phase }], guard := none }) ?_; try simp only [putP]
      refine wpAnyH_done (by kernel_rfl) ?_ _
      go_wp2
      go_ret
      exact ⟨ret_bool (by unfold wsB; simp), bw.drew⟩
    · obtain ⟨b, off, rfl, hbl, hf⟩ := h h0
      have hfs : FSl w (some ⟨b, off, none⟩) len F := fun _ => ⟨b, off, rfl, hbl, hf⟩
      have i1 : (0 : Int) < (len : Int) := by omega
      go_enter Tryz.func165, Tryz.ntmps165
      go_wp2_with fail
      have c0 : (w.alloc (.cells #[.int .i64 p, .int .i64 6, .int .i64 f, .int .i64 t, .int .i64 s, .int .i64 q, .int .i64 x, .int .i64 y, .int .i64 z, .int .i64 e, (.slice (some ⟨b, off, none⟩) len cap)] 52)).cell? ⟨w.heap.size, 0, none⟩ = some (.int .i64 p) := by simp [go_sem]
      have c1 : (w.alloc (.cells #[.int .i64 p, .int .i64 6, .int .i64 f, .int .i64 t, .int .i64 s, .int .i64 q, .int .i64 x, .int .i64 y, .int .i64 z, .int .i64 e, (.slice (some ⟨b, off, none⟩) len cap)] 52)).cell? ⟨w.heap.size, 1, none⟩ = some (.int .i64 6) := by simp [go_sem]
      have c2 : (w.alloc (.cells #[.int .i64 p, .int .i64 6, .int .i64 f, .int .i64 t, .int .i64 s, .int .i64 q, .int .i64 x, .int .i64 y, .int .i64 z, .int .i64 e, (.slice (some ⟨b, off, none⟩) len cap)] 52)).cell? ⟨w.heap.size, 2, none⟩ = some (.int .i64 f) := by simp [go_sem]
      have c3 : (w.alloc (.cells #[.int .i64 p, .int .i64 6, .int .i64 f, .int .i64 t, .int .i64 s, .int .i64 q, .int .i64 x, .int .i64 y, .int .i64 z, .int .i64 e, (.slice (some ⟨b, off, none⟩) len cap)] 52)).cell? ⟨w.heap.size, 3, none⟩ = some (.int .i64 t) := by simp [go_sem]
      have c4 : (w.alloc (.cells #[.int .i64 p, .int .i64 6, .int .i64 f, .int .i64 t, .int .i64 s, .int .i64 q, .int .i64 x, .int .i64 y, .int .i64 z, .int .i64 e, (.slice (some ⟨b, off, none⟩) len cap)] 52)).cell? ⟨w.heap.size, 4, none⟩ = some (.int .i64 s) := by simp [go_sem]
      have c5 : (w.alloc (.cells #[.int .i64 p, .int .i64 6, .int .i64 f, .int .i64 t, .int .i64 s, .int .i64 q, .int .i64 x, .int .i64 y, .int .i64 z, .int .i64 e, (.slice (some ⟨b, off, none⟩) len cap)] 52)).cell? ⟨w.heap.size, 5, none⟩ = some (.int .i64 q) := by simp [go_sem]
      have c6 : (w.alloc (.cells #[.int .i64 p, .int .i64 6, .int .i64 f, .int .i64 t, .int .i64 s, .int .i64 q, .int .i64 x, .int .i64 y, .int .i64 z, .int .i64 e, (.slice (some ⟨b, off, none⟩) len cap)] 52)).cell? ⟨w.heap.size, 6, none⟩ = some (.int .i64 x) := by simp [go_sem]
      have c7 : (w.alloc (.cells #[.int .i64 p, .int .i64 6, .int .i64 f, .int .i64 t, .int .i64 s, .int .i64 q, .int .i64 x, .int .i64 y, .int .i64 z, .int .i64 e, (.slice (some ⟨b, off, none⟩) len cap)] 52)).cell? ⟨w.heap.size, 7, none⟩ = some (.int .i64 y) := by simp [go_sem]
      have c8 : (w.alloc (.cells #[.int .i64 p, .int .i64 6, .int .i64 f, .int .i64 t, .int .i64 s, .int .i64 q, .int .i64 x, .int .i64 y, .int .i64 z, .int .i64 e, (.slice (some ⟨b, off, none⟩) len cap)] 52)).cell? ⟨w.heap.size, 8, none⟩ = some (.int .i64 z) := by simp [go_sem]
      have c9 : (w.alloc (.cells #[.int .i64 p, .int .i64 6, .int .i64 f, .int .i64 t, .int .i64 s, .int .i64 q, .int .i64 x, .int .i64 y, .int .i64 z, .int .i64 e, (.slice (some ⟨b, off, none⟩) len cap)] 52)).cell? ⟨w.heap.size, 9, none⟩ = some (.int .i64 e) := by simp [go_sem]
      have c10 : (w.alloc (.cells #[.int .i64 p, .int .i64 6, .int .i64 f, .int .i64 t, .int .i64 s, .int .i64 q, .int .i64 x, .int .i64 y, .int .i64 z, .int .i64 e, (.slice (some ⟨b, off, none⟩) len cap)] 52)).cell? ⟨w.heap.size, 10, none⟩ = some (.slice (some ⟨b, off, none⟩) len cap) := by simp [go_sem]
      have bw := balloc (.cells #[.int .i64 p, .int .i64 6, .int .i64 f, .int .i64 t, .int .i64 s, .int .i64 q, .int .i64 x, .int .i64 y, .int .i64 z, .int .i64 e, (.slice (some ⟨b, off, none⟩) len cap)] 52) (Below.refl w.heap.size w)
      generalize (w.alloc (.cells #[.int .i64 p, .int .i64 6, .int .i64 f, .int .i64 t, .int .i64 s, .int .i64 q, .int .i64 x, .int .i64 y, .int .i64 z, .int .i64 e, (.slice (some ⟨b, off, none⟩) len cap)] 52)) = W at *
      have c11 := first_cell (hf.below bw hbl) h0
      have hfw := hfs.below (Below.drew bw)
      refine wp_region_held_drew (S := (fun w' => w'.cell? ⟨w.heap.size, 0, none⟩ = some (.int .i64 p) ∧ w'.cell? ⟨w.heap.size, 1, none⟩ = some (.int .i64 6) ∧ w'.cell? ⟨w.heap.size, 2, none⟩ = some (.int .i64 f) ∧ w'.cell? ⟨w.heap.size, 3, none⟩ = some (.int .i64 t) ∧ w'.cell? ⟨w.heap.size, 4, none⟩ = some (.int .i64 s) ∧ w'.cell? ⟨w.heap.size, 5, none⟩ = some (.int .i64 q) ∧ w'.cell? ⟨w.heap.size, 6, none⟩ = some (.int .i64 x) ∧ w'.cell? ⟨w.heap.size, 7, none⟩ = some (.int .i64 y) ∧ w'.cell? ⟨w.heap.size, 8, none⟩ = some (.int .i64 z) ∧ w'.cell? ⟨w.heap.size, 9, none⟩ = some (.int .i64 e) ∧ w'.cell? ⟨w.heap.size, 10, none⟩ = some (.slice (some ⟨b, off, none⟩) len cap) ∧ w'.cell? ⟨b, off, none⟩ = some (.int .i64 (F 0).n))) (by kernel_rfl) ?_ (fun hHeld => ?_)
      · (try dsimp only); (refine ⟨?_, ?_, ?_, ?_, ?_, ?_, ?_, ?_, ?_, ?_, ?_, ?_⟩ <;> (repeat (first | with_reducible assumption | with_reducible refine keep_drew ?_ | with_reducible refine keep_below (by assumption) ?_)))
      refine tlQ (i := 0) (oi := { dst := some 6, op := .fieldAddr 52 (.tmp 1) 7, type := 0, pos := "l4_word.go:204", after := #[], guard := none }) ?_; try simp only [putP]; refine tlQ (i := 1) (oi := { dst := some 7, op := .load 35 (.tmp 6), type := 35, pos := "l4_word.go:204", after := #[{ on := 0, ground := .data }], guard := none }) ?_; try simp only [putP]; refine tlQ (i := 2) (oi := { dst := some 8, op := .call { callee := .builtin .len, args := #[.tmp 7], argTypes := #[35] }, type := 3, pos := "l4_word.go:204", after := #[{ on := 1, ground := .data }], guard := none }) ?_; try simp only [putP]; refine tlQ (i := 3) (oi := { dst := some 9, op := .binOp .gtr 3 (.tmp 8) (.const (.int .i64 0)) 3, type := 4, pos := "l4_word.go:204", after := #[{ on := 2, ground := .data }], guard := none }) ?_; try simp only [putP]; refine tlQ (i := 4) (oi := { dst := some 10, op := .move (.tmp 9), type := 4, pos := "l4_word.go:204", after := #[{ on := 3, ground := .data }], guard := none }) ?_; try simp only [putP]; refine tlQ (i := 5) (oi := { dst := some 11, op := .fieldAddr 52 (.tmp 1) 7, type := 0, pos := "l4_word.go:204", after := #[{ on := 4, ground := .guard }], guard := some (4, true) }) ?_; try simp only [putP]; refine tlQ (i := 6) (oi := { dst := some 12, op := .load 35 (.tmp 11), type := 35, pos := "l4_word.go:204", after := #[{ on := 5, ground := .data }, { on := 4, ground := .guard }], guard := some (4, true) }) ?_; try simp only [putP]; refine tlQ (i := 7) (oi := { dst := some 13, op := .fieldAddr 52 (.tmp 1) 7, type := 0, pos := "l4_word.go:204", after := #[{ on := 4, ground := .guard }], guard := some (4, true) }) ?_; try simp only [putP]; refine tlQ (i := 8) (oi := { dst := some 14, op := .load 35 (.tmp 13), type := 35, pos := "l4_word.go:204", after := #[{ on := 7, ground := .data }, { on := 4, ground := .guard }], guard := some (4, true) }) ?_; try simp only [putP]; refine tlQ (i := 9) (oi := { dst := some 15, op := .indexAddr 35 (.tmp 14) (.const (.int .i64 0)), type := 0, pos := "l4_word.go:204", after := #[{ on := 8, ground := .data }, { on := 4, ground := .guard }], guard := some (4, true) }) ?_; try simp only [putP]; refine tlQ (i := 10) (oi := { dst := some 16, op := .fieldAddr 119 (.tmp 15) 0, type := 0, pos := "l4_word.go:204", after := #[{ on := 9, ground := .data }, { on := 4, ground := .guard }], guard := some (4, true) }) ?_; try simp only [putP]; refine tlQ (i := 11) (oi := { dst := some 17, op := .load 3 (.tmp 16), type := 3, pos := "l4_word.go:204", after := #[{ on := 10, ground := .data }, { on := 4, ground := .guard }], guard := some (4, true) }) ?_; try simp only [putP]
      refine wpAnyH_ready (rs := [12]) (by kernel_rfl) (by simp) ?_
      refine AllReadyH.cons (o := { dst := some 18, op := .call { callee := .value (.func 127), args := #[.tmp 17], argTypes := #[3] }, type := 3, pos := "l4_word.go:204", after := #[{ on := 11, ground := .data }, { on := 4, ground := .chain }, { on := 4, ground := .guard }], guard := some (4, true) }) rfl (fun K hK => ?_) AllReadyH.nil
      go_simp
      (refine (siteOf_any (F 0).n _).mono ?_; rintro e w1 ⟨rfl, hw⟩; obtain rfl := hw.symm)
      go_wp2_with fail
      refine hK.out _ _ ?_ (fun hHeld => ?_)
      · (try dsimp only); (refine ⟨?_, ?_, ?_, ?_, ?_, ?_, ?_, ?_, ?_, ?_, ?_, ?_⟩ <;> (repeat (first | with_reducible assumption | with_reducible refine keep_drew ?_ | with_reducible refine keep_below (by assumption) ?_)))
      clear hK K
      (try simp only [putP])
      refine wpAnyH_ready (rs := [13]) (by kernel_rfl) (by simp) ?_
      refine AllReadyH.cons (o := { dst := some 19, op := .call { callee := .value (.func 103), args := #[.tmp 12, .tmp 18], argTypes := #[35, 3] }, type := 4, pos := "l4_word.go:204", after := #[{ on := 6, ground := .data }, { on := 12, ground := .data }, { on := 12, ground := .chain }, { on := 4, ground := .guard }], guard := some (4, true) }) rfl (fun K hK => ?_) AllReadyH.nil
      go_simp
      (refine (allOf_any _ len cap F (ste (F 0).n) _ hfw hl).mono ?_; rintro e w2 ⟨rfl, b2⟩)
      go_wp2_with fail
      refine hK.out _ _ ?_ (fun hHeld => ?_)
      · (try dsimp only); (refine ⟨?_, ?_, ?_, ?_, ?_, ?_, ?_, ?_, ?_, ?_, ?_, ?_⟩ <;> (repeat (first | with_reducible assumption | with_reducible refine keep_drew ?_ | with_reducible refine keep_below (by assumption) ?_)))
      clear hK K
      (try simp only [putP]); refine tlQ (i := 14) (oi := { dst := some 20, op := .pick (.tmp 10) (.tmp 19) (.const (.bool false)), type := 4, pos := "l4_word.go:204", after := #[{ on := 4, ground := .data }, { on := 13, ground := .data }], guard := none }) ?_; try simp only [putP]; refine tlQ (i := 15) (oi := { dst := some 2, op := .assign (.tmp 20), type := 4, pos := "l4_word.go:204", after := #[{ on := 14, ground := .data }, { on := 13, ground := .chain }, { on := 0, ground := .phase }, { on := 1, ground := .phase }, { on := 2, ground := .phase }, { on := 3, ground := .phase }, { on := 4, ground := .phase }, { on := 5, ground := .phase }, { on := 6, ground := .phase }, { on := 7, ground := .phase }, { on := 8, ground := .phase }, { on := 9, ground := .phase }, { on := 10, ground := .phase }, { on := 11, ground := .phase }, { on := 12, ground := .phase }, { on := 13, ground := .phase }, { on := 14, ground := .phase }], guard := none }) ?_; try simp only [putP]
      refine wpAnyH_done (by kernel_rfl) ?_ _
      go_wp2
      go_ret
      exact ⟨ret_bool (by unfold wsB; simp [h0]), btrans bw.drew b2⟩
  · go_enter Tryz.func165, Tryz.ntmps165
    go_wp2_with fail
    have c0 : (w.alloc (.cells #[.int .i64 p, .int .i64 k, .int .i64 f, .int .i64 t, .int .i64 s, .int .i64 q, .int .i64 x, .int .i64 y, .int .i64 z, .int .i64 e, (.slice a len cap)] 52)).cell? ⟨w.heap.size, 0, none⟩ = some (.int .i64 p) := by simp [go_sem]
    have c1 : (w.alloc (.cells #[.int .i64 p, .int .i64 k, .int .i64 f, .int .i64 t, .int .i64 s, .int .i64 q, .int .i64 x, .int .i64 y, .int .i64 z, .int .i64 e, (.slice a len cap)] 52)).cell? ⟨w.heap.size, 1, none⟩ = some (.int .i64 k) := by simp [go_sem]
    have c2 : (w.alloc (.cells #[.int .i64 p, .int .i64 k, .int .i64 f, .int .i64 t, .int .i64 s, .int .i64 q, .int .i64 x, .int .i64 y, .int .i64 z, .int .i64 e, (.slice a len cap)] 52)).cell? ⟨w.heap.size, 2, none⟩ = some (.int .i64 f) := by simp [go_sem]
    have c3 : (w.alloc (.cells #[.int .i64 p, .int .i64 k, .int .i64 f, .int .i64 t, .int .i64 s, .int .i64 q, .int .i64 x, .int .i64 y, .int .i64 z, .int .i64 e, (.slice a len cap)] 52)).cell? ⟨w.heap.size, 3, none⟩ = some (.int .i64 t) := by simp [go_sem]
    have c4 : (w.alloc (.cells #[.int .i64 p, .int .i64 k, .int .i64 f, .int .i64 t, .int .i64 s, .int .i64 q, .int .i64 x, .int .i64 y, .int .i64 z, .int .i64 e, (.slice a len cap)] 52)).cell? ⟨w.heap.size, 4, none⟩ = some (.int .i64 s) := by simp [go_sem]
    have c5 : (w.alloc (.cells #[.int .i64 p, .int .i64 k, .int .i64 f, .int .i64 t, .int .i64 s, .int .i64 q, .int .i64 x, .int .i64 y, .int .i64 z, .int .i64 e, (.slice a len cap)] 52)).cell? ⟨w.heap.size, 5, none⟩ = some (.int .i64 q) := by simp [go_sem]
    have c6 : (w.alloc (.cells #[.int .i64 p, .int .i64 k, .int .i64 f, .int .i64 t, .int .i64 s, .int .i64 q, .int .i64 x, .int .i64 y, .int .i64 z, .int .i64 e, (.slice a len cap)] 52)).cell? ⟨w.heap.size, 6, none⟩ = some (.int .i64 x) := by simp [go_sem]
    have c7 : (w.alloc (.cells #[.int .i64 p, .int .i64 k, .int .i64 f, .int .i64 t, .int .i64 s, .int .i64 q, .int .i64 x, .int .i64 y, .int .i64 z, .int .i64 e, (.slice a len cap)] 52)).cell? ⟨w.heap.size, 7, none⟩ = some (.int .i64 y) := by simp [go_sem]
    have c8 : (w.alloc (.cells #[.int .i64 p, .int .i64 k, .int .i64 f, .int .i64 t, .int .i64 s, .int .i64 q, .int .i64 x, .int .i64 y, .int .i64 z, .int .i64 e, (.slice a len cap)] 52)).cell? ⟨w.heap.size, 8, none⟩ = some (.int .i64 z) := by simp [go_sem]
    have c9 : (w.alloc (.cells #[.int .i64 p, .int .i64 k, .int .i64 f, .int .i64 t, .int .i64 s, .int .i64 q, .int .i64 x, .int .i64 y, .int .i64 z, .int .i64 e, (.slice a len cap)] 52)).cell? ⟨w.heap.size, 9, none⟩ = some (.int .i64 e) := by simp [go_sem]
    have c10 : (w.alloc (.cells #[.int .i64 p, .int .i64 k, .int .i64 f, .int .i64 t, .int .i64 s, .int .i64 q, .int .i64 x, .int .i64 y, .int .i64 z, .int .i64 e, (.slice a len cap)] 52)).cell? ⟨w.heap.size, 10, none⟩ = some (.slice a len cap) := by simp [go_sem]
    have bw := balloc (.cells #[.int .i64 p, .int .i64 k, .int .i64 f, .int .i64 t, .int .i64 s, .int .i64 q, .int .i64 x, .int .i64 y, .int .i64 z, .int .i64 e, (.slice a len cap)] 52) (Below.refl w.heap.size w)
    generalize (w.alloc (.cells #[.int .i64 p, .int .i64 k, .int .i64 f, .int .i64 t, .int .i64 s, .int .i64 q, .int .i64 x, .int .i64 y, .int .i64 z, .int .i64 e, (.slice a len cap)] 52)) = W at *
    have hfw := h.below (Below.drew bw)
    refine wp_region_held_drew (S := (fun w' => w'.cell? ⟨w.heap.size, 0, none⟩ = some (.int .i64 p) ∧ w'.cell? ⟨w.heap.size, 1, none⟩ = some (.int .i64 k) ∧ w'.cell? ⟨w.heap.size, 2, none⟩ = some (.int .i64 f) ∧ w'.cell? ⟨w.heap.size, 3, none⟩ = some (.int .i64 t) ∧ w'.cell? ⟨w.heap.size, 4, none⟩ = some (.int .i64 s) ∧ w'.cell? ⟨w.heap.size, 5, none⟩ = some (.int .i64 q) ∧ w'.cell? ⟨w.heap.size, 6, none⟩ = some (.int .i64 x) ∧ w'.cell? ⟨w.heap.size, 7, none⟩ = some (.int .i64 y) ∧ w'.cell? ⟨w.heap.size, 8, none⟩ = some (.int .i64 z) ∧ w'.cell? ⟨w.heap.size, 9, none⟩ = some (.int .i64 e) ∧ w'.cell? ⟨w.heap.size, 10, none⟩ = some (.slice a len cap))) (by kernel_rfl) ?_ (fun hHeld => ?_)
    · (try dsimp only); (refine ⟨?_, ?_, ?_, ?_, ?_, ?_, ?_, ?_, ?_, ?_, ?_⟩ <;> (repeat (first | with_reducible assumption | with_reducible refine keep_drew ?_ | with_reducible refine keep_below (by assumption) ?_)))
    refine tlQ (i := 0) (oi := { dst := some 21, op := .fieldAddr 52 (.tmp 1) 7, type := 0, pos := "l4_word.go:206", after := #[], guard := none }) ?_; try simp only [putP]; refine tlQ (i := 1) (oi := { dst := some 22, op := .load 35 (.tmp 21), type := 35, pos := "l4_word.go:206", after := #[{ on := 0, ground := .data }], guard := none }) ?_; try simp only [putP]; refine tlQ (i := 2) (oi := { dst := some 23, op := .fieldAddr 52 (.tmp 1) 2, type := 0, pos := "l4_word.go:206", after := #[], guard := none }) ?_; try simp only [putP]; refine tlQ (i := 3) (oi := { dst := some 24, op := .load 3 (.tmp 23), type := 3, pos := "l4_word.go:206", after := #[{ on := 2, ground := .data }], guard := none }) ?_; try simp only [putP]
    refine wpAnyH_ready (rs := [4]) (by kernel_rfl) (by simp) ?_
    refine AllReadyH.cons (o := { dst := some 25, op := .call { callee := .value (.func 127), args := #[.tmp 24], argTypes := #[3] }, type := 3, pos := "l4_word.go:206", after := #[{ on := 3, ground := .data }], guard := none }) rfl (fun K hK => ?_) AllReadyH.nil
    go_simp
    (refine (siteOf_any f _).mono ?_; rintro e w1 ⟨rfl, hw⟩; obtain rfl := hw.symm)
    go_wp2_with fail
    refine hK.out _ _ ?_ (fun hHeld => ?_)
    · (try dsimp only); (refine ⟨?_, ?_, ?_, ?_, ?_, ?_, ?_, ?_, ?_, ?_, ?_⟩ <;> (repeat (first | with_reducible assumption | with_reducible refine keep_drew ?_ | with_reducible refine keep_below (by assumption) ?_)))
    clear hK K
    (try simp only [putP])
    refine wpAnyH_ready (rs := [5]) (by kernel_rfl) (by simp) ?_
    refine AllReadyH.cons (o := { dst := some 26, op := .call { callee := .value (.func 103), args := #[.tmp 22, .tmp 25], argTypes := #[35, 3] }, type := 4, pos := "l4_word.go:206", after := #[{ on := 1, ground := .data }, { on := 4, ground := .data }, { on := 4, ground := .chain }], guard := none }) rfl (fun K hK => ?_) AllReadyH.nil
    go_simp
    (refine (allOf_any _ len cap F (ste f) _ hfw hl).mono ?_; rintro e w2 ⟨rfl, b2⟩)
    go_wp2_with fail
    refine hK.out _ _ ?_ (fun hHeld => ?_)
    · (try dsimp only); (refine ⟨?_, ?_, ?_, ?_, ?_, ?_, ?_, ?_, ?_, ?_, ?_⟩ <;> (repeat (first | with_reducible assumption | with_reducible refine keep_drew ?_ | with_reducible refine keep_below (by assumption) ?_)))
    clear hK K
    (try simp only [putP]); refine tlQ (i := 6) (oi := { dst := some 2, op := .assign (.tmp 26), type := 4, pos := "l4_word.go:206", after := #[{ on := 5, ground := .data }, { on := 5, ground := .chain }, { on := 0, ground := .phase }, { on := 1, ground := .phase }, { on := 2, ground := .phase }, { on := 3, ground := .phase }, { on := 4, ground := .phase }, { on := 5, ground := .phase }], guard := none }) ?_; try simp only [putP]
    refine wpAnyH_done (by kernel_rfl) ?_ _
    go_wp2
    go_ret
    exact ⟨ret_bool (by unfold wsB; rw [if_neg hk]), btrans bw.drew b2⟩
theorem ste_eq (n : Int) : IntKind.i64.wrap (n.tdiv 4) = ste n := by unfold ste wrap64; exact IntKind.wrap_i64 _
set_option maxRecDepth 10000 in
set_option maxHeartbeats 8000000 in
theorem wok_any (p k f t s q x y z e : Int) (a : Option Addr) (len cap : Nat) (F : Nat → Fc) (w : World) (h : FSl w a len F) (hl : len ≤ 1048576) :
    Calls Tryz.prog 133 #[.agg #[.int .i64 p, .int .i64 k, .int .i64 f, .int .i64 t, .int .i64 s, .int .i64 q, .int .i64 x, .int .i64 y, .int .i64 z, .int .i64 e, (.slice a len cap)]] w fun r w' => r = .returned (.bool (wokB p k f t s q x y z e len F)) ∧ Below w.heap.size w w' := by
  go_enter Tryz.func133, Tryz.ntmps133
  go_wp2_with fail
  have bw := balloc (.cells #[.int .i64 p, .int .i64 k, .int .i64 f, .int .i64 t, .int .i64 s, .int .i64 q, .int .i64 x, .int .i64 y, .int .i64 z, .int .i64 e, (.slice a len cap)] 52) (Below.refl w.heap.size w)
  have c0 : (w.alloc (.cells #[.int .i64 p, .int .i64 k, .int .i64 f, .int .i64 t, .int .i64 s, .int .i64 q, .int .i64 x, .int .i64 y, .int .i64 z, .int .i64 e, (.slice a len cap)] 52)).cell? ⟨w.heap.size, 0, none⟩ = some (.int .i64 p) := by simp [go_sem]
  have c1 : (w.alloc (.cells #[.int .i64 p, .int .i64 k, .int .i64 f, .int .i64 t, .int .i64 s, .int .i64 q, .int .i64 x, .int .i64 y, .int .i64 z, .int .i64 e, (.slice a len cap)] 52)).cell? ⟨w.heap.size, 1, none⟩ = some (.int .i64 k) := by simp [go_sem]
  have c2 : (w.alloc (.cells #[.int .i64 p, .int .i64 k, .int .i64 f, .int .i64 t, .int .i64 s, .int .i64 q, .int .i64 x, .int .i64 y, .int .i64 z, .int .i64 e, (.slice a len cap)] 52)).cell? ⟨w.heap.size, 2, none⟩ = some (.int .i64 f) := by simp [go_sem]
  have c3 : (w.alloc (.cells #[.int .i64 p, .int .i64 k, .int .i64 f, .int .i64 t, .int .i64 s, .int .i64 q, .int .i64 x, .int .i64 y, .int .i64 z, .int .i64 e, (.slice a len cap)] 52)).cell? ⟨w.heap.size, 3, none⟩ = some (.int .i64 t) := by simp [go_sem]
  have c4 : (w.alloc (.cells #[.int .i64 p, .int .i64 k, .int .i64 f, .int .i64 t, .int .i64 s, .int .i64 q, .int .i64 x, .int .i64 y, .int .i64 z, .int .i64 e, (.slice a len cap)] 52)).cell? ⟨w.heap.size, 4, none⟩ = some (.int .i64 s) := by simp [go_sem]
  have c5 : (w.alloc (.cells #[.int .i64 p, .int .i64 k, .int .i64 f, .int .i64 t, .int .i64 s, .int .i64 q, .int .i64 x, .int .i64 y, .int .i64 z, .int .i64 e, (.slice a len cap)] 52)).cell? ⟨w.heap.size, 5, none⟩ = some (.int .i64 q) := by simp [go_sem]
  have c6 : (w.alloc (.cells #[.int .i64 p, .int .i64 k, .int .i64 f, .int .i64 t, .int .i64 s, .int .i64 q, .int .i64 x, .int .i64 y, .int .i64 z, .int .i64 e, (.slice a len cap)] 52)).cell? ⟨w.heap.size, 6, none⟩ = some (.int .i64 x) := by simp [go_sem]
  have c7 : (w.alloc (.cells #[.int .i64 p, .int .i64 k, .int .i64 f, .int .i64 t, .int .i64 s, .int .i64 q, .int .i64 x, .int .i64 y, .int .i64 z, .int .i64 e, (.slice a len cap)] 52)).cell? ⟨w.heap.size, 7, none⟩ = some (.int .i64 y) := by simp [go_sem]
  have c8 : (w.alloc (.cells #[.int .i64 p, .int .i64 k, .int .i64 f, .int .i64 t, .int .i64 s, .int .i64 q, .int .i64 x, .int .i64 y, .int .i64 z, .int .i64 e, (.slice a len cap)] 52)).cell? ⟨w.heap.size, 8, none⟩ = some (.int .i64 z) := by simp [go_sem]
  have c9 : (w.alloc (.cells #[.int .i64 p, .int .i64 k, .int .i64 f, .int .i64 t, .int .i64 s, .int .i64 q, .int .i64 x, .int .i64 y, .int .i64 z, .int .i64 e, (.slice a len cap)] 52)).cell? ⟨w.heap.size, 9, none⟩ = some (.int .i64 e) := by simp [go_sem]
  have c10 : (w.alloc (.cells #[.int .i64 p, .int .i64 k, .int .i64 f, .int .i64 t, .int .i64 s, .int .i64 q, .int .i64 x, .int .i64 y, .int .i64 z, .int .i64 e, (.slice a len cap)] 52)).cell? ⟨w.heap.size, 10, none⟩ = some (.slice a len cap) := by simp [go_sem]
  have hfw := h.below bw
  generalize (w.alloc (.cells #[.int .i64 p, .int .i64 k, .int .i64 f, .int .i64 t, .int .i64 s, .int .i64 q, .int .i64 x, .int .i64 y, .int .i64 z, .int .i64 e, (.slice a len cap)] 52)) = W at *
  refine (within_any p 1 2 _).mono ?_
  rintro r w1 ⟨rfl, hw1⟩
  obtain rfl := hw1.symm
  clear hw1
  cases z1 : inb p 1 2
  · have y1 : Hid (inb p 1 2 = false) := z1
    clear z1 c0 c1 c2 c3 c4 c5 c6 c7 c8 c9 c10 hfw
    go_wp2
    go_ret
    refine ⟨ret_bool ?_, bw⟩
    unfold wokB preB
    rw [y1.out]
    simp
  · have y1 : Hid (inb p 1 2 = true) := z1
    clear z1
    go_wp2_with fail
    refine (within_any k 1 6 _).mono ?_
    rintro r w2 ⟨rfl, hw2⟩
    obtain rfl := hw2.symm
    clear hw2
    cases z2 : inb k 1 6
    · have y2 : Hid (inb k 1 6 = false) := z2
      clear z2 c0 c1 c2 c3 c4 c5 c6 c7 c8 c9 c10 hfw
      go_wp2
      go_ret
      refine ⟨ret_bool ?_, bw⟩
      unfold wokB preB
      rw [y2.out]
      simp
    · have y2 : Hid (inb k 1 6 = true) := z2
      clear z2
      go_wp2_with fail
      refine (nodeOk_any f _).mono ?_
      rintro r w3 ⟨rfl, hw3⟩
      obtain rfl := hw3.symm
      clear hw3
      cases z3 : inb f 0 7
      · have y3 : Hid (inb f 0 7 = false) := z3
        clear z3 c0 c1 c2 c3 c4 c5 c6 c7 c8 c9 c10 hfw
        go_wp2
        go_ret
        refine ⟨ret_bool ?_, bw⟩
        unfold wokB preB
        rw [y3.out]
        simp
      · have y3 : Hid (inb f 0 7 = true) := z3
        clear z3
        go_wp2_with fail
        refine (nodeOk_any t _).mono ?_
        rintro r w4 ⟨rfl, hw4⟩
        obtain rfl := hw4.symm
        clear hw4
        cases z4 : inb t 0 7
        · have y4 : Hid (inb t 0 7 = false) := z4
          clear z4 c0 c1 c2 c3 c4 c5 c6 c7 c8 c9 c10 hfw
          go_wp2
          go_ret
          refine ⟨ret_bool ?_, bw⟩
          unfold wokB preB
          rw [y4.out]
          simp
        · have y4 : Hid (inb t 0 7 = true) := z4
          clear z4
          go_wp2_with fail
          refine (nodeOk_any q _).mono ?_
          rintro r w5 ⟨rfl, hw5⟩
          obtain rfl := hw5.symm
          clear hw5
          cases z5 : inb q 0 7
          · have y5 : Hid (inb q 0 7 = false) := z5
            clear z5 c0 c1 c2 c3 c4 c5 c6 c7 c8 c9 c10 hfw
            go_wp2
            go_ret
            refine ⟨ret_bool ?_, bw⟩
            unfold wokB preB
            rw [y5.out]
            simp
          · have y5 : Hid (inb q 0 7 = true) := z5
            clear z5
            go_wp2_with fail
            refine (within_any s 0 999999 _).mono ?_
            rintro r w6 ⟨rfl, hw6⟩
            obtain rfl := hw6.symm
            clear hw6
            cases z6 : inb s 0 999999
            · have y6 : Hid (inb s 0 999999 = false) := z6
              clear z6 c0 c1 c2 c3 c4 c5 c6 c7 c8 c9 c10 hfw
              go_wp2
              go_ret
              refine ⟨ret_bool ?_, bw⟩
              unfold wokB preB
              rw [y6.out]
              simp
            · have y6 : Hid (inb s 0 999999 = true) := z6
              clear z6
              go_wp2_with fail
              refine (fcok_any x y z e _).mono ?_
              rintro r w7 ⟨rfl, b7⟩
              replace c0 := keep_below b7 c0
              replace c1 := keep_below b7 c1
              replace c2 := keep_below b7 c2
              replace c3 := keep_below b7 c3
              replace c4 := keep_below b7 c4
              replace c5 := keep_below b7 c5
              replace c6 := keep_below b7 c6
              replace c7 := keep_below b7 c7
              replace c8 := keep_below b7 c8
              replace c9 := keep_below b7 c9
              replace c10 := keep_below b7 c10
              have B7 := btrans bw b7
              have hf7 := hfw.below b7
              clear b7 hfw bw
              cases z7 : cok x y z e
              · have y7 : Hid (cok x y z e = false) := z7
                clear z7 c0 c1 c2 c3 c4 c5 c6 c7 c8 c9 c10 hf7
                go_wp2
                go_ret
                refine ⟨ret_bool ?_, B7⟩
                unfold wokB preB
                rw [y7.out]
                simp
              · have y7 : Hid (cok x y z e = true) := z7
                clear z7
                go_wp2_with fail
                refine (tok_any a len cap F _ hf7 hl).mono ?_
                rintro r w8 ⟨rfl, b8⟩
                replace c0 := keep_below b8 c0
                replace c1 := keep_below b8 c1
                replace c2 := keep_below b8 c2
                replace c3 := keep_below b8 c3
                replace c4 := keep_below b8 c4
                replace c5 := keep_below b8 c5
                replace c6 := keep_below b8 c6
                replace c7 := keep_below b8 c7
                replace c8 := keep_below b8 c8
                replace c9 := keep_below b8 c9
                replace c10 := keep_below b8 c10
                have B8 := btrans B7 b8
                have hf8 := hf7.below b8
                clear b8 hf7 B7
                cases z8 : tokB len F
                · have y8 : Hid (tokB len F = false) := z8
                  clear z8 c0 c1 c2 c3 c4 c5 c6 c7 c8 c9 c10 hf8
                  go_wp2
                  go_ret
                  refine ⟨ret_bool ?_, B8⟩
                  unfold wokB preB
                  rw [y8.out]
                  simp
                · have y8 : Hid (tokB len F = true) := z8
                  clear z8
                  go_wp2_with fail
                  refine (sites_any p k f t s q x y z e a len cap F _ hf8 hl).mono ?_
                  rintro r w9 ⟨rfl, b9⟩
                  go_wp2
                  go_ret
                  refine ⟨ret_bool ?_, btrans B8 b9⟩
                  unfold wokB preB
                  rw [y1.out, y2.out, y3.out, y4.out, y5.out, y6.out, y7.out, y8.out]
                  simp
set_option maxRecDepth 10000 in
set_option maxHeartbeats 8000000 in
theorem swok_any (p k f t s q x y z e : Int) (a : Option Addr) (len cap : Nat) (F : Nat → Fc) (w : World) (h : FSl w a len F) (hl : len ≤ 1048576) :
    Calls Tryz.prog 67 #[.agg #[.int .i64 p, .int .i64 k, .int .i64 f, .int .i64 t, .int .i64 s, .int .i64 q, .int .i64 x, .int .i64 y, .int .i64 z, .int .i64 e, (.slice a len cap)]] w fun r w' => r = .returned (.bool (wokB p k f t s q x y z e len F)) ∧ Below w.heap.size w w' := by
  go_enter Tryz.func67, Tryz.ntmps67
  go_wp2_with fail
  have bw := balloc (.cells #[.int .i64 p, .int .i64 k, .int .i64 f, .int .i64 t, .int .i64 s, .int .i64 q, .int .i64 x, .int .i64 y, .int .i64 z, .int .i64 e, (.slice a len cap)] 52) (Below.refl w.heap.size w)
  have c0 : (w.alloc (.cells #[.int .i64 p, .int .i64 k, .int .i64 f, .int .i64 t, .int .i64 s, .int .i64 q, .int .i64 x, .int .i64 y, .int .i64 z, .int .i64 e, (.slice a len cap)] 52)).cell? ⟨w.heap.size, 0, none⟩ = some (.int .i64 p) := by simp [go_sem]
  have c1 : (w.alloc (.cells #[.int .i64 p, .int .i64 k, .int .i64 f, .int .i64 t, .int .i64 s, .int .i64 q, .int .i64 x, .int .i64 y, .int .i64 z, .int .i64 e, (.slice a len cap)] 52)).cell? ⟨w.heap.size, 1, none⟩ = some (.int .i64 k) := by simp [go_sem]
  have c2 : (w.alloc (.cells #[.int .i64 p, .int .i64 k, .int .i64 f, .int .i64 t, .int .i64 s, .int .i64 q, .int .i64 x, .int .i64 y, .int .i64 z, .int .i64 e, (.slice a len cap)] 52)).cell? ⟨w.heap.size, 2, none⟩ = some (.int .i64 f) := by simp [go_sem]
  have c3 : (w.alloc (.cells #[.int .i64 p, .int .i64 k, .int .i64 f, .int .i64 t, .int .i64 s, .int .i64 q, .int .i64 x, .int .i64 y, .int .i64 z, .int .i64 e, (.slice a len cap)] 52)).cell? ⟨w.heap.size, 3, none⟩ = some (.int .i64 t) := by simp [go_sem]
  have c4 : (w.alloc (.cells #[.int .i64 p, .int .i64 k, .int .i64 f, .int .i64 t, .int .i64 s, .int .i64 q, .int .i64 x, .int .i64 y, .int .i64 z, .int .i64 e, (.slice a len cap)] 52)).cell? ⟨w.heap.size, 4, none⟩ = some (.int .i64 s) := by simp [go_sem]
  have c5 : (w.alloc (.cells #[.int .i64 p, .int .i64 k, .int .i64 f, .int .i64 t, .int .i64 s, .int .i64 q, .int .i64 x, .int .i64 y, .int .i64 z, .int .i64 e, (.slice a len cap)] 52)).cell? ⟨w.heap.size, 5, none⟩ = some (.int .i64 q) := by simp [go_sem]
  have c6 : (w.alloc (.cells #[.int .i64 p, .int .i64 k, .int .i64 f, .int .i64 t, .int .i64 s, .int .i64 q, .int .i64 x, .int .i64 y, .int .i64 z, .int .i64 e, (.slice a len cap)] 52)).cell? ⟨w.heap.size, 6, none⟩ = some (.int .i64 x) := by simp [go_sem]
  have c7 : (w.alloc (.cells #[.int .i64 p, .int .i64 k, .int .i64 f, .int .i64 t, .int .i64 s, .int .i64 q, .int .i64 x, .int .i64 y, .int .i64 z, .int .i64 e, (.slice a len cap)] 52)).cell? ⟨w.heap.size, 7, none⟩ = some (.int .i64 y) := by simp [go_sem]
  have c8 : (w.alloc (.cells #[.int .i64 p, .int .i64 k, .int .i64 f, .int .i64 t, .int .i64 s, .int .i64 q, .int .i64 x, .int .i64 y, .int .i64 z, .int .i64 e, (.slice a len cap)] 52)).cell? ⟨w.heap.size, 8, none⟩ = some (.int .i64 z) := by simp [go_sem]
  have c9 : (w.alloc (.cells #[.int .i64 p, .int .i64 k, .int .i64 f, .int .i64 t, .int .i64 s, .int .i64 q, .int .i64 x, .int .i64 y, .int .i64 z, .int .i64 e, (.slice a len cap)] 52)).cell? ⟨w.heap.size, 9, none⟩ = some (.int .i64 e) := by simp [go_sem]
  have c10 : (w.alloc (.cells #[.int .i64 p, .int .i64 k, .int .i64 f, .int .i64 t, .int .i64 s, .int .i64 q, .int .i64 x, .int .i64 y, .int .i64 z, .int .i64 e, (.slice a len cap)] 52)).cell? ⟨w.heap.size, 10, none⟩ = some (.slice a len cap) := by simp [go_sem]
  have hfw := h.below bw
  generalize (w.alloc (.cells #[.int .i64 p, .int .i64 k, .int .i64 f, .int .i64 t, .int .i64 s, .int .i64 q, .int .i64 x, .int .i64 y, .int .i64 z, .int .i64 e, (.slice a len cap)] 52)) = W at *
  refine (lin_any p 1 2 _).mono ?_
  rintro r w1 ⟨rfl, hw1⟩
  obtain rfl := hw1.symm
  clear hw1
  cases z1 : inb p 1 2
  · have y1 : Hid (inb p 1 2 = false) := z1
    clear z1 c0 c1 c2 c3 c4 c5 c6 c7 c8 c9 c10 hfw
    go_wp2
    go_ret
    refine ⟨ret_bool ?_, bw⟩
    unfold wokB preB
    rw [y1.out]
    simp
  · have y1 : Hid (inb p 1 2 = true) := z1
    clear z1
    go_wp2_with fail
    refine (lin_any k 1 6 _).mono ?_
    rintro r w2 ⟨rfl, hw2⟩
    obtain rfl := hw2.symm
    clear hw2
    cases z2 : inb k 1 6
    · have y2 : Hid (inb k 1 6 = false) := z2
      clear z2 c0 c1 c2 c3 c4 c5 c6 c7 c8 c9 c10 hfw
      go_wp2
      go_ret
      refine ⟨ret_bool ?_, bw⟩
      unfold wokB preB
      rw [y2.out]
      simp
    · have y2 : Hid (inb k 1 6 = true) := z2
      clear z2
      go_wp2_with fail
      refine (lin_any f 0 7 _).mono ?_
      rintro r w3 ⟨rfl, hw3⟩
      obtain rfl := hw3.symm
      clear hw3
      cases z3 : inb f 0 7
      · have y3 : Hid (inb f 0 7 = false) := z3
        clear z3 c0 c1 c2 c3 c4 c5 c6 c7 c8 c9 c10 hfw
        go_wp2
        go_ret
        refine ⟨ret_bool ?_, bw⟩
        unfold wokB preB
        rw [y3.out]
        simp
      · have y3 : Hid (inb f 0 7 = true) := z3
        clear z3
        go_wp2_with fail
        refine (lin_any t 0 7 _).mono ?_
        rintro r w4 ⟨rfl, hw4⟩
        obtain rfl := hw4.symm
        clear hw4
        cases z4 : inb t 0 7
        · have y4 : Hid (inb t 0 7 = false) := z4
          clear z4 c0 c1 c2 c3 c4 c5 c6 c7 c8 c9 c10 hfw
          go_wp2
          go_ret
          refine ⟨ret_bool ?_, bw⟩
          unfold wokB preB
          rw [y4.out]
          simp
        · have y4 : Hid (inb t 0 7 = true) := z4
          clear z4
          go_wp2_with fail
          refine (lin_any s 0 999999 _).mono ?_
          rintro r w5 ⟨rfl, hw5⟩
          obtain rfl := hw5.symm
          clear hw5
          cases z5 : inb s 0 999999
          · have y5 : Hid (inb s 0 999999 = false) := z5
            clear z5 c0 c1 c2 c3 c4 c5 c6 c7 c8 c9 c10 hfw
            go_wp2
            go_ret
            refine ⟨ret_bool ?_, bw⟩
            unfold wokB preB
            rw [y5.out]
            simp
          · have y5 : Hid (inb s 0 999999 = true) := z5
            clear z5
            go_wp2_with fail
            refine (lin_any q 0 7 _).mono ?_
            rintro r w6 ⟨rfl, hw6⟩
            obtain rfl := hw6.symm
            clear hw6
            cases z6 : inb q 0 7
            · have y6 : Hid (inb q 0 7 = false) := z6
              clear z6 c0 c1 c2 c3 c4 c5 c6 c7 c8 c9 c10 hfw
              go_wp2
              go_ret
              refine ⟨ret_bool ?_, bw⟩
              unfold wokB preB
              rw [y6.out]
              simp
            · have y6 : Hid (inb q 0 7 = true) := z6
              clear z6
              go_wp2_with fail
              refine (scoord_any x y z e _).mono ?_
              rintro r w7 ⟨rfl, b7⟩
              replace c0 := keep_below b7 c0
              replace c1 := keep_below b7 c1
              replace c2 := keep_below b7 c2
              replace c3 := keep_below b7 c3
              replace c4 := keep_below b7 c4
              replace c5 := keep_below b7 c5
              replace c6 := keep_below b7 c6
              replace c7 := keep_below b7 c7
              replace c8 := keep_below b7 c8
              replace c9 := keep_below b7 c9
              replace c10 := keep_below b7 c10
              have B7 := btrans bw b7
              have hf7 := hfw.below b7
              clear b7 hfw bw
              cases z7 : cok x y z e
              · have y7 : Hid (cok x y z e = false) := z7
                clear z7 c0 c1 c2 c3 c4 c5 c6 c7 c8 c9 c10 hf7
                go_wp2
                go_ret
                refine ⟨ret_bool ?_, B7⟩
                unfold wokB preB
                rw [y7.out]
                simp
              · have y7 : Hid (cok x y z e = true) := z7
                clear z7
                go_wp2_with fail
                refine (stok_any a len cap F _ hf7 hl).mono ?_
                rintro r w8 ⟨rfl, b8⟩
                replace c0 := keep_below b8 c0
                replace c1 := keep_below b8 c1
                replace c2 := keep_below b8 c2
                replace c3 := keep_below b8 c3
                replace c4 := keep_below b8 c4
                replace c5 := keep_below b8 c5
                replace c6 := keep_below b8 c6
                replace c7 := keep_below b8 c7
                replace c8 := keep_below b8 c8
                replace c9 := keep_below b8 c9
                replace c10 := keep_below b8 c10
                have B8 := btrans B7 b8
                have hf8 := hf7.below b8
                clear b8 hf7 B7
                cases z8 : tokB len F
                · have y8 : Hid (tokB len F = false) := z8
                  clear z8 c0 c1 c2 c3 c4 c5 c6 c7 c8 c9 c10 hf8
                  go_wp2
                  go_ret
                  refine ⟨ret_bool ?_, B8⟩
                  unfold wokB preB
                  rw [y8.out]
                  simp
                · have y8 : Hid (tokB len F = true) := z8
                  clear z8
                  have hwo : wokB p k f t s q x y z e len F = wsB len F k f := by
                    unfold wokB preB
                    rw [y1.out, y2.out, y3.out, y4.out, y5.out, y6.out, y7.out, y8.out]
                    simp
                  replace hwo : Hid (wokB p k f t s q x y z e len F = wsB len F k f) := hwo
                  by_cases hk : k = 6
                  · subst hk
                    rcases Nat.eq_zero_or_pos len with h0 | h0
                    · subst h0
                      go_wp2_with fail
                      refine wp_region_held_drew (S := (fun w' => w'.cell? ⟨w.heap.size, 0, none⟩ = some (.int .i64 p) ∧ w'.cell? ⟨w.heap.size, 1, none⟩ = some (.int .i64 6) ∧ w'.cell? ⟨w.heap.size, 2, none⟩ = some (.int .i64 f) ∧ w'.cell? ⟨w.heap.size, 3, none⟩ = some (.int .i64 t) ∧ w'.cell? ⟨w.heap.size, 4, none⟩ = some (.int .i64 s) ∧ w'.cell? ⟨w.heap.size, 5, none⟩ = some (.int .i64 q) ∧ w'.cell? ⟨w.heap.size, 6, none⟩ = some (.int .i64 x) ∧ w'.cell? ⟨w.heap.size, 7, none⟩ = some (.int .i64 y) ∧ w'.cell? ⟨w.heap.size, 8, none⟩ = some (.int .i64 z) ∧ w'.cell? ⟨w.heap.size, 9, none⟩ = some (.int .i64 e) ∧ w'.cell? ⟨w.heap.size, 10, none⟩ = some (.slice a 0 cap))) (by kernel_rfl) ?_ (fun hHeld => ?_)
                      · (try dsimp only); (refine ⟨?_, ?_, ?_, ?_, ?_, ?_, ?_, ?_, ?_, ?_, ?_⟩ <;> (repeat (first | with_reducible assumption | with_reducible refine keep_drew ?_ | with_reducible refine keep_below (by assumption) ?_)))
                      refine tlQ (i := 0) (oi := { dst := some 52, op := .fieldAddr 52 (.tmp 1) 7, type := 0, pos := "l4_word.go:58", after := #[], guard := none }) ?_; try simp only [putP]; refine tlQ (i := 1) (oi := { dst := some 53, op := .load 35 (.tmp 52), type := 35, pos := "l4_word.go:58", after := #[{ on := 0, ground := .data }], guard := none }) ?_; try simp only [putP]; refine tlQ (i := 2) (oi := { dst := some 54, op := .call { callee := .builtin .len, args := #[.tmp 53], argTypes := #[35] }, type := 3, pos := "l4_word.go:58", after := #[{ on := 1, ground := .data }], guard := none }) ?_; try simp only [putP]; refine tlQ (i := 3) (oi := { dst := some 55, op := .binOp .gtr 3 (.tmp 54) (.const (.int .i64 0)) 3, type := 4, pos := "l4_word.go:58", after := #[{ on := 2, ground := .data }], guard := none }) ?_; try simp only [putP]; refine tlQ (i := 4) (oi := { dst := some 56, op := .move (.tmp 55), type := 4, pos := "l4_word.go:58", after := #[{ on := 3, ground := .data }], guard := none }) ?_; try simp only [putP]; refine tzQ (i := 5) (oi := { dst := some 57, op := .fieldAddr 52 (.tmp 1) 7, type := 0, pos := "l4_word.go:58", after := #[{ on := 4, ground := .guard }], guard := some (4, true) }) ?_; try simp only [putP]; refine tzQ (i := 6) (oi := { dst := some 58, op := .load 35 (.tmp 57), type := 35, pos := "l4_word.go:58", after := #[{ on := 5, ground := .data }, { on := 4, ground := .guard }], guard := some (4, true) }) ?_; try simp only [putP]; refine tzQ (i := 7) (oi := { dst := some 59, op := .fieldAddr 52 (.tmp 1) 7, type := 0, pos := "l4_word.go:58", after := #[{ on := 4, ground := .guard }], guard := some (4, true) }) ?_; try simp only [putP]; refine tzQ (i := 8) (oi := { dst := some 60, op := .load 35 (.tmp 59), type := 35, pos := "l4_word.go:58", after := #[{ on := 7, ground := .data }, { on := 4, ground := .guard }], guard := some (4, true) }) ?_; try simp only [putP]; refine tzQ (i := 9) (oi := { dst := some 61, op := .indexAddr 35 (.tmp 60) (.const (.int .i64 0)), type := 0, pos := "l4_word.go:58", after := #[{ on := 8, ground := .data }, { on := 4, ground := .guard }], guard := some (4, true) }) ?_; try simp only [putP]; refine tzQ (i := 10) (oi := { dst := some 62, op := .fieldAddr 119 (.tmp 61) 0, type := 0, pos := "l4_word.go:58", after := #[{ on := 9, ground := .data }, { on := 4, ground := .guard }], guard := some (4, true) }) ?_; try simp only [putP]; refine tzQ (i := 11) (oi := { dst := some 63, op := .load 3 (.tmp 62), type := 3, pos := "l4_word.go:58", after := #[{ on := 10, ground := .data }, { on := 4, ground := .guard }], guard := some (4, true) }) ?_; try simp only [putP]; refine tzQ (i := 12) (oi := { dst := some 64, op := .binOp .quo 3 (.tmp 63) (.const (.int .i64 4)) 3, type := 3, pos := "l4_word.go:58", after := #[{ on := 11, ground := .data }, { on := 4, ground := .guard }], guard := some (4, true) }) ?_; try simp only [putP]; refine tzQ (i := 13) (oi := { dst := some 65, op := .call { callee := .value (.func 35), args := #[.tmp 58, .tmp 64], argTypes := #[35, 3] }, type := 4, pos := "l4_word.go:58", after := #[{ on := 6, ground := .data }, { on := 12, ground := .data }, { on := 4, ground := .chain }, { on := 4, ground := .guard }], guard := some (4, true) }) ?_; try simp only [putP]; refine tlQ (i := 14) (oi := { dst := some 66, op := .pick (.tmp 56) (.tmp 65) (.const (.bool false)), type := 4, pos := "l4_word.go:58", after := #[{ on := 4, ground := .data }, { on := 13, ground := .data }], guard := none }) ?_; try simp only [putP]; refine tlQ (i := 15) (oi := { dst := some 2, op := .assign (.tmp 66), type := 4, pos := "l4_word.go:58", after := #[{ on := 14, ground := .data }, { on := 13, ground := .chain }, { on := 0, ground := .phase }, { on := 1, ground := .phase }, { on := 2, ground := .phase }, { on := 3, ground := .phase }, { on := 4, ground := .phase }, { on := 5, ground := .phase }, { on := 6, ground := .phase }, { on := 7, ground := .phase }, { on := 8, ground := .phase }, { on := 9, ground := .phase }, { on := 10, ground := .phase }, { on := 11, ground := .phase }, { on := 12, ground := .phase }, { on := 13, ground := .phase }, { on := 14, ground := .phase }], guard := none }) ?_; try simp only [putP]
                      refine wpAnyH_done (by kernel_rfl) ?_ _
                      go_wp2
                      go_ret
                      refine ⟨ret_bool ?_, B8.drew⟩
                      rw [hwo.out]
                      unfold wsB
                      simp
                    · obtain ⟨b, off, rfl, hbl, hff⟩ := hf8 h0
                      have i1 : (0 : Int) < (len : Int) := by omega
                      have c11 := first_cell hff h0
                      have hfd := hf8.below (Below.drew (Below.refl _ _))
                      clear hff hf8 h
                      go_wp2_with fail
                      refine wp_region_held_drew (S := (fun w' => w'.cell? ⟨w.heap.size, 0, none⟩ = some (.int .i64 p) ∧ w'.cell? ⟨w.heap.size, 1, none⟩ = some (.int .i64 6) ∧ w'.cell? ⟨w.heap.size, 2, none⟩ = some (.int .i64 f) ∧ w'.cell? ⟨w.heap.size, 3, none⟩ = some (.int .i64 t) ∧ w'.cell? ⟨w.heap.size, 4, none⟩ = some (.int .i64 s) ∧ w'.cell? ⟨w.heap.size, 5, none⟩ = some (.int .i64 q) ∧ w'.cell? ⟨w.heap.size, 6, none⟩ = some (.int .i64 x) ∧ w'.cell? ⟨w.heap.size, 7, none⟩ = some (.int .i64 y) ∧ w'.cell? ⟨w.heap.size, 8, none⟩ = some (.int .i64 z) ∧ w'.cell? ⟨w.heap.size, 9, none⟩ = some (.int .i64 e) ∧ w'.cell? ⟨w.heap.size, 10, none⟩ = some (.slice (some ⟨b, off, none⟩) len cap) ∧ w'.cell? ⟨b, off, none⟩ = some (.int .i64 (F 0).n))) (by kernel_rfl) ?_ (fun hHeld => ?_)
                      · (try dsimp only); (refine ⟨?_, ?_, ?_, ?_, ?_, ?_, ?_, ?_, ?_, ?_, ?_, ?_⟩ <;> (repeat (first | with_reducible assumption | with_reducible refine keep_drew ?_ | with_reducible refine keep_below (by assumption) ?_)))
                      refine tlQ (i := 0) (oi := { dst := some 52, op := .fieldAddr 52 (.tmp 1) 7, type := 0, pos := "l4_word.go:58", after := #[], guard := none }) ?_; try simp only [putP]; refine tlQ (i := 1) (oi := { dst := some 53, op := .load 35 (.tmp 52), type := 35, pos := "l4_word.go:58", after := #[{ on := 0, ground := .data }], guard := none }) ?_; try simp only [putP]; refine tlQ (i := 2) (oi := { dst := some 54, op := .call { callee := .builtin .len, args := #[.tmp 53], argTypes := #[35] }, type := 3, pos := "l4_word.go:58", after := #[{ on := 1, ground := .data }], guard := none }) ?_; try simp only [putP]; refine tlQ (i := 3) (oi := { dst := some 55, op := .binOp .gtr 3 (.tmp 54) (.const (.int .i64 0)) 3, type := 4, pos := "l4_word.go:58", after := #[{ on := 2, ground := .data }], guard := none }) ?_; try simp only [putP]; refine tlQ (i := 4) (oi := { dst := some 56, op := .move (.tmp 55), type := 4, pos := "l4_word.go:58", after := #[{ on := 3, ground := .data }], guard := none }) ?_; try simp only [putP]; refine tlQ (i := 5) (oi := { dst := some 57, op := .fieldAddr 52 (.tmp 1) 7, type := 0, pos := "l4_word.go:58", after := #[{ on := 4, ground := .guard }], guard := some (4, true) }) ?_; try simp only [putP]; refine tlQ (i := 6) (oi := { dst := some 58, op := .load 35 (.tmp 57), type := 35, pos := "l4_word.go:58", after := #[{ on := 5, ground := .data }, { on := 4, ground := .guard }], guard := some (4, true) }) ?_; try simp only [putP]; refine tlQ (i := 7) (oi := { dst := some 59, op := .fieldAddr 52 (.tmp 1) 7, type := 0, pos := "l4_word.go:58", after := #[{ on := 4, ground := .guard }], guard := some (4, true) }) ?_; try simp only [putP]; refine tlQ (i := 8) (oi := { dst := some 60, op := .load 35 (.tmp 59), type := 35, pos := "l4_word.go:58", after := #[{ on := 7, ground := .data }, { on := 4, ground := .guard }], guard := some (4, true) }) ?_; try simp only [putP]; refine tlQ (i := 9) (oi := { dst := some 61, op := .indexAddr 35 (.tmp 60) (.const (.int .i64 0)), type := 0, pos := "l4_word.go:58", after := #[{ on := 8, ground := .data }, { on := 4, ground := .guard }], guard := some (4, true) }) ?_; try simp only [putP]; refine tlQ (i := 10) (oi := { dst := some 62, op := .fieldAddr 119 (.tmp 61) 0, type := 0, pos := "l4_word.go:58", after := #[{ on := 9, ground := .data }, { on := 4, ground := .guard }], guard := some (4, true) }) ?_; try simp only [putP]; refine tlQ (i := 11) (oi := { dst := some 63, op := .load 3 (.tmp 62), type := 3, pos := "l4_word.go:58", after := #[{ on := 10, ground := .data }, { on := 4, ground := .guard }], guard := some (4, true) }) ?_; try simp only [putP]; refine tlQ (i := 12) (oi := { dst := some 64, op := .binOp .quo 3 (.tmp 63) (.const (.int .i64 4)) 3, type := 3, pos := "l4_word.go:58", after := #[{ on := 11, ground := .data }, { on := 4, ground := .guard }], guard := some (4, true) }) ?_; try simp only [putP]
                      refine wpAnyH_ready (rs := [13]) (by kernel_rfl) (by simp) ?_
                      refine AllReadyH.cons (o := { dst := some 65, op := .call { callee := .value (.func 35), args := #[.tmp 58, .tmp 64], argTypes := #[35, 3] }, type := 4, pos := "l4_word.go:58", after := #[{ on := 6, ground := .data }, { on := 12, ground := .data }, { on := 4, ground := .chain }, { on := 4, ground := .guard }], guard := some (4, true) }) rfl (fun K hK => ?_) AllReadyH.nil
                      go_simp
                      (rw [ste_eq]; refine (ssite_any _ len cap F (ste (F 0).n) _ hfd hl).mono ?_; rintro e w9 ⟨rfl, b9⟩)
                      go_wp2_with fail
                      refine hK.out _ _ ?_ (fun hHeld => ?_)
                      · (try dsimp only); (refine ⟨?_, ?_, ?_, ?_, ?_, ?_, ?_, ?_, ?_, ?_, ?_, ?_⟩ <;> (repeat (first | with_reducible assumption | with_reducible refine keep_drew ?_ | with_reducible refine keep_below (by assumption) ?_)))
                      clear hK K
                      (try simp only [putP]); refine tlQ (i := 14) (oi := { dst := some 66, op := .pick (.tmp 56) (.tmp 65) (.const (.bool false)), type := 4, pos := "l4_word.go:58", after := #[{ on := 4, ground := .data }, { on := 13, ground := .data }], guard := none }) ?_; try simp only [putP]; refine tlQ (i := 15) (oi := { dst := some 2, op := .assign (.tmp 66), type := 4, pos := "l4_word.go:58", after := #[{ on := 14, ground := .data }, { on := 13, ground := .chain }, { on := 0, ground := .phase }, { on := 1, ground := .phase }, { on := 2, ground := .phase }, { on := 3, ground := .phase }, { on := 4, ground := .phase }, { on := 5, ground := .phase }, { on := 6, ground := .phase }, { on := 7, ground := .phase }, { on := 8, ground := .phase }, { on := 9, ground := .phase }, { on := 10, ground := .phase }, { on := 11, ground := .phase }, { on := 12, ground := .phase }, { on := 13, ground := .phase }, { on := 14, ground := .phase }], guard := none }) ?_; try simp only [putP]
                      refine wpAnyH_done (by kernel_rfl) ?_ _
                      go_wp2
                      go_ret
                      refine ⟨ret_bool ?_, btrans B8.drew b9⟩
                      rw [hwo.out]
                      unfold wsB
                      simp [h0]
                  · go_wp2_with fail
                    refine (ssite_any _ len cap F (ste f) _ hf8 hl).mono ?_
                    rintro r w9 ⟨rfl, b9⟩
                    go_wp2
                    go_ret
                    refine ⟨ret_bool ?_, btrans B8 b9⟩
                    rw [hwo.out]
                    unfold wsB
                    rw [if_neg hk]
theorem keep_frozen {W w' : World} {b o : Nat} (hb : Below W.heap.size W w') (hl : b < W.heap.size) (h : W.frozen? ⟨b, o, none⟩ = false) : w'.frozen? ⟨b, o, none⟩ = false := (hb.frozen (p := ⟨b, o, none⟩) hl).trans h
theorem cs_same {w : World} {b i : Nat} {u : Value} (v : Value) (h : w.cell? ⟨b, i, none⟩ = some u) : (w.setCell ⟨b, i, none⟩ v).cell? ⟨b, i, none⟩ = some v := by simp [go_sem, h]
theorem cs_off {w : World} {b i j : Nat} {u : Value} (v : Value) (hij : i ≠ j) (h : w.cell? ⟨b, i, none⟩ = some u) : (w.setCell ⟨b, j, none⟩ v).cell? ⟨b, i, none⟩ = some u := (World.cell?_setCell_other _ _ _ _ (fun e => hij (by simpa using (congrArg Addr.off e).symm))).trans h
set_option maxRecDepth 10000 in
set_option maxHeartbeats 4000000 in
theorem toWord_any (p k f t s q x y z e : Int) (a : Option Addr) (len cap : Nat) (F : Nat → Fc) (w : World) (h : FSl w a len F) (hl : len ≤ 1048576) (hc : len ≤ cap) :
    Calls Tryz.prog 15 #[.agg #[.int .i64 p, .int .i64 k, .int .i64 f, .int .i64 t, .int .i64 s, .int .i64 q, .int .i64 x, .int .i64 y, .int .i64 z, .int .i64 e, (.slice a len cap)]] w fun r w' => ∃ b, r = .returned (.agg #[.int .i64 p, .int .i64 k, .int .i64 f, .int .i64 t, .int .i64 s, .int .i64 q, .int .i64 x, .int .i64 y, .int .i64 z, .int .i64 e, (.slice (some ⟨b, 0, none⟩) len len)]) ∧ FSl w' (some ⟨b, 0, none⟩) len F ∧ Below w.heap.size w w' := by
  go_enter Tryz.func15, Tryz.ntmps15
  go_wp2_with (go_at_call 48; refine (toCoord_any _ _ _ _ _).mono ?_; rintro e w' ⟨rfl, o1, o2, o3, rfl⟩)
  have P0 : ((((((w.alloc (.cells #[.int .i64 p, .int .i64 k, .int .i64 f, .int .i64 t, .int .i64 s, .int .i64 q, .int .i64 x, .int .i64 y, .int .i64 z, .int .i64 e, (.slice a len cap)] 48)).alloc (.cells #[.int .i64 0, .int .i64 0, .int .i64 0, .int .i64 0, .int .i64 0, .int .i64 0, .int .i64 0, .int .i64 0, .int .i64 0, .int .i64 0, (.slice none 0 0)] 52)).alloc (.cells #[.int .i64 p, .int .i64 k, .int .i64 f, .int .i64 t, .int .i64 s, .int .i64 q, .int .i64 x, .int .i64 y, .int .i64 z, .int .i64 e, (.slice none 0 0)] 52)).alloc o1).alloc o2).alloc o3).cell? ⟨w.heap.size + 1 + 1, 0, none⟩ = some (.int .i64 p) := by simp [go_sem]
  have P1 : ((((((w.alloc (.cells #[.int .i64 p, .int .i64 k, .int .i64 f, .int .i64 t, .int .i64 s, .int .i64 q, .int .i64 x, .int .i64 y, .int .i64 z, .int .i64 e, (.slice a len cap)] 48)).alloc (.cells #[.int .i64 0, .int .i64 0, .int .i64 0, .int .i64 0, .int .i64 0, .int .i64 0, .int .i64 0, .int .i64 0, .int .i64 0, .int .i64 0, (.slice none 0 0)] 52)).alloc (.cells #[.int .i64 p, .int .i64 k, .int .i64 f, .int .i64 t, .int .i64 s, .int .i64 q, .int .i64 x, .int .i64 y, .int .i64 z, .int .i64 e, (.slice none 0 0)] 52)).alloc o1).alloc o2).alloc o3).cell? ⟨w.heap.size + 1 + 1, 1, none⟩ = some (.int .i64 k) := by simp [go_sem]
  have P2 : ((((((w.alloc (.cells #[.int .i64 p, .int .i64 k, .int .i64 f, .int .i64 t, .int .i64 s, .int .i64 q, .int .i64 x, .int .i64 y, .int .i64 z, .int .i64 e, (.slice a len cap)] 48)).alloc (.cells #[.int .i64 0, .int .i64 0, .int .i64 0, .int .i64 0, .int .i64 0, .int .i64 0, .int .i64 0, .int .i64 0, .int .i64 0, .int .i64 0, (.slice none 0 0)] 52)).alloc (.cells #[.int .i64 p, .int .i64 k, .int .i64 f, .int .i64 t, .int .i64 s, .int .i64 q, .int .i64 x, .int .i64 y, .int .i64 z, .int .i64 e, (.slice none 0 0)] 52)).alloc o1).alloc o2).alloc o3).cell? ⟨w.heap.size + 1 + 1, 2, none⟩ = some (.int .i64 f) := by simp [go_sem]
  have P3 : ((((((w.alloc (.cells #[.int .i64 p, .int .i64 k, .int .i64 f, .int .i64 t, .int .i64 s, .int .i64 q, .int .i64 x, .int .i64 y, .int .i64 z, .int .i64 e, (.slice a len cap)] 48)).alloc (.cells #[.int .i64 0, .int .i64 0, .int .i64 0, .int .i64 0, .int .i64 0, .int .i64 0, .int .i64 0, .int .i64 0, .int .i64 0, .int .i64 0, (.slice none 0 0)] 52)).alloc (.cells #[.int .i64 p, .int .i64 k, .int .i64 f, .int .i64 t, .int .i64 s, .int .i64 q, .int .i64 x, .int .i64 y, .int .i64 z, .int .i64 e, (.slice none 0 0)] 52)).alloc o1).alloc o2).alloc o3).cell? ⟨w.heap.size + 1 + 1, 3, none⟩ = some (.int .i64 t) := by simp [go_sem]
  have P4 : ((((((w.alloc (.cells #[.int .i64 p, .int .i64 k, .int .i64 f, .int .i64 t, .int .i64 s, .int .i64 q, .int .i64 x, .int .i64 y, .int .i64 z, .int .i64 e, (.slice a len cap)] 48)).alloc (.cells #[.int .i64 0, .int .i64 0, .int .i64 0, .int .i64 0, .int .i64 0, .int .i64 0, .int .i64 0, .int .i64 0, .int .i64 0, .int .i64 0, (.slice none 0 0)] 52)).alloc (.cells #[.int .i64 p, .int .i64 k, .int .i64 f, .int .i64 t, .int .i64 s, .int .i64 q, .int .i64 x, .int .i64 y, .int .i64 z, .int .i64 e, (.slice none 0 0)] 52)).alloc o1).alloc o2).alloc o3).cell? ⟨w.heap.size + 1 + 1, 4, none⟩ = some (.int .i64 s) := by simp [go_sem]
  have P5 : ((((((w.alloc (.cells #[.int .i64 p, .int .i64 k, .int .i64 f, .int .i64 t, .int .i64 s, .int .i64 q, .int .i64 x, .int .i64 y, .int .i64 z, .int .i64 e, (.slice a len cap)] 48)).alloc (.cells #[.int .i64 0, .int .i64 0, .int .i64 0, .int .i64 0, .int .i64 0, .int .i64 0, .int .i64 0, .int .i64 0, .int .i64 0, .int .i64 0, (.slice none 0 0)] 52)).alloc (.cells #[.int .i64 p, .int .i64 k, .int .i64 f, .int .i64 t, .int .i64 s, .int .i64 q, .int .i64 x, .int .i64 y, .int .i64 z, .int .i64 e, (.slice none 0 0)] 52)).alloc o1).alloc o2).alloc o3).cell? ⟨w.heap.size + 1 + 1, 5, none⟩ = some (.int .i64 q) := by simp [go_sem]
  have P6 : ((((((w.alloc (.cells #[.int .i64 p, .int .i64 k, .int .i64 f, .int .i64 t, .int .i64 s, .int .i64 q, .int .i64 x, .int .i64 y, .int .i64 z, .int .i64 e, (.slice a len cap)] 48)).alloc (.cells #[.int .i64 0, .int .i64 0, .int .i64 0, .int .i64 0, .int .i64 0, .int .i64 0, .int .i64 0, .int .i64 0, .int .i64 0, .int .i64 0, (.slice none 0 0)] 52)).alloc (.cells #[.int .i64 p, .int .i64 k, .int .i64 f, .int .i64 t, .int .i64 s, .int .i64 q, .int .i64 x, .int .i64 y, .int .i64 z, .int .i64 e, (.slice none 0 0)] 52)).alloc o1).alloc o2).alloc o3).cell? ⟨w.heap.size + 1 + 1, 6, none⟩ = some (.int .i64 x) := by simp [go_sem]
  have P7 : ((((((w.alloc (.cells #[.int .i64 p, .int .i64 k, .int .i64 f, .int .i64 t, .int .i64 s, .int .i64 q, .int .i64 x, .int .i64 y, .int .i64 z, .int .i64 e, (.slice a len cap)] 48)).alloc (.cells #[.int .i64 0, .int .i64 0, .int .i64 0, .int .i64 0, .int .i64 0, .int .i64 0, .int .i64 0, .int .i64 0, .int .i64 0, .int .i64 0, (.slice none 0 0)] 52)).alloc (.cells #[.int .i64 p, .int .i64 k, .int .i64 f, .int .i64 t, .int .i64 s, .int .i64 q, .int .i64 x, .int .i64 y, .int .i64 z, .int .i64 e, (.slice none 0 0)] 52)).alloc o1).alloc o2).alloc o3).cell? ⟨w.heap.size + 1 + 1, 7, none⟩ = some (.int .i64 y) := by simp [go_sem]
  have P8 : ((((((w.alloc (.cells #[.int .i64 p, .int .i64 k, .int .i64 f, .int .i64 t, .int .i64 s, .int .i64 q, .int .i64 x, .int .i64 y, .int .i64 z, .int .i64 e, (.slice a len cap)] 48)).alloc (.cells #[.int .i64 0, .int .i64 0, .int .i64 0, .int .i64 0, .int .i64 0, .int .i64 0, .int .i64 0, .int .i64 0, .int .i64 0, .int .i64 0, (.slice none 0 0)] 52)).alloc (.cells #[.int .i64 p, .int .i64 k, .int .i64 f, .int .i64 t, .int .i64 s, .int .i64 q, .int .i64 x, .int .i64 y, .int .i64 z, .int .i64 e, (.slice none 0 0)] 52)).alloc o1).alloc o2).alloc o3).cell? ⟨w.heap.size + 1 + 1, 8, none⟩ = some (.int .i64 z) := by simp [go_sem]
  have P9 : ((((((w.alloc (.cells #[.int .i64 p, .int .i64 k, .int .i64 f, .int .i64 t, .int .i64 s, .int .i64 q, .int .i64 x, .int .i64 y, .int .i64 z, .int .i64 e, (.slice a len cap)] 48)).alloc (.cells #[.int .i64 0, .int .i64 0, .int .i64 0, .int .i64 0, .int .i64 0, .int .i64 0, .int .i64 0, .int .i64 0, .int .i64 0, .int .i64 0, (.slice none 0 0)] 52)).alloc (.cells #[.int .i64 p, .int .i64 k, .int .i64 f, .int .i64 t, .int .i64 s, .int .i64 q, .int .i64 x, .int .i64 y, .int .i64 z, .int .i64 e, (.slice none 0 0)] 52)).alloc o1).alloc o2).alloc o3).cell? ⟨w.heap.size + 1 + 1, 9, none⟩ = some (.int .i64 e) := by simp [go_sem]
  have P10 : ((((((w.alloc (.cells #[.int .i64 p, .int .i64 k, .int .i64 f, .int .i64 t, .int .i64 s, .int .i64 q, .int .i64 x, .int .i64 y, .int .i64 z, .int .i64 e, (.slice a len cap)] 48)).alloc (.cells #[.int .i64 0, .int .i64 0, .int .i64 0, .int .i64 0, .int .i64 0, .int .i64 0, .int .i64 0, .int .i64 0, .int .i64 0, .int .i64 0, (.slice none 0 0)] 52)).alloc (.cells #[.int .i64 p, .int .i64 k, .int .i64 f, .int .i64 t, .int .i64 s, .int .i64 q, .int .i64 x, .int .i64 y, .int .i64 z, .int .i64 e, (.slice none 0 0)] 52)).alloc o1).alloc o2).alloc o3).cell? ⟨w.heap.size + 1 + 1, 10, none⟩ = some (.slice none 0 0) := by simp [go_sem]
  have R0 : ((((((w.alloc (.cells #[.int .i64 p, .int .i64 k, .int .i64 f, .int .i64 t, .int .i64 s, .int .i64 q, .int .i64 x, .int .i64 y, .int .i64 z, .int .i64 e, (.slice a len cap)] 48)).alloc (.cells #[.int .i64 0, .int .i64 0, .int .i64 0, .int .i64 0, .int .i64 0, .int .i64 0, .int .i64 0, .int .i64 0, .int .i64 0, .int .i64 0, (.slice none 0 0)] 52)).alloc (.cells #[.int .i64 p, .int .i64 k, .int .i64 f, .int .i64 t, .int .i64 s, .int .i64 q, .int .i64 x, .int .i64 y, .int .i64 z, .int .i64 e, (.slice none 0 0)] 52)).alloc o1).alloc o2).alloc o3).cell? ⟨w.heap.size + 1, 0, none⟩ = some (.int .i64 0) := by simp [go_sem]
  have R1 : ((((((w.alloc (.cells #[.int .i64 p, .int .i64 k, .int .i64 f, .int .i64 t, .int .i64 s, .int .i64 q, .int .i64 x, .int .i64 y, .int .i64 z, .int .i64 e, (.slice a len cap)] 48)).alloc (.cells #[.int .i64 0, .int .i64 0, .int .i64 0, .int .i64 0, .int .i64 0, .int .i64 0, .int .i64 0, .int .i64 0, .int .i64 0, .int .i64 0, (.slice none 0 0)] 52)).alloc (.cells #[.int .i64 p, .int .i64 k, .int .i64 f, .int .i64 t, .int .i64 s, .int .i64 q, .int .i64 x, .int .i64 y, .int .i64 z, .int .i64 e, (.slice none 0 0)] 52)).alloc o1).alloc o2).alloc o3).cell? ⟨w.heap.size + 1, 1, none⟩ = some (.int .i64 0) := by simp [go_sem]
  have R2 : ((((((w.alloc (.cells #[.int .i64 p, .int .i64 k, .int .i64 f, .int .i64 t, .int .i64 s, .int .i64 q, .int .i64 x, .int .i64 y, .int .i64 z, .int .i64 e, (.slice a len cap)] 48)).alloc (.cells #[.int .i64 0, .int .i64 0, .int .i64 0, .int .i64 0, .int .i64 0, .int .i64 0, .int .i64 0, .int .i64 0, .int .i64 0, .int .i64 0, (.slice none 0 0)] 52)).alloc (.cells #[.int .i64 p, .int .i64 k, .int .i64 f, .int .i64 t, .int .i64 s, .int .i64 q, .int .i64 x, .int .i64 y, .int .i64 z, .int .i64 e, (.slice none 0 0)] 52)).alloc o1).alloc o2).alloc o3).cell? ⟨w.heap.size + 1, 2, none⟩ = some (.int .i64 0) := by simp [go_sem]
  have R3 : ((((((w.alloc (.cells #[.int .i64 p, .int .i64 k, .int .i64 f, .int .i64 t, .int .i64 s, .int .i64 q, .int .i64 x, .int .i64 y, .int .i64 z, .int .i64 e, (.slice a len cap)] 48)).alloc (.cells #[.int .i64 0, .int .i64 0, .int .i64 0, .int .i64 0, .int .i64 0, .int .i64 0, .int .i64 0, .int .i64 0, .int .i64 0, .int .i64 0, (.slice none 0 0)] 52)).alloc (.cells #[.int .i64 p, .int .i64 k, .int .i64 f, .int .i64 t, .int .i64 s, .int .i64 q, .int .i64 x, .int .i64 y, .int .i64 z, .int .i64 e, (.slice none 0 0)] 52)).alloc o1).alloc o2).alloc o3).cell? ⟨w.heap.size + 1, 3, none⟩ = some (.int .i64 0) := by simp [go_sem]
  have R4 : ((((((w.alloc (.cells #[.int .i64 p, .int .i64 k, .int .i64 f, .int .i64 t, .int .i64 s, .int .i64 q, .int .i64 x, .int .i64 y, .int .i64 z, .int .i64 e, (.slice a len cap)] 48)).alloc (.cells #[.int .i64 0, .int .i64 0, .int .i64 0, .int .i64 0, .int .i64 0, .int .i64 0, .int .i64 0, .int .i64 0, .int .i64 0, .int .i64 0, (.slice none 0 0)] 52)).alloc (.cells #[.int .i64 p, .int .i64 k, .int .i64 f, .int .i64 t, .int .i64 s, .int .i64 q, .int .i64 x, .int .i64 y, .int .i64 z, .int .i64 e, (.slice none 0 0)] 52)).alloc o1).alloc o2).alloc o3).cell? ⟨w.heap.size + 1, 4, none⟩ = some (.int .i64 0) := by simp [go_sem]
  have R5 : ((((((w.alloc (.cells #[.int .i64 p, .int .i64 k, .int .i64 f, .int .i64 t, .int .i64 s, .int .i64 q, .int .i64 x, .int .i64 y, .int .i64 z, .int .i64 e, (.slice a len cap)] 48)).alloc (.cells #[.int .i64 0, .int .i64 0, .int .i64 0, .int .i64 0, .int .i64 0, .int .i64 0, .int .i64 0, .int .i64 0, .int .i64 0, .int .i64 0, (.slice none 0 0)] 52)).alloc (.cells #[.int .i64 p, .int .i64 k, .int .i64 f, .int .i64 t, .int .i64 s, .int .i64 q, .int .i64 x, .int .i64 y, .int .i64 z, .int .i64 e, (.slice none 0 0)] 52)).alloc o1).alloc o2).alloc o3).cell? ⟨w.heap.size + 1, 5, none⟩ = some (.int .i64 0) := by simp [go_sem]
  have R6 : ((((((w.alloc (.cells #[.int .i64 p, .int .i64 k, .int .i64 f, .int .i64 t, .int .i64 s, .int .i64 q, .int .i64 x, .int .i64 y, .int .i64 z, .int .i64 e, (.slice a len cap)] 48)).alloc (.cells #[.int .i64 0, .int .i64 0, .int .i64 0, .int .i64 0, .int .i64 0, .int .i64 0, .int .i64 0, .int .i64 0, .int .i64 0, .int .i64 0, (.slice none 0 0)] 52)).alloc (.cells #[.int .i64 p, .int .i64 k, .int .i64 f, .int .i64 t, .int .i64 s, .int .i64 q, .int .i64 x, .int .i64 y, .int .i64 z, .int .i64 e, (.slice none 0 0)] 52)).alloc o1).alloc o2).alloc o3).cell? ⟨w.heap.size + 1, 6, none⟩ = some (.int .i64 0) := by simp [go_sem]
  have R7 : ((((((w.alloc (.cells #[.int .i64 p, .int .i64 k, .int .i64 f, .int .i64 t, .int .i64 s, .int .i64 q, .int .i64 x, .int .i64 y, .int .i64 z, .int .i64 e, (.slice a len cap)] 48)).alloc (.cells #[.int .i64 0, .int .i64 0, .int .i64 0, .int .i64 0, .int .i64 0, .int .i64 0, .int .i64 0, .int .i64 0, .int .i64 0, .int .i64 0, (.slice none 0 0)] 52)).alloc (.cells #[.int .i64 p, .int .i64 k, .int .i64 f, .int .i64 t, .int .i64 s, .int .i64 q, .int .i64 x, .int .i64 y, .int .i64 z, .int .i64 e, (.slice none 0 0)] 52)).alloc o1).alloc o2).alloc o3).cell? ⟨w.heap.size + 1, 7, none⟩ = some (.int .i64 0) := by simp [go_sem]
  have R8 : ((((((w.alloc (.cells #[.int .i64 p, .int .i64 k, .int .i64 f, .int .i64 t, .int .i64 s, .int .i64 q, .int .i64 x, .int .i64 y, .int .i64 z, .int .i64 e, (.slice a len cap)] 48)).alloc (.cells #[.int .i64 0, .int .i64 0, .int .i64 0, .int .i64 0, .int .i64 0, .int .i64 0, .int .i64 0, .int .i64 0, .int .i64 0, .int .i64 0, (.slice none 0 0)] 52)).alloc (.cells #[.int .i64 p, .int .i64 k, .int .i64 f, .int .i64 t, .int .i64 s, .int .i64 q, .int .i64 x, .int .i64 y, .int .i64 z, .int .i64 e, (.slice none 0 0)] 52)).alloc o1).alloc o2).alloc o3).cell? ⟨w.heap.size + 1, 8, none⟩ = some (.int .i64 0) := by simp [go_sem]
  have R9 : ((((((w.alloc (.cells #[.int .i64 p, .int .i64 k, .int .i64 f, .int .i64 t, .int .i64 s, .int .i64 q, .int .i64 x, .int .i64 y, .int .i64 z, .int .i64 e, (.slice a len cap)] 48)).alloc (.cells #[.int .i64 0, .int .i64 0, .int .i64 0, .int .i64 0, .int .i64 0, .int .i64 0, .int .i64 0, .int .i64 0, .int .i64 0, .int .i64 0, (.slice none 0 0)] 52)).alloc (.cells #[.int .i64 p, .int .i64 k, .int .i64 f, .int .i64 t, .int .i64 s, .int .i64 q, .int .i64 x, .int .i64 y, .int .i64 z, .int .i64 e, (.slice none 0 0)] 52)).alloc o1).alloc o2).alloc o3).cell? ⟨w.heap.size + 1, 9, none⟩ = some (.int .i64 0) := by simp [go_sem]
  have R10 : ((((((w.alloc (.cells #[.int .i64 p, .int .i64 k, .int .i64 f, .int .i64 t, .int .i64 s, .int .i64 q, .int .i64 x, .int .i64 y, .int .i64 z, .int .i64 e, (.slice a len cap)] 48)).alloc (.cells #[.int .i64 0, .int .i64 0, .int .i64 0, .int .i64 0, .int .i64 0, .int .i64 0, .int .i64 0, .int .i64 0, .int .i64 0, .int .i64 0, (.slice none 0 0)] 52)).alloc (.cells #[.int .i64 p, .int .i64 k, .int .i64 f, .int .i64 t, .int .i64 s, .int .i64 q, .int .i64 x, .int .i64 y, .int .i64 z, .int .i64 e, (.slice none 0 0)] 52)).alloc o1).alloc o2).alloc o3).cell? ⟨w.heap.size + 1, 10, none⟩ = some (.slice none 0 0) := by simp [go_sem]
  have G0 : ((((((w.alloc (.cells #[.int .i64 p, .int .i64 k, .int .i64 f, .int .i64 t, .int .i64 s, .int .i64 q, .int .i64 x, .int .i64 y, .int .i64 z, .int .i64 e, (.slice a len cap)] 48)).alloc (.cells #[.int .i64 0, .int .i64 0, .int .i64 0, .int .i64 0, .int .i64 0, .int .i64 0, .int .i64 0, .int .i64 0, .int .i64 0, .int .i64 0, (.slice none 0 0)] 52)).alloc (.cells #[.int .i64 p, .int .i64 k, .int .i64 f, .int .i64 t, .int .i64 s, .int .i64 q, .int .i64 x, .int .i64 y, .int .i64 z, .int .i64 e, (.slice none 0 0)] 52)).alloc o1).alloc o2).alloc o3).frozen? ⟨w.heap.size + 1, 0, none⟩ = false := by simp [go_sem]
  have G1 : ((((((w.alloc (.cells #[.int .i64 p, .int .i64 k, .int .i64 f, .int .i64 t, .int .i64 s, .int .i64 q, .int .i64 x, .int .i64 y, .int .i64 z, .int .i64 e, (.slice a len cap)] 48)).alloc (.cells #[.int .i64 0, .int .i64 0, .int .i64 0, .int .i64 0, .int .i64 0, .int .i64 0, .int .i64 0, .int .i64 0, .int .i64 0, .int .i64 0, (.slice none 0 0)] 52)).alloc (.cells #[.int .i64 p, .int .i64 k, .int .i64 f, .int .i64 t, .int .i64 s, .int .i64 q, .int .i64 x, .int .i64 y, .int .i64 z, .int .i64 e, (.slice none 0 0)] 52)).alloc o1).alloc o2).alloc o3).frozen? ⟨w.heap.size + 1, 1, none⟩ = false := by simp [go_sem]
  have G2 : ((((((w.alloc (.cells #[.int .i64 p, .int .i64 k, .int .i64 f, .int .i64 t, .int .i64 s, .int .i64 q, .int .i64 x, .int .i64 y, .int .i64 z, .int .i64 e, (.slice a len cap)] 48)).alloc (.cells #[.int .i64 0, .int .i64 0, .int .i64 0, .int .i64 0, .int .i64 0, .int .i64 0, .int .i64 0, .int .i64 0, .int .i64 0, .int .i64 0, (.slice none 0 0)] 52)).alloc (.cells #[.int .i64 p, .int .i64 k, .int .i64 f, .int .i64 t, .int .i64 s, .int .i64 q, .int .i64 x, .int .i64 y, .int .i64 z, .int .i64 e, (.slice none 0 0)] 52)).alloc o1).alloc o2).alloc o3).frozen? ⟨w.heap.size + 1, 2, none⟩ = false := by simp [go_sem]
  have G3 : ((((((w.alloc (.cells #[.int .i64 p, .int .i64 k, .int .i64 f, .int .i64 t, .int .i64 s, .int .i64 q, .int .i64 x, .int .i64 y, .int .i64 z, .int .i64 e, (.slice a len cap)] 48)).alloc (.cells #[.int .i64 0, .int .i64 0, .int .i64 0, .int .i64 0, .int .i64 0, .int .i64 0, .int .i64 0, .int .i64 0, .int .i64 0, .int .i64 0, (.slice none 0 0)] 52)).alloc (.cells #[.int .i64 p, .int .i64 k, .int .i64 f, .int .i64 t, .int .i64 s, .int .i64 q, .int .i64 x, .int .i64 y, .int .i64 z, .int .i64 e, (.slice none 0 0)] 52)).alloc o1).alloc o2).alloc o3).frozen? ⟨w.heap.size + 1, 3, none⟩ = false := by simp [go_sem]
  have G4 : ((((((w.alloc (.cells #[.int .i64 p, .int .i64 k, .int .i64 f, .int .i64 t, .int .i64 s, .int .i64 q, .int .i64 x, .int .i64 y, .int .i64 z, .int .i64 e, (.slice a len cap)] 48)).alloc (.cells #[.int .i64 0, .int .i64 0, .int .i64 0, .int .i64 0, .int .i64 0, .int .i64 0, .int .i64 0, .int .i64 0, .int .i64 0, .int .i64 0, (.slice none 0 0)] 52)).alloc (.cells #[.int .i64 p, .int .i64 k, .int .i64 f, .int .i64 t, .int .i64 s, .int .i64 q, .int .i64 x, .int .i64 y, .int .i64 z, .int .i64 e, (.slice none 0 0)] 52)).alloc o1).alloc o2).alloc o3).frozen? ⟨w.heap.size + 1, 4, none⟩ = false := by simp [go_sem]
  have G5 : ((((((w.alloc (.cells #[.int .i64 p, .int .i64 k, .int .i64 f, .int .i64 t, .int .i64 s, .int .i64 q, .int .i64 x, .int .i64 y, .int .i64 z, .int .i64 e, (.slice a len cap)] 48)).alloc (.cells #[.int .i64 0, .int .i64 0, .int .i64 0, .int .i64 0, .int .i64 0, .int .i64 0, .int .i64 0, .int .i64 0, .int .i64 0, .int .i64 0, (.slice none 0 0)] 52)).alloc (.cells #[.int .i64 p, .int .i64 k, .int .i64 f, .int .i64 t, .int .i64 s, .int .i64 q, .int .i64 x, .int .i64 y, .int .i64 z, .int .i64 e, (.slice none 0 0)] 52)).alloc o1).alloc o2).alloc o3).frozen? ⟨w.heap.size + 1, 5, none⟩ = false := by simp [go_sem]
  have G6 : ((((((w.alloc (.cells #[.int .i64 p, .int .i64 k, .int .i64 f, .int .i64 t, .int .i64 s, .int .i64 q, .int .i64 x, .int .i64 y, .int .i64 z, .int .i64 e, (.slice a len cap)] 48)).alloc (.cells #[.int .i64 0, .int .i64 0, .int .i64 0, .int .i64 0, .int .i64 0, .int .i64 0, .int .i64 0, .int .i64 0, .int .i64 0, .int .i64 0, (.slice none 0 0)] 52)).alloc (.cells #[.int .i64 p, .int .i64 k, .int .i64 f, .int .i64 t, .int .i64 s, .int .i64 q, .int .i64 x, .int .i64 y, .int .i64 z, .int .i64 e, (.slice none 0 0)] 52)).alloc o1).alloc o2).alloc o3).frozen? ⟨w.heap.size + 1, 6, none⟩ = false := by simp [go_sem]
  have G7 : ((((((w.alloc (.cells #[.int .i64 p, .int .i64 k, .int .i64 f, .int .i64 t, .int .i64 s, .int .i64 q, .int .i64 x, .int .i64 y, .int .i64 z, .int .i64 e, (.slice a len cap)] 48)).alloc (.cells #[.int .i64 0, .int .i64 0, .int .i64 0, .int .i64 0, .int .i64 0, .int .i64 0, .int .i64 0, .int .i64 0, .int .i64 0, .int .i64 0, (.slice none 0 0)] 52)).alloc (.cells #[.int .i64 p, .int .i64 k, .int .i64 f, .int .i64 t, .int .i64 s, .int .i64 q, .int .i64 x, .int .i64 y, .int .i64 z, .int .i64 e, (.slice none 0 0)] 52)).alloc o1).alloc o2).alloc o3).frozen? ⟨w.heap.size + 1, 7, none⟩ = false := by simp [go_sem]
  have G8 : ((((((w.alloc (.cells #[.int .i64 p, .int .i64 k, .int .i64 f, .int .i64 t, .int .i64 s, .int .i64 q, .int .i64 x, .int .i64 y, .int .i64 z, .int .i64 e, (.slice a len cap)] 48)).alloc (.cells #[.int .i64 0, .int .i64 0, .int .i64 0, .int .i64 0, .int .i64 0, .int .i64 0, .int .i64 0, .int .i64 0, .int .i64 0, .int .i64 0, (.slice none 0 0)] 52)).alloc (.cells #[.int .i64 p, .int .i64 k, .int .i64 f, .int .i64 t, .int .i64 s, .int .i64 q, .int .i64 x, .int .i64 y, .int .i64 z, .int .i64 e, (.slice none 0 0)] 52)).alloc o1).alloc o2).alloc o3).frozen? ⟨w.heap.size + 1, 8, none⟩ = false := by simp [go_sem]
  have G9 : ((((((w.alloc (.cells #[.int .i64 p, .int .i64 k, .int .i64 f, .int .i64 t, .int .i64 s, .int .i64 q, .int .i64 x, .int .i64 y, .int .i64 z, .int .i64 e, (.slice a len cap)] 48)).alloc (.cells #[.int .i64 0, .int .i64 0, .int .i64 0, .int .i64 0, .int .i64 0, .int .i64 0, .int .i64 0, .int .i64 0, .int .i64 0, .int .i64 0, (.slice none 0 0)] 52)).alloc (.cells #[.int .i64 p, .int .i64 k, .int .i64 f, .int .i64 t, .int .i64 s, .int .i64 q, .int .i64 x, .int .i64 y, .int .i64 z, .int .i64 e, (.slice none 0 0)] 52)).alloc o1).alloc o2).alloc o3).frozen? ⟨w.heap.size + 1, 9, none⟩ = false := by simp [go_sem]
  have G10 : ((((((w.alloc (.cells #[.int .i64 p, .int .i64 k, .int .i64 f, .int .i64 t, .int .i64 s, .int .i64 q, .int .i64 x, .int .i64 y, .int .i64 z, .int .i64 e, (.slice a len cap)] 48)).alloc (.cells #[.int .i64 0, .int .i64 0, .int .i64 0, .int .i64 0, .int .i64 0, .int .i64 0, .int .i64 0, .int .i64 0, .int .i64 0, .int .i64 0, (.slice none 0 0)] 52)).alloc (.cells #[.int .i64 p, .int .i64 k, .int .i64 f, .int .i64 t, .int .i64 s, .int .i64 q, .int .i64 x, .int .i64 y, .int .i64 z, .int .i64 e, (.slice none 0 0)] 52)).alloc o1).alloc o2).alloc o3).frozen? ⟨w.heap.size + 1, 10, none⟩ = false := by simp [go_sem]
  have G11 : ((((((w.alloc (.cells #[.int .i64 p, .int .i64 k, .int .i64 f, .int .i64 t, .int .i64 s, .int .i64 q, .int .i64 x, .int .i64 y, .int .i64 z, .int .i64 e, (.slice a len cap)] 48)).alloc (.cells #[.int .i64 0, .int .i64 0, .int .i64 0, .int .i64 0, .int .i64 0, .int .i64 0, .int .i64 0, .int .i64 0, .int .i64 0, .int .i64 0, (.slice none 0 0)] 52)).alloc (.cells #[.int .i64 p, .int .i64 k, .int .i64 f, .int .i64 t, .int .i64 s, .int .i64 q, .int .i64 x, .int .i64 y, .int .i64 z, .int .i64 e, (.slice none 0 0)] 52)).alloc o1).alloc o2).alloc o3).frozen? ⟨w.heap.size + 1 + 1, 10, none⟩ = false := by simp [go_sem]
  have bw : Below w.heap.size w ((((((w.alloc (.cells #[.int .i64 p, .int .i64 k, .int .i64 f, .int .i64 t, .int .i64 s, .int .i64 q, .int .i64 x, .int .i64 y, .int .i64 z, .int .i64 e, (.slice a len cap)] 48)).alloc (.cells #[.int .i64 0, .int .i64 0, .int .i64 0, .int .i64 0, .int .i64 0, .int .i64 0, .int .i64 0, .int .i64 0, .int .i64 0, .int .i64 0, (.slice none 0 0)] 52)).alloc (.cells #[.int .i64 p, .int .i64 k, .int .i64 f, .int .i64 t, .int .i64 s, .int .i64 q, .int .i64 x, .int .i64 y, .int .i64 z, .int .i64 e, (.slice none 0 0)] 52)).alloc o1).alloc o2).alloc o3) := balloc _ (balloc _ (balloc _ (balloc _ (balloc _ (balloc _ (Below.refl _ _))))))
  generalize ((((((w.alloc (.cells #[.int .i64 p, .int .i64 k, .int .i64 f, .int .i64 t, .int .i64 s, .int .i64 q, .int .i64 x, .int .i64 y, .int .i64 z, .int .i64 e, (.slice a len cap)] 48)).alloc (.cells #[.int .i64 0, .int .i64 0, .int .i64 0, .int .i64 0, .int .i64 0, .int .i64 0, .int .i64 0, .int .i64 0, .int .i64 0, .int .i64 0, (.slice none 0 0)] 52)).alloc (.cells #[.int .i64 p, .int .i64 k, .int .i64 f, .int .i64 t, .int .i64 s, .int .i64 q, .int .i64 x, .int .i64 y, .int .i64 z, .int .i64 e, (.slice none 0 0)] 52)).alloc o1).alloc o2).alloc o3) = W at *
  have lO : w.heap.size + 1 + 1 < W.heap.size := World.block_lt_of_cell? _ _ P0
  have lR : w.heap.size + 1 < W.heap.size := by omega
  have hne : w.heap.size + 1 ≠ w.heap.size + 1 + 1 := by omega
  have ge1 : w.heap.size ≤ w.heap.size + 1 := by omega
  have ge2 : w.heap.size ≤ w.heap.size + 1 + 1 := by omega
  generalize w.heap.size + 1 + 1 = KO at *
  generalize w.heap.size + 1 = KR at *
  refine (toFactS_any a len cap F _ (h.below bw) hl hc).mono ?_
  rintro r w1 ⟨b, rfl, f1, hb1, hge, b1⟩
  replace P0 := keep_below b1 P0
  replace R0 := keep_below b1 R0
  replace G0 := keep_frozen b1 lR G0
  replace P1 := keep_below b1 P1
  replace R1 := keep_below b1 R1
  replace G1 := keep_frozen b1 lR G1
  replace P2 := keep_below b1 P2
  replace R2 := keep_below b1 R2
  replace G2 := keep_frozen b1 lR G2
  replace P3 := keep_below b1 P3
  replace R3 := keep_below b1 R3
  replace G3 := keep_frozen b1 lR G3
  replace P4 := keep_below b1 P4
  replace R4 := keep_below b1 R4
  replace G4 := keep_frozen b1 lR G4
  replace P5 := keep_below b1 P5
  replace R5 := keep_below b1 R5
  replace G5 := keep_frozen b1 lR G5
  replace P6 := keep_below b1 P6
  replace R6 := keep_below b1 R6
  replace G6 := keep_frozen b1 lR G6
  replace P7 := keep_below b1 P7
  replace R7 := keep_below b1 R7
  replace G7 := keep_frozen b1 lR G7
  replace P8 := keep_below b1 P8
  replace R8 := keep_below b1 R8
  replace G8 := keep_frozen b1 lR G8
  replace P9 := keep_below b1 P9
  replace R9 := keep_below b1 R9
  replace G9 := keep_frozen b1 lR G9
  replace P10 := keep_below b1 P10
  replace R10 := keep_below b1 R10
  replace G10 := keep_frozen b1 lR G10
  replace G11 := keep_frozen b1 lO G11
  have B1 := btrans bw b1
  have nO : b ≠ KO := by omega
  have nR : b ≠ KR := by omega
  clear bw b1 h
  go_wp2
  have Q0 : ((((((((((((w1.setCell ⟨KO, 10, none⟩ (.slice (some ⟨b, 0, none⟩) len len)).setCell ⟨KR, 0, none⟩ (.int .i64 p)).setCell ⟨KR, 1, none⟩ (.int .i64 k)).setCell ⟨KR, 2, none⟩ (.int .i64 f)).setCell ⟨KR, 3, none⟩ (.int .i64 t)).setCell ⟨KR, 4, none⟩ (.int .i64 s)).setCell ⟨KR, 5, none⟩ (.int .i64 q)).setCell ⟨KR, 6, none⟩ (.int .i64 x)).setCell ⟨KR, 7, none⟩ (.int .i64 y)).setCell ⟨KR, 8, none⟩ (.int .i64 z)).setCell ⟨KR, 9, none⟩ (.int .i64 e)).setCell ⟨KR, 10, none⟩ (.slice (some ⟨b, 0, none⟩) len len)).cell? ⟨KR, 0, none⟩ = some (.int .i64 p) := cs_off _ (by decide) (cs_off _ (by decide) (cs_off _ (by decide) (cs_off _ (by decide) (cs_off _ (by decide) (cs_off _ (by decide) (cs_off _ (by decide) (cs_off _ (by decide) (cs_off _ (by decide) (cs_off _ (by decide) (cs_same _ (cs_far _ hne R0)))))))))))
  have Q1 : ((((((((((((w1.setCell ⟨KO, 10, none⟩ (.slice (some ⟨b, 0, none⟩) len len)).setCell ⟨KR, 0, none⟩ (.int .i64 p)).setCell ⟨KR, 1, none⟩ (.int .i64 k)).setCell ⟨KR, 2, none⟩ (.int .i64 f)).setCell ⟨KR, 3, none⟩ (.int .i64 t)).setCell ⟨KR, 4, none⟩ (.int .i64 s)).setCell ⟨KR, 5, none⟩ (.int .i64 q)).setCell ⟨KR, 6, none⟩ (.int .i64 x)).setCell ⟨KR, 7, none⟩ (.int .i64 y)).setCell ⟨KR, 8, none⟩ (.int .i64 z)).setCell ⟨KR, 9, none⟩ (.int .i64 e)).setCell ⟨KR, 10, none⟩ (.slice (some ⟨b, 0, none⟩) len len)).cell? ⟨KR, 1, none⟩ = some (.int .i64 k) := cs_off _ (by decide) (cs_off _ (by decide) (cs_off _ (by decide) (cs_off _ (by decide) (cs_off _ (by decide) (cs_off _ (by decide) (cs_off _ (by decide) (cs_off _ (by decide) (cs_off _ (by decide) (cs_same _ (cs_off _ (by decide) (cs_far _ hne R1)))))))))))
  have Q2 : ((((((((((((w1.setCell ⟨KO, 10, none⟩ (.slice (some ⟨b, 0, none⟩) len len)).setCell ⟨KR, 0, none⟩ (.int .i64 p)).setCell ⟨KR, 1, none⟩ (.int .i64 k)).setCell ⟨KR, 2, none⟩ (.int .i64 f)).setCell ⟨KR, 3, none⟩ (.int .i64 t)).setCell ⟨KR, 4, none⟩ (.int .i64 s)).setCell ⟨KR, 5, none⟩ (.int .i64 q)).setCell ⟨KR, 6, none⟩ (.int .i64 x)).setCell ⟨KR, 7, none⟩ (.int .i64 y)).setCell ⟨KR, 8, none⟩ (.int .i64 z)).setCell ⟨KR, 9, none⟩ (.int .i64 e)).setCell ⟨KR, 10, none⟩ (.slice (some ⟨b, 0, none⟩) len len)).cell? ⟨KR, 2, none⟩ = some (.int .i64 f) := cs_off _ (by decide) (cs_off _ (by decide) (cs_off _ (by decide) (cs_off _ (by decide) (cs_off _ (by decide) (cs_off _ (by decide) (cs_off _ (by decide) (cs_off _ (by decide) (cs_same _ (cs_off _ (by decide) (cs_off _ (by decide) (cs_far _ hne R2)))))))))))
  have Q3 : ((((((((((((w1.setCell ⟨KO, 10, none⟩ (.slice (some ⟨b, 0, none⟩) len len)).setCell ⟨KR, 0, none⟩ (.int .i64 p)).setCell ⟨KR, 1, none⟩ (.int .i64 k)).setCell ⟨KR, 2, none⟩ (.int .i64 f)).setCell ⟨KR, 3, none⟩ (.int .i64 t)).setCell ⟨KR, 4, none⟩ (.int .i64 s)).setCell ⟨KR, 5, none⟩ (.int .i64 q)).setCell ⟨KR, 6, none⟩ (.int .i64 x)).setCell ⟨KR, 7, none⟩ (.int .i64 y)).setCell ⟨KR, 8, none⟩ (.int .i64 z)).setCell ⟨KR, 9, none⟩ (.int .i64 e)).setCell ⟨KR, 10, none⟩ (.slice (some ⟨b, 0, none⟩) len len)).cell? ⟨KR, 3, none⟩ = some (.int .i64 t) := cs_off _ (by decide) (cs_off _ (by decide) (cs_off _ (by decide) (cs_off _ (by decide) (cs_off _ (by decide) (cs_off _ (by decide) (cs_off _ (by decide) (cs_same _ (cs_off _ (by decide) (cs_off _ (by decide) (cs_off _ (by decide) (cs_far _ hne R3)))))))))))
  have Q4 : ((((((((((((w1.setCell ⟨KO, 10, none⟩ (.slice (some ⟨b, 0, none⟩) len len)).setCell ⟨KR, 0, none⟩ (.int .i64 p)).setCell ⟨KR, 1, none⟩ (.int .i64 k)).setCell ⟨KR, 2, none⟩ (.int .i64 f)).setCell ⟨KR, 3, none⟩ (.int .i64 t)).setCell ⟨KR, 4, none⟩ (.int .i64 s)).setCell ⟨KR, 5, none⟩ (.int .i64 q)).setCell ⟨KR, 6, none⟩ (.int .i64 x)).setCell ⟨KR, 7, none⟩ (.int .i64 y)).setCell ⟨KR, 8, none⟩ (.int .i64 z)).setCell ⟨KR, 9, none⟩ (.int .i64 e)).setCell ⟨KR, 10, none⟩ (.slice (some ⟨b, 0, none⟩) len len)).cell? ⟨KR, 4, none⟩ = some (.int .i64 s) := cs_off _ (by decide) (cs_off _ (by decide) (cs_off _ (by decide) (cs_off _ (by decide) (cs_off _ (by decide) (cs_off _ (by decide) (cs_same _ (cs_off _ (by decide) (cs_off _ (by decide) (cs_off _ (by decide) (cs_off _ (by decide) (cs_far _ hne R4)))))))))))
  have Q5 : ((((((((((((w1.setCell ⟨KO, 10, none⟩ (.slice (some ⟨b, 0, none⟩) len len)).setCell ⟨KR, 0, none⟩ (.int .i64 p)).setCell ⟨KR, 1, none⟩ (.int .i64 k)).setCell ⟨KR, 2, none⟩ (.int .i64 f)).setCell ⟨KR, 3, none⟩ (.int .i64 t)).setCell ⟨KR, 4, none⟩ (.int .i64 s)).setCell ⟨KR, 5, none⟩ (.int .i64 q)).setCell ⟨KR, 6, none⟩ (.int .i64 x)).setCell ⟨KR, 7, none⟩ (.int .i64 y)).setCell ⟨KR, 8, none⟩ (.int .i64 z)).setCell ⟨KR, 9, none⟩ (.int .i64 e)).setCell ⟨KR, 10, none⟩ (.slice (some ⟨b, 0, none⟩) len len)).cell? ⟨KR, 5, none⟩ = some (.int .i64 q) := cs_off _ (by decide) (cs_off _ (by decide) (cs_off _ (by decide) (cs_off _ (by decide) (cs_off _ (by decide) (cs_same _ (cs_off _ (by decide) (cs_off _ (by decide) (cs_off _ (by decide) (cs_off _ (by decide) (cs_off _ (by decide) (cs_far _ hne R5)))))))))))
  have Q6 : ((((((((((((w1.setCell ⟨KO, 10, none⟩ (.slice (some ⟨b, 0, none⟩) len len)).setCell ⟨KR, 0, none⟩ (.int .i64 p)).setCell ⟨KR, 1, none⟩ (.int .i64 k)).setCell ⟨KR, 2, none⟩ (.int .i64 f)).setCell ⟨KR, 3, none⟩ (.int .i64 t)).setCell ⟨KR, 4, none⟩ (.int .i64 s)).setCell ⟨KR, 5, none⟩ (.int .i64 q)).setCell ⟨KR, 6, none⟩ (.int .i64 x)).setCell ⟨KR, 7, none⟩ (.int .i64 y)).setCell ⟨KR, 8, none⟩ (.int .i64 z)).setCell ⟨KR, 9, none⟩ (.int .i64 e)).setCell ⟨KR, 10, none⟩ (.slice (some ⟨b, 0, none⟩) len len)).cell? ⟨KR, 6, none⟩ = some (.int .i64 x) := cs_off _ (by decide) (cs_off _ (by decide) (cs_off _ (by decide) (cs_off _ (by decide) (cs_same _ (cs_off _ (by decide) (cs_off _ (by decide) (cs_off _ (by decide) (cs_off _ (by decide) (cs_off _ (by decide) (cs_off _ (by decide) (cs_far _ hne R6)))))))))))
  have Q7 : ((((((((((((w1.setCell ⟨KO, 10, none⟩ (.slice (some ⟨b, 0, none⟩) len len)).setCell ⟨KR, 0, none⟩ (.int .i64 p)).setCell ⟨KR, 1, none⟩ (.int .i64 k)).setCell ⟨KR, 2, none⟩ (.int .i64 f)).setCell ⟨KR, 3, none⟩ (.int .i64 t)).setCell ⟨KR, 4, none⟩ (.int .i64 s)).setCell ⟨KR, 5, none⟩ (.int .i64 q)).setCell ⟨KR, 6, none⟩ (.int .i64 x)).setCell ⟨KR, 7, none⟩ (.int .i64 y)).setCell ⟨KR, 8, none⟩ (.int .i64 z)).setCell ⟨KR, 9, none⟩ (.int .i64 e)).setCell ⟨KR, 10, none⟩ (.slice (some ⟨b, 0, none⟩) len len)).cell? ⟨KR, 7, none⟩ = some (.int .i64 y) := cs_off _ (by decide) (cs_off _ (by decide) (cs_off _ (by decide) (cs_same _ (cs_off _ (by decide) (cs_off _ (by decide) (cs_off _ (by decide) (cs_off _ (by decide) (cs_off _ (by decide) (cs_off _ (by decide) (cs_off _ (by decide) (cs_far _ hne R7)))))))))))
  have Q8 : ((((((((((((w1.setCell ⟨KO, 10, none⟩ (.slice (some ⟨b, 0, none⟩) len len)).setCell ⟨KR, 0, none⟩ (.int .i64 p)).setCell ⟨KR, 1, none⟩ (.int .i64 k)).setCell ⟨KR, 2, none⟩ (.int .i64 f)).setCell ⟨KR, 3, none⟩ (.int .i64 t)).setCell ⟨KR, 4, none⟩ (.int .i64 s)).setCell ⟨KR, 5, none⟩ (.int .i64 q)).setCell ⟨KR, 6, none⟩ (.int .i64 x)).setCell ⟨KR, 7, none⟩ (.int .i64 y)).setCell ⟨KR, 8, none⟩ (.int .i64 z)).setCell ⟨KR, 9, none⟩ (.int .i64 e)).setCell ⟨KR, 10, none⟩ (.slice (some ⟨b, 0, none⟩) len len)).cell? ⟨KR, 8, none⟩ = some (.int .i64 z) := cs_off _ (by decide) (cs_off _ (by decide) (cs_same _ (cs_off _ (by decide) (cs_off _ (by decide) (cs_off _ (by decide) (cs_off _ (by decide) (cs_off _ (by decide) (cs_off _ (by decide) (cs_off _ (by decide) (cs_off _ (by decide) (cs_far _ hne R8)))))))))))
  have Q9 : ((((((((((((w1.setCell ⟨KO, 10, none⟩ (.slice (some ⟨b, 0, none⟩) len len)).setCell ⟨KR, 0, none⟩ (.int .i64 p)).setCell ⟨KR, 1, none⟩ (.int .i64 k)).setCell ⟨KR, 2, none⟩ (.int .i64 f)).setCell ⟨KR, 3, none⟩ (.int .i64 t)).setCell ⟨KR, 4, none⟩ (.int .i64 s)).setCell ⟨KR, 5, none⟩ (.int .i64 q)).setCell ⟨KR, 6, none⟩ (.int .i64 x)).setCell ⟨KR, 7, none⟩ (.int .i64 y)).setCell ⟨KR, 8, none⟩ (.int .i64 z)).setCell ⟨KR, 9, none⟩ (.int .i64 e)).setCell ⟨KR, 10, none⟩ (.slice (some ⟨b, 0, none⟩) len len)).cell? ⟨KR, 9, none⟩ = some (.int .i64 e) := cs_off _ (by decide) (cs_same _ (cs_off _ (by decide) (cs_off _ (by decide) (cs_off _ (by decide) (cs_off _ (by decide) (cs_off _ (by decide) (cs_off _ (by decide) (cs_off _ (by decide) (cs_off _ (by decide) (cs_off _ (by decide) (cs_far _ hne R9)))))))))))
  have Q10 : ((((((((((((w1.setCell ⟨KO, 10, none⟩ (.slice (some ⟨b, 0, none⟩) len len)).setCell ⟨KR, 0, none⟩ (.int .i64 p)).setCell ⟨KR, 1, none⟩ (.int .i64 k)).setCell ⟨KR, 2, none⟩ (.int .i64 f)).setCell ⟨KR, 3, none⟩ (.int .i64 t)).setCell ⟨KR, 4, none⟩ (.int .i64 s)).setCell ⟨KR, 5, none⟩ (.int .i64 q)).setCell ⟨KR, 6, none⟩ (.int .i64 x)).setCell ⟨KR, 7, none⟩ (.int .i64 y)).setCell ⟨KR, 8, none⟩ (.int .i64 z)).setCell ⟨KR, 9, none⟩ (.int .i64 e)).setCell ⟨KR, 10, none⟩ (.slice (some ⟨b, 0, none⟩) len len)).cell? ⟨KR, 10, none⟩ = some (.slice (some ⟨b, 0, none⟩) len len) := cs_same _ (cs_off _ (by decide) (cs_off _ (by decide) (cs_off _ (by decide) (cs_off _ (by decide) (cs_off _ (by decide) (cs_off _ (by decide) (cs_off _ (by decide) (cs_off _ (by decide) (cs_off _ (by decide) (cs_off _ (by decide) (cs_far _ hne R10)))))))))))
  have fF : FSl ((((((((((((w1.setCell ⟨KO, 10, none⟩ (.slice (some ⟨b, 0, none⟩) len len)).setCell ⟨KR, 0, none⟩ (.int .i64 p)).setCell ⟨KR, 1, none⟩ (.int .i64 k)).setCell ⟨KR, 2, none⟩ (.int .i64 f)).setCell ⟨KR, 3, none⟩ (.int .i64 t)).setCell ⟨KR, 4, none⟩ (.int .i64 s)).setCell ⟨KR, 5, none⟩ (.int .i64 q)).setCell ⟨KR, 6, none⟩ (.int .i64 x)).setCell ⟨KR, 7, none⟩ (.int .i64 y)).setCell ⟨KR, 8, none⟩ (.int .i64 z)).setCell ⟨KR, 9, none⟩ (.int .i64 e)).setCell ⟨KR, 10, none⟩ (.slice (some ⟨b, 0, none⟩) len len)) (some ⟨b, 0, none⟩) len F := FSl.set KR 10 _ nR (FSl.set KR 9 _ nR (FSl.set KR 8 _ nR (FSl.set KR 7 _ nR (FSl.set KR 6 _ nR (FSl.set KR 5 _ nR (FSl.set KR 4 _ nR (FSl.set KR 3 _ nR (FSl.set KR 2 _ nR (FSl.set KR 1 _ nR (FSl.set KR 0 _ nR (FSl.set KO 10 _ nO f1)))))))))))
  have BF : Below w.heap.size w ((((((((((((w1.setCell ⟨KO, 10, none⟩ (.slice (some ⟨b, 0, none⟩) len len)).setCell ⟨KR, 0, none⟩ (.int .i64 p)).setCell ⟨KR, 1, none⟩ (.int .i64 k)).setCell ⟨KR, 2, none⟩ (.int .i64 f)).setCell ⟨KR, 3, none⟩ (.int .i64 t)).setCell ⟨KR, 4, none⟩ (.int .i64 s)).setCell ⟨KR, 5, none⟩ (.int .i64 q)).setCell ⟨KR, 6, none⟩ (.int .i64 x)).setCell ⟨KR, 7, none⟩ (.int .i64 y)).setCell ⟨KR, 8, none⟩ (.int .i64 z)).setCell ⟨KR, 9, none⟩ (.int .i64 e)).setCell ⟨KR, 10, none⟩ (.slice (some ⟨b, 0, none⟩) len len)) := ((((((((((((B1.setCell (p := ⟨KO, 10, none⟩) ge2 _).setCell (p := ⟨KR, 0, none⟩) ge1 _).setCell (p := ⟨KR, 1, none⟩) ge1 _).setCell (p := ⟨KR, 2, none⟩) ge1 _).setCell (p := ⟨KR, 3, none⟩) ge1 _).setCell (p := ⟨KR, 4, none⟩) ge1 _).setCell (p := ⟨KR, 5, none⟩) ge1 _).setCell (p := ⟨KR, 6, none⟩) ge1 _).setCell (p := ⟨KR, 7, none⟩) ge1 _).setCell (p := ⟨KR, 8, none⟩) ge1 _).setCell (p := ⟨KR, 9, none⟩) ge1 _).setCell (p := ⟨KR, 10, none⟩) ge1 _)
  clear P0 R0 G0 P1 R1 G1 P2 R2 G2 P3 R3 G3 P4 R4 G4 P5 R5 G5 P6 R6 G6 P7 R7 G7 P8 R8 G8 P9 R9 G9 P10 R10 G10 G11 f1 B1
  generalize ((((((((((((w1.setCell ⟨KO, 10, none⟩ (.slice (some ⟨b, 0, none⟩) len len)).setCell ⟨KR, 0, none⟩ (.int .i64 p)).setCell ⟨KR, 1, none⟩ (.int .i64 k)).setCell ⟨KR, 2, none⟩ (.int .i64 f)).setCell ⟨KR, 3, none⟩ (.int .i64 t)).setCell ⟨KR, 4, none⟩ (.int .i64 s)).setCell ⟨KR, 5, none⟩ (.int .i64 q)).setCell ⟨KR, 6, none⟩ (.int .i64 x)).setCell ⟨KR, 7, none⟩ (.int .i64 y)).setCell ⟨KR, 8, none⟩ (.int .i64 z)).setCell ⟨KR, 9, none⟩ (.int .i64 e)).setCell ⟨KR, 10, none⟩ (.slice (some ⟨b, 0, none⟩) len len)) = WF at *
  exact bodyPost_ret (v := .agg #[.int .i64 p, .int .i64 k, .int .i64 f, .int .i64 t, .int .i64 s, .int .i64 q, .int .i64 x, .int .i64 y, .int .i64 z, .int .i64 e, (.slice (some ⟨b, 0, none⟩) len len)]) (by simp [results, Tryz.results15, go_sem, Q0, Q1, Q2, Q3, Q4, Q5, Q6, Q7, Q8, Q9, Q10]) rfl ⟨b, rfl, fF, BF⟩
set_option maxHeartbeats 2000000 in
theorem eqWord_same (p k f t s q x y z e : Int) (a a' : Option Addr) (len cap cap' : Nat) (F : Nat → Fc) (w : World) (h : FSl w a len F) (h' : FSl w a' len F) (hl : len ≤ 1048576) :
    Calls Tryz.prog 17 #[.agg #[.int .i64 p, .int .i64 k, .int .i64 f, .int .i64 t, .int .i64 s, .int .i64 q, .int .i64 x, .int .i64 y, .int .i64 z, .int .i64 e, (.slice a len cap)], .agg #[.int .i64 p, .int .i64 k, .int .i64 f, .int .i64 t, .int .i64 s, .int .i64 q, .int .i64 x, .int .i64 y, .int .i64 z, .int .i64 e, (.slice a' len cap')]] w fun r w' => r = .returned (.bool true) ∧ Below w.heap.size w w' := by
  go_enter Tryz.func17, Tryz.ntmps17
  go_wp2_with fail
  have c0 : ((w.alloc (.cells #[.int .i64 p, .int .i64 k, .int .i64 f, .int .i64 t, .int .i64 s, .int .i64 q, .int .i64 x, .int .i64 y, .int .i64 z, .int .i64 e, (.slice a len cap)] 52)).alloc (.cells #[.int .i64 p, .int .i64 k, .int .i64 f, .int .i64 t, .int .i64 s, .int .i64 q, .int .i64 x, .int .i64 y, .int .i64 z, .int .i64 e, (.slice a' len cap')] 52)).cell? ⟨w.heap.size, 10, none⟩ = some (.slice a len cap) := by simp [go_sem]
  have c1 : ((w.alloc (.cells #[.int .i64 p, .int .i64 k, .int .i64 f, .int .i64 t, .int .i64 s, .int .i64 q, .int .i64 x, .int .i64 y, .int .i64 z, .int .i64 e, (.slice a len cap)] 52)).alloc (.cells #[.int .i64 p, .int .i64 k, .int .i64 f, .int .i64 t, .int .i64 s, .int .i64 q, .int .i64 x, .int .i64 y, .int .i64 z, .int .i64 e, (.slice a' len cap')] 52)).cell? ⟨w.heap.size + 1, 10, none⟩ = some (.slice a' len cap') := by simp [go_sem]
  have bw : Below w.heap.size w ((w.alloc (.cells #[.int .i64 p, .int .i64 k, .int .i64 f, .int .i64 t, .int .i64 s, .int .i64 q, .int .i64 x, .int .i64 y, .int .i64 z, .int .i64 e, (.slice a len cap)] 52)).alloc (.cells #[.int .i64 p, .int .i64 k, .int .i64 f, .int .i64 t, .int .i64 s, .int .i64 q, .int .i64 x, .int .i64 y, .int .i64 z, .int .i64 e, (.slice a' len cap')] 52)) := balloc _ (balloc _ (Below.refl _ _))
  generalize ((w.alloc (.cells #[.int .i64 p, .int .i64 k, .int .i64 f, .int .i64 t, .int .i64 s, .int .i64 q, .int .i64 x, .int .i64 y, .int .i64 z, .int .i64 e, (.slice a len cap)] 52)).alloc (.cells #[.int .i64 p, .int .i64 k, .int .i64 f, .int .i64 t, .int .i64 s, .int .i64 q, .int .i64 x, .int .i64 y, .int .i64 z, .int .i64 e, (.slice a' len cap')] 52)) = W at *
  refine (eqCoord_same _ _ _ _ _).mono ?_
  rintro r w1 ⟨rfl, b1⟩
  replace c0 := keep_below b1 c0
  replace c1 := keep_below b1 c1
  have B1 := btrans bw b1
  clear bw b1
  go_wp2_with fail
  refine (eqFactS_same a a' len cap cap' F _ (h.below B1) (h'.below B1) hl).mono ?_
  rintro r w2 ⟨rfl, b2⟩
  go_wp2
  go_ret
  exact ⟨rfl, btrans B1 b2⟩
end Go.Proofs.YtnplhfgdbabmaaaGreat
