/- Texts of the proof, laid together: L3x, Slots. -/
import Derived.Test.YtibnojbhoepcdaaGreatDoorQt2
import Derived.Laws.AppendOwn
import Derived.Test.YtibnojbhoepcdaaGreatDoorQt3
import Derived.Test.YtibnojbhoepcdaaGreatDoorQt1
import Derived.LoopTactic
import Derived.WalkKit
import Derived.ProofKit
import Derived.WalkLawsBesides
import Derived.Deep.QuietTactic
import Derived.BigQuiet
import Derived.Deep.RegionHeld3
import Derived.Deep.DrawnRows
/- What the port of the tables had left out. -/
namespace Go.Proofs.YtibnojbhoepcdaaGreatDoor
open Go.ChangeShapes Go.WideShapes Go.ChangeAt Go.RowKit
attribute [local go_sem ↓] Go.wp_at_zero Go.wp_at_succ
set_option maxRecDepth 20000 in
theorem l3_any (n i s : Int) (g : Bool) (n' i' s' : Int) (g' : Bool) (w : World) :
    Calls Tryz.prog 101 #[.agg #[.int .i64 n, .int .i64 i, .int .i64 s, .bool g], .agg #[.int .i64 n', .int .i64 i', .int .i64 s', .bool g']] w fun r w' => r = .returned (.bool (l3B i s g i' s' g')) ∧ ∃ o1 o2, w' = (w.alloc o1).alloc o2 := by
  go_enter Tryz.func101, Tryz.ntmps101
  go_wp2
  all_goals (go_ret; exact ⟨ret_bool (by unfold l3B; simp_all), _, _, rfl⟩)
set_option maxRecDepth 20000 in
theorem find_any (a : Option Addr) (len cap : Nat) (F : Nat → Fc) (x : Int) (w : World) (h : FSl w a len F) (hl : len ≤ 1048576) :
    Calls Tryz.prog 100 #[.slice a len cap, .int .i64 x] w fun e w' => ∃ r, e = .returned (.int .i64 r) ∧ Found len F x r ∧ w' = w := by
  go_enter Tryz.func100, Tryz.ntmps100
  go_wp2
  go_loopw [5] (fun i wr => ∃ k : Nat, k ≤ len ∧ i = .int .i64 k ∧ wr = w ∧ ∀ j, j < k → (F j).n ≠ x) (fun i _ => len - (intOf i).toNat)
  case atStart => exact ⟨0, Nat.zero_le _, rfl, rfl, fun j hj => by omega⟩
  case round =>
    obtain ⟨k, hk, rfl, rfl, hall⟩ := hrel
    by_cases hlt : k < len
    · obtain ⟨b, off, rfl, hbl, hf⟩ := h (by omega)
      obtain ⟨c0, _, _, _⟩ := hf k hlt
      have i0 : (0 : Int) ≤ (k : Int) := by omega
      have i1 : (k : Int) < (len : Int) := by omega
      by_cases e : (F k).n = x
      · go_wp2
        go_ret
        exact ⟨_, rfl, .inr ⟨k, hlt, rfl, e, hall⟩, rfl⟩
      · go_wp2
        go_roundw
        case rel => exact ⟨k + 1, by omega, by go_num, by first | rfl | trivial, fun j hj => by
          by_cases e' : j = k
          · subst e'; exact e
          · exact hall j (by omega)⟩
        case measure => simp [intOf]; omega
    · go_wp2
      go_ret
      exact ⟨_, rfl, .inl ⟨rfl, fun j hj => hall j (by omega)⟩, rfl⟩
set_option maxRecDepth 20000 in
set_option maxHeartbeats 8000000 in
theorem l3_new (b off len cap : Nat) (F : Nat → Fc) (f : Fc) (w : World) (hf : FactsIn w b off len F) (hbl : b < w.heap.size) (hc : len ≤ cap) (hl : len ≤ 1048576) (hno : ∀ k, k < len → (F k).n ≠ f.n) :
    Calls Tryz.prog 68 #[.slice (some ⟨b, off, none⟩) len cap, fval f] w fun e w' => ∃ v' c', e = .returned (.tuple #[.slice v' (len + 1) c', .bool true]) ∧ w'.ownsRow w.heap.size 53 4 (.slice v' (len + 1) c') (len + 1) (fl (tput (seqF F len) f)) ∧ Below w.heap.size w w' := by
  go_enter Tryz.func68, Tryz.ntmps68
  go_wp2_with fail
  have p0 : (w.alloc (.cells #[.int .i64 f.n, .int .i64 f.i, .int .i64 f.s, .bool f.g] 53)).heap[w.heap.size]? = some (.cells #[.int .i64 f.n, .int .i64 f.i, .int .i64 f.s, .bool f.g] 53 (0, 0)) := heap_alloc_new _ _
  have B0 : Below w.heap.size w (w.alloc (.cells #[.int .i64 f.n, .int .i64 f.i, .int .i64 f.s, .bool f.g] 53)) := balloc _ (Below.refl _ _)
  generalize (w.alloc (.cells #[.int .i64 f.n, .int .i64 f.i, .int .i64 f.s, .bool f.g] 53)) = W0 at *
  refine (find_any _ len cap F f.n _ (fun _ => ⟨b, off, rfl, by have := B0.size; omega, hf.below B0 hbl⟩) hl).mono ?_
  rintro r w0 ⟨r0, rfl, hF, hw⟩
  obtain rfl := hw.symm
  obtain rfl : r0 = -1 := by
    rcases hF with ⟨h, _⟩ | ⟨j, hj, _, e, _⟩
    · exact h
    · exact absurd e (hno j hj)
  clear hF hw
  go_wp2_with fail
  go_loopw [8] (fun i wr => ∃ k : Nat, k ≤ len ∧ i = .int .i64 k ∧ Below w.heap.size w wr ∧ wr.heap[w.heap.size]? = some (.cells #[.int .i64 f.n, .int .i64 f.i, .int .i64 f.s, .bool f.g] 53 (0, 0)) ∧ ∀ j, j < k → (F j).n < f.n) (fun i _ => len - (intOf i).toNat)
  case atStart => exact ⟨0, Nat.zero_le _, rfl, B0, p0, fun j hj => by omega⟩
  case round =>
    obtain ⟨k, hk, rfl, hb, hp, hall⟩ := hrel
    clear p0 B0
    have e0 := cell_block (o := 0) hp rfl
    have e1 := cell_block (o := 1) hp rfl
    have e2 := cell_block (o := 2) hp rfl
    have e3 := cell_block (o := 3) hp rfl
    by_cases hlt : k < len
    · obtain ⟨c0, _, _, _⟩ := (hf.below hb hbl) k hlt
      have i0 : (0 : Int) ≤ (k : Int) := by omega
      have i1 : (k : Int) < (len : Int) := by omega
      go_wp2_with fail
      go_quiet (fail)
      by_cases hle : (F k).n < f.n
      · go_wp2
        go_roundw
        case rel => exact ⟨k + 1, by omega, by go_num, QB hb, hp, fun j hj => by
          by_cases e : j = k
          · subst e; exact hle
          · exact hall j (by omega)⟩
        case measure => simp [intOf]; omega
      · have hput : Hid (tput (seqF F len) f = (seqF F len).take k ++ [f] ++ (seqF F len).drop k) := tput_at k (by rw [seqF_len]; omega) (fun j hj => by rw [seqF_getD F (by omega)]; exact hall j hj) (fun _ => by rw [seqF_getD F hlt]; have := hno k hlt; omega)
        clear c0 hp
        go_wp2_with fail
        have hb3 : Below w.heap.size w (wr.drewN nq) := ⟨hb.os, hb.tape, hb.output, hb.size, hb.block⟩
        have hfW : FactsIn (wr.drewN nq) b off len F := hf.below hb3 hbl
        have d0 : (wr.drewN nq).cell? ⟨w.heap.size, 0, none⟩ = some (.int .i64 f.n) := e0
        have d1 : (wr.drewN nq).cell? ⟨w.heap.size, 1, none⟩ = some (.int .i64 f.i) := e1
        have d2 : (wr.drewN nq).cell? ⟨w.heap.size, 2, none⟩ = some (.int .i64 f.s) := e2
        have d3 : (wr.drewN nq).cell? ⟨w.heap.size, 3, none⟩ = some (.bool f.g) := e3
        have hbW : b < (wr.drewN nq).heap.size := Nat.lt_of_lt_of_le hbl hb3.size
        clear e0 e1 e2 e3 hb hall
        generalize (wr.drewN nq) = W at *
        have k7 : (k : Int) ≤ (len : Int) := by omega
        have k9 : k ≤ cap := by omega
        have k8 : (0 : Int) ≤ (k : Int) := by omega
        refine wp_region_held_drew (S := fun w' => w'.cell? ⟨w.heap.size, 0, none⟩ = some (.int .i64 f.n) ∧ w'.cell? ⟨w.heap.size, 1, none⟩ = some (.int .i64 f.i) ∧ w'.cell? ⟨w.heap.size, 2, none⟩ = some (.int .i64 f.s) ∧ w'.cell? ⟨w.heap.size, 3, none⟩ = some (.bool f.g)) (by kernel_rfl) ?_ (fun hHeld => ?_)
        · exact ⟨keep_drew d0, keep_drew d1, keep_drew d2, keep_drew d3⟩
        refine tl (i := 1) (oi := { dst := some 48, op := .move (.tmp 0), type := 24, pos := "l3_fact.go:61", after := #[], guard := none }) ?_
        (try simp only [pq])
        refine tl (i := 2) (oi := { dst := some 49, op := .move (.tmp 8), type := 3, pos := "l3_fact.go:61", after := #[], guard := none }) ?_
        (try simp only [pq])
        refine tl (i := 3) (oi := { dst := some 50, op := .slice 24 (.tmp 48) none (some (.tmp 49)) none, type := 24, pos := "l3_fact.go:61", after := #[{ on := 1, ground := .data }, { on := 2, ground := .data }], guard := none }) ?_
        (try simp only [pq])
        refine tl (i := 5) (oi := { dst := some 52, op := .load 53 (.tmp 3), type := 53, pos := "l3_fact.go:61", after := #[], guard := none }) ?_
        (try simp only [pq])
        refine tl (i := 8) (oi := { dst := some 55, op := .move (.tmp 0), type := 24, pos := "l3_fact.go:61", after := #[], guard := none }) ?_
        (try simp only [pq])
        refine tl (i := 9) (oi := { dst := some 56, op := .move (.tmp 8), type := 3, pos := "l3_fact.go:61", after := #[], guard := none }) ?_
        (try simp only [pq])
        refine tl (i := 10) (oi := { dst := some 57, op := .slice 24 (.tmp 55) (some (.tmp 56)) none none, type := 24, pos := "l3_fact.go:61", after := #[{ on := 8, ground := .data }, { on := 9, ground := .data }], guard := none }) ?_
        (try simp only [pq])
        refine wpAnyH_ready (rs := [0, 6]) (by kernel_rfl) (by simp) ?_
        refine AllReadyH.cons (o := { dst := some 47, op := .buildSlice 24 0 #[], type := 24, pos := "l3_fact.go:61", after := #[], guard := none }) rfl (fun K hK => ?_) (AllReadyH.cons (o := { dst := some 53, op := .buildSlice 24 1 #[(0, .tmp 52)], type := 24, pos := "l3_fact.go:61", after := #[{ on := 5, ground := .data }], guard := none }) rfl (fun K hK => ?_) AllReadyH.nil)
        · go_simp
          have oR1 : ((W.alloc (.cells #[] 53)).drew).ownsRow W.heap.size 53 4 (.slice (some ⟨W.heap.size, 0, none⟩) 0 0) 0 (fl []) := World.ownsRow_lit W #[] 0 (Nat.le_refl _) (by unfold maxLen; omega) rfl
          have BV1 : Below W.heap.size W ((W.alloc (.cells #[] 53)).drew) := QB1 (balloc (.cells #[] 53) (Below.refl _ W))
          refine hK.out _ _ ?_ (fun hHeld => ?_)
          · (try dsimp only); exact ⟨keep_below BV1 d0, keep_below BV1 d1, keep_below BV1 d2, keep_below BV1 d3⟩
          clear hK K
          (try simp only [pq])
          generalize ((W.alloc (.cells #[] 53)).drew) = V1 at *
          refine wpAnyH_ready (rs := [4, 6]) (by kernel_rfl) (by simp) ?_
          refine AllReadyH.cons (o := { dst := some 51, op := .call { callee := .builtin .append, args := #[.tmp 47, .tmp 50], argTypes := #[24, 24] }, type := 24, pos := "l3_fact.go:61", after := #[{ on := 0, ground := .data }, { on := 3, ground := .data }], guard := none }) rfl (fun K hK => ?_) (AllReadyH.cons (o := { dst := some 53, op := .buildSlice 24 1 #[(0, .tmp 52)], type := 24, pos := "l3_fact.go:61", after := #[{ on := 5, ground := .data }], guard := none }) rfl (fun K hK => ?_) AllReadyH.nil)
          · refine step_appF (by rfl) _ _ (by rfl) W.heap.size (.slice (some ⟨W.heap.size, 0, none⟩) 0 0) 0 [] (by rfl) (by simp) oR1 (some ⟨b, off, none⟩) b off rfl k cap ((seqF F len).take k) (by rfl) (by simp [seqF_len]; omega) ((facts_take hfW (by omega)).below BV1 hbW) k (Nat.zero_add k) (by omega) BV1.size ?_
            intro g2 c2 V2 oR2 gr2 hc2
            have BV2 := own_grow BV1 BV1.size oR1 gr2
            refine hK.out _ _ ?_ (fun hHeld => ?_)
            · (try dsimp only); exact ⟨keep_below BV2 d0, keep_below BV2 d1, keep_below BV2 d2, keep_below BV2 d3⟩
            clear hK K
            (try simp only [pq])
            refine wpAnyH_ready (rs := [6]) (by kernel_rfl) (by simp) ?_
            refine AllReadyH.cons (o := { dst := some 53, op := .buildSlice 24 1 #[(0, .tmp 52)], type := 24, pos := "l3_fact.go:61", after := #[{ on := 5, ground := .data }], guard := none }) rfl (fun K hK => ?_) AllReadyH.nil
            go_simp
            have cX3 : FactsIn (V2.alloc (.cells #[.int .i64 f.n, .int .i64 f.i, .int .i64 f.s, .bool f.g] 53)) V2.heap.size 0 1 (fun j => [f].getD j Fc.zero) := new_one V2 f
            have BV3 : Below W.heap.size W (V2.alloc (.cells #[.int .i64 f.n, .int .i64 f.i, .int .i64 f.s, .bool f.g] 53)) := (balloc (.cells #[.int .i64 f.n, .int .i64 f.i, .int .i64 f.s, .bool f.g] 53) BV2)
            have oR3 := oR2.alloc (.cells #[.int .i64 f.n, .int .i64 f.i, .int .i64 f.s, .bool f.g] 53)
            refine hK.out _ _ ?_ (fun hHeld => ?_)
            · (try dsimp only); exact ⟨keep_below BV3 d0, keep_below BV3 d1, keep_below BV3 d2, keep_below BV3 d3⟩
            clear hK K
            (try simp only [pq])
            generalize (V2.alloc (.cells #[.int .i64 f.n, .int .i64 f.i, .int .i64 f.s, .bool f.g] 53)) = V3 at *
            refine wpAnyH_ready (rs := [7]) (by kernel_rfl) (by simp) ?_
            refine AllReadyH.cons (o := { dst := some 54, op := .call { callee := .builtin .append, args := #[.tmp 51, .tmp 53], argTypes := #[24, 24] }, type := 24, pos := "l3_fact.go:61", after := #[{ on := 4, ground := .data }, { on := 6, ground := .data }, { on := 4, ground := .chain }], guard := none }) rfl (fun K hK => ?_) AllReadyH.nil
            refine step_appF (by rfl) _ _ (by rfl) W.heap.size (.slice (some ⟨g2, 0, none⟩) k c2) k _ (by rfl) (by simp) oR3 (some ⟨V2.heap.size, 0, none⟩) V2.heap.size 0 rfl 1 1 [f] (by rfl) rfl cX3 (k + 1) rfl (by omega) BV3.size ?_
            intro g8 c8 V8 oR8 gr8 hc8
            have BV8 := own_grow BV3 BV3.size oR3 gr8
            refine hK.out _ _ ?_ (fun hHeld => ?_)
            · (try dsimp only); exact ⟨keep_below BV8 d0, keep_below BV8 d1, keep_below BV8 d2, keep_below BV8 d3⟩
            clear hK K
            (try simp only [pq])
            refine wpAnyH_ready (rs := [11]) (by kernel_rfl) (by simp) ?_
            refine AllReadyH.cons (o := { dst := some 58, op := .call { callee := .builtin .append, args := #[.tmp 54, .tmp 57], argTypes := #[24, 24] }, type := 24, pos := "l3_fact.go:61", after := #[{ on := 7, ground := .data }, { on := 10, ground := .data }, { on := 7, ground := .chain }], guard := none }) rfl (fun K hK => ?_) AllReadyH.nil
            refine step_appF (by rfl) _ _ (by rfl) W.heap.size (.slice (some ⟨g8, 0, none⟩) (k + 1) c8) (k + 1) _ (by rfl) (by simp) oR8 (if cap = k then some ⟨b, off, none⟩ else some ⟨b, off + k * 4, none⟩) b (if cap = k then off else off + k * 4) (by split <;> rfl) (len - k) (cap - k) ((seqF F len).drop k) (by rfl) (by simp [seqF_len]) (by split; exact (fun j hj => by omega); exact (facts_drop hfW (by omega)).below BV8 hbW) (len + 1) (by omega) (by omega) BV8.size ?_
            intro g9 c9 V9 oR9 gr9 hc9
            have BV9 := own_grow BV8 BV8.size oR8 gr9
            refine hK.out _ _ ?_ (fun hHeld => ?_)
            · (try dsimp only); exact ⟨keep_below BV9 d0, keep_below BV9 d1, keep_below BV9 d2, keep_below BV9 d3⟩
            clear hK K
            (try simp only [pq])
            refine tl (i := 12) (oi := { dst := some 4, op := .assign (.tmp 58), type := 24, pos := "l3_fact.go:61", after := #[{ on := 11, ground := .data }, { on := 11, ground := .chain }, { on := 0, ground := .phase }, { on := 1, ground := .phase }, { on := 2, ground := .phase }, { on := 3, ground := .phase }, { on := 4, ground := .phase }, { on := 5, ground := .phase }, { on := 6, ground := .phase }, { on := 7, ground := .phase }, { on := 8, ground := .phase }, { on := 9, ground := .phase }, { on := 10, ground := .phase }, { on := 11, ground := .phase }], guard := none }) ?_
            (try simp only [pq])
            refine tl (i := 13) (oi := { dst := some 5, op := .assign (.const (.bool true)), type := 4, pos := "l3_fact.go:61", after := #[{ on := 12, ground := .chain }, { on := 0, ground := .phase }, { on := 1, ground := .phase }, { on := 2, ground := .phase }, { on := 3, ground := .phase }, { on := 4, ground := .phase }, { on := 5, ground := .phase }, { on := 6, ground := .phase }, { on := 7, ground := .phase }, { on := 8, ground := .phase }, { on := 9, ground := .phase }, { on := 10, ground := .phase }, { on := 11, ground := .phase }, { on := 12, ground := .phase }], guard := none }) ?_
            (try simp only [pq])
            refine wpAnyH_done (by kernel_rfl) ?_ _
            have BF := btrans hb3 BV9
            rw [List.nil_append, ← hput.out] at oR9
            clear oR8 gr8 gr9 BV8 BV9 hfW
            go_wp2
            all_goals (go_ret2; exact ⟨_, c9, rfl, own_mono hb3.size oR9, BF⟩)
          · go_simp
            have cX2 : FactsIn (V1.alloc (.cells #[.int .i64 f.n, .int .i64 f.i, .int .i64 f.s, .bool f.g] 53)) V1.heap.size 0 1 (fun j => [f].getD j Fc.zero) := new_one V1 f
            have BV2 : Below W.heap.size W (V1.alloc (.cells #[.int .i64 f.n, .int .i64 f.i, .int .i64 f.s, .bool f.g] 53)) := (balloc (.cells #[.int .i64 f.n, .int .i64 f.i, .int .i64 f.s, .bool f.g] 53) BV1)
            have oR2 := oR1.alloc (.cells #[.int .i64 f.n, .int .i64 f.i, .int .i64 f.s, .bool f.g] 53)
            have nX : some V1.heap.size ≠ some W.heap.size := by have := oR1.lt W.heap.size rfl; simp; omega
            refine hK.out _ _ ?_ (fun hHeld => ?_)
            · (try dsimp only); exact ⟨keep_below BV2 d0, keep_below BV2 d1, keep_below BV2 d2, keep_below BV2 d3⟩
            clear hK K
            (try simp only [pq])
            generalize (V1.alloc (.cells #[.int .i64 f.n, .int .i64 f.i, .int .i64 f.s, .bool f.g] 53)) = V2 at *
            refine wpAnyH_ready (rs := [4]) (by kernel_rfl) (by simp) ?_
            refine AllReadyH.cons (o := { dst := some 51, op := .call { callee := .builtin .append, args := #[.tmp 47, .tmp 50], argTypes := #[24, 24] }, type := 24, pos := "l3_fact.go:61", after := #[{ on := 0, ground := .data }, { on := 3, ground := .data }], guard := none }) rfl (fun K hK => ?_) AllReadyH.nil
            refine step_appF (by rfl) _ _ (by rfl) W.heap.size (.slice (some ⟨W.heap.size, 0, none⟩) 0 0) 0 [] (by rfl) (by simp) oR2 (some ⟨b, off, none⟩) b off rfl k cap ((seqF F len).take k) (by rfl) (by simp [seqF_len]; omega) ((facts_take hfW (by omega)).below BV2 hbW) k (Nat.zero_add k) (by omega) BV2.size ?_
            intro g3 c3 V3 oR3 gr3 hc3
            have BV3 := own_grow BV2 BV2.size oR2 gr3
            have cX3 := cX2.grown gr3 nX
            refine hK.out _ _ ?_ (fun hHeld => ?_)
            · (try dsimp only); exact ⟨keep_below BV3 d0, keep_below BV3 d1, keep_below BV3 d2, keep_below BV3 d3⟩
            clear hK K
            (try simp only [pq])
            refine wpAnyH_ready (rs := [7]) (by kernel_rfl) (by simp) ?_
            refine AllReadyH.cons (o := { dst := some 54, op := .call { callee := .builtin .append, args := #[.tmp 51, .tmp 53], argTypes := #[24, 24] }, type := 24, pos := "l3_fact.go:61", after := #[{ on := 4, ground := .data }, { on := 6, ground := .data }, { on := 4, ground := .chain }], guard := none }) rfl (fun K hK => ?_) AllReadyH.nil
            refine step_appF (by rfl) _ _ (by rfl) W.heap.size (.slice (some ⟨g3, 0, none⟩) k c3) k _ (by rfl) (by simp) oR3 (some ⟨V1.heap.size, 0, none⟩) V1.heap.size 0 rfl 1 1 [f] (by rfl) rfl cX3 (k + 1) rfl (by omega) BV3.size ?_
            intro g8 c8 V8 oR8 gr8 hc8
            have BV8 := own_grow BV3 BV3.size oR3 gr8
            refine hK.out _ _ ?_ (fun hHeld => ?_)
            · (try dsimp only); exact ⟨keep_below BV8 d0, keep_below BV8 d1, keep_below BV8 d2, keep_below BV8 d3⟩
            clear hK K
            (try simp only [pq])
            refine wpAnyH_ready (rs := [11]) (by kernel_rfl) (by simp) ?_
            refine AllReadyH.cons (o := { dst := some 58, op := .call { callee := .builtin .append, args := #[.tmp 54, .tmp 57], argTypes := #[24, 24] }, type := 24, pos := "l3_fact.go:61", after := #[{ on := 7, ground := .data }, { on := 10, ground := .data }, { on := 7, ground := .chain }], guard := none }) rfl (fun K hK => ?_) AllReadyH.nil
            refine step_appF (by rfl) _ _ (by rfl) W.heap.size (.slice (some ⟨g8, 0, none⟩) (k + 1) c8) (k + 1) _ (by rfl) (by simp) oR8 (if cap = k then some ⟨b, off, none⟩ else some ⟨b, off + k * 4, none⟩) b (if cap = k then off else off + k * 4) (by split <;> rfl) (len - k) (cap - k) ((seqF F len).drop k) (by rfl) (by simp [seqF_len]) (by split; exact (fun j hj => by omega); exact (facts_drop hfW (by omega)).below BV8 hbW) (len + 1) (by omega) (by omega) BV8.size ?_
            intro g9 c9 V9 oR9 gr9 hc9
            have BV9 := own_grow BV8 BV8.size oR8 gr9
            refine hK.out _ _ ?_ (fun hHeld => ?_)
            · (try dsimp only); exact ⟨keep_below BV9 d0, keep_below BV9 d1, keep_below BV9 d2, keep_below BV9 d3⟩
            clear hK K
            (try simp only [pq])
            refine tl (i := 12) (oi := { dst := some 4, op := .assign (.tmp 58), type := 24, pos := "l3_fact.go:61", after := #[{ on := 11, ground := .data }, { on := 11, ground := .chain }, { on := 0, ground := .phase }, { on := 1, ground := .phase }, { on := 2, ground := .phase }, { on := 3, ground := .phase }, { on := 4, ground := .phase }, { on := 5, ground := .phase }, { on := 6, ground := .phase }, { on := 7, ground := .phase }, { on := 8, ground := .phase }, { on := 9, ground := .phase }, { on := 10, ground := .phase }, { on := 11, ground := .phase }], guard := none }) ?_
            (try simp only [pq])
            refine tl (i := 13) (oi := { dst := some 5, op := .assign (.const (.bool true)), type := 4, pos := "l3_fact.go:61", after := #[{ on := 12, ground := .chain }, { on := 0, ground := .phase }, { on := 1, ground := .phase }, { on := 2, ground := .phase }, { on := 3, ground := .phase }, { on := 4, ground := .phase }, { on := 5, ground := .phase }, { on := 6, ground := .phase }, { on := 7, ground := .phase }, { on := 8, ground := .phase }, { on := 9, ground := .phase }, { on := 10, ground := .phase }, { on := 11, ground := .phase }, { on := 12, ground := .phase }], guard := none }) ?_
            (try simp only [pq])
            refine wpAnyH_done (by kernel_rfl) ?_ _
            have BF := btrans hb3 BV9
            rw [List.nil_append, ← hput.out] at oR9
            clear oR8 gr8 gr9 BV8 BV9 hfW
            go_wp2
            all_goals (go_ret2; exact ⟨_, c9, rfl, own_mono hb3.size oR9, BF⟩)
        · go_simp
          have cX1 : FactsIn ((W.alloc (.cells #[.int .i64 f.n, .int .i64 f.i, .int .i64 f.s, .bool f.g] 53)).drew) W.heap.size 0 1 (fun j => [f].getD j Fc.zero) := new_one W f
          have BV1 : Below W.heap.size W ((W.alloc (.cells #[.int .i64 f.n, .int .i64 f.i, .int .i64 f.s, .bool f.g] 53)).drew) := QB1 (balloc (.cells #[.int .i64 f.n, .int .i64 f.i, .int .i64 f.s, .bool f.g] 53) (Below.refl _ W))
          have xlt := facts_lt cX1
          refine hK.out _ _ ?_ (fun hHeld => ?_)
          · (try dsimp only); exact ⟨keep_below BV1 d0, keep_below BV1 d1, keep_below BV1 d2, keep_below BV1 d3⟩
          clear hK K
          (try simp only [pq])
          generalize ((W.alloc (.cells #[.int .i64 f.n, .int .i64 f.i, .int .i64 f.s, .bool f.g] 53)).drew) = V1 at *
          refine wpAnyH_ready (rs := [0]) (by kernel_rfl) (by simp) ?_
          refine AllReadyH.cons (o := { dst := some 47, op := .buildSlice 24 0 #[], type := 24, pos := "l3_fact.go:61", after := #[], guard := none }) rfl (fun K hK => ?_) AllReadyH.nil
          go_simp
          have oR2 : (V1.alloc (.cells #[] 53)).ownsRow W.heap.size 53 4 (.slice (some ⟨V1.heap.size, 0, none⟩) 0 0) 0 (fl []) := World.ownsRow_lit V1 #[] 0 (BV1.size) (by unfold maxLen; omega) rfl
          have BV2 : Below W.heap.size W (V1.alloc (.cells #[] 53)) := (balloc (.cells #[] 53) BV1)
          have cX2 := cX1.alloc (.cells #[] 53)
          have nX : some W.heap.size ≠ some V1.heap.size := by simp; omega
          refine hK.out _ _ ?_ (fun hHeld => ?_)
          · (try dsimp only); exact ⟨keep_below BV2 d0, keep_below BV2 d1, keep_below BV2 d2, keep_below BV2 d3⟩
          clear hK K
          (try simp only [pq])
          generalize (V1.alloc (.cells #[] 53)) = V2 at *
          refine wpAnyH_ready (rs := [4]) (by kernel_rfl) (by simp) ?_
          refine AllReadyH.cons (o := { dst := some 51, op := .call { callee := .builtin .append, args := #[.tmp 47, .tmp 50], argTypes := #[24, 24] }, type := 24, pos := "l3_fact.go:61", after := #[{ on := 0, ground := .data }, { on := 3, ground := .data }], guard := none }) rfl (fun K hK => ?_) AllReadyH.nil
          refine step_appF (by rfl) _ _ (by rfl) W.heap.size (.slice (some ⟨V1.heap.size, 0, none⟩) 0 0) 0 [] (by rfl) (by simp) oR2 (some ⟨b, off, none⟩) b off rfl k cap ((seqF F len).take k) (by rfl) (by simp [seqF_len]; omega) ((facts_take hfW (by omega)).below BV2 hbW) k (Nat.zero_add k) (by omega) BV2.size ?_
          intro g3 c3 V3 oR3 gr3 hc3
          have BV3 := own_grow BV2 BV2.size oR2 gr3
          have cX3 := cX2.grown gr3 nX
          refine hK.out _ _ ?_ (fun hHeld => ?_)
          · (try dsimp only); exact ⟨keep_below BV3 d0, keep_below BV3 d1, keep_below BV3 d2, keep_below BV3 d3⟩
          clear hK K
          (try simp only [pq])
          refine wpAnyH_ready (rs := [7]) (by kernel_rfl) (by simp) ?_
          refine AllReadyH.cons (o := { dst := some 54, op := .call { callee := .builtin .append, args := #[.tmp 51, .tmp 53], argTypes := #[24, 24] }, type := 24, pos := "l3_fact.go:61", after := #[{ on := 4, ground := .data }, { on := 6, ground := .data }, { on := 4, ground := .chain }], guard := none }) rfl (fun K hK => ?_) AllReadyH.nil
          refine step_appF (by rfl) _ _ (by rfl) W.heap.size (.slice (some ⟨g3, 0, none⟩) k c3) k _ (by rfl) (by simp) oR3 (some ⟨W.heap.size, 0, none⟩) W.heap.size 0 rfl 1 1 [f] (by rfl) rfl cX3 (k + 1) rfl (by omega) BV3.size ?_
          intro g8 c8 V8 oR8 gr8 hc8
          have BV8 := own_grow BV3 BV3.size oR3 gr8
          refine hK.out _ _ ?_ (fun hHeld => ?_)
          · (try dsimp only); exact ⟨keep_below BV8 d0, keep_below BV8 d1, keep_below BV8 d2, keep_below BV8 d3⟩
          clear hK K
          (try simp only [pq])
          refine wpAnyH_ready (rs := [11]) (by kernel_rfl) (by simp) ?_
          refine AllReadyH.cons (o := { dst := some 58, op := .call { callee := .builtin .append, args := #[.tmp 54, .tmp 57], argTypes := #[24, 24] }, type := 24, pos := "l3_fact.go:61", after := #[{ on := 7, ground := .data }, { on := 10, ground := .data }, { on := 7, ground := .chain }], guard := none }) rfl (fun K hK => ?_) AllReadyH.nil
          refine step_appF (by rfl) _ _ (by rfl) W.heap.size (.slice (some ⟨g8, 0, none⟩) (k + 1) c8) (k + 1) _ (by rfl) (by simp) oR8 (if cap = k then some ⟨b, off, none⟩ else some ⟨b, off + k * 4, none⟩) b (if cap = k then off else off + k * 4) (by split <;> rfl) (len - k) (cap - k) ((seqF F len).drop k) (by rfl) (by simp [seqF_len]) (by split; exact (fun j hj => by omega); exact (facts_drop hfW (by omega)).below BV8 hbW) (len + 1) (by omega) (by omega) BV8.size ?_
          intro g9 c9 V9 oR9 gr9 hc9
          have BV9 := own_grow BV8 BV8.size oR8 gr9
          refine hK.out _ _ ?_ (fun hHeld => ?_)
          · (try dsimp only); exact ⟨keep_below BV9 d0, keep_below BV9 d1, keep_below BV9 d2, keep_below BV9 d3⟩
          clear hK K
          (try simp only [pq])
          refine tl (i := 12) (oi := { dst := some 4, op := .assign (.tmp 58), type := 24, pos := "l3_fact.go:61", after := #[{ on := 11, ground := .data }, { on := 11, ground := .chain }, { on := 0, ground := .phase }, { on := 1, ground := .phase }, { on := 2, ground := .phase }, { on := 3, ground := .phase }, { on := 4, ground := .phase }, { on := 5, ground := .phase }, { on := 6, ground := .phase }, { on := 7, ground := .phase }, { on := 8, ground := .phase }, { on := 9, ground := .phase }, { on := 10, ground := .phase }, { on := 11, ground := .phase }], guard := none }) ?_
          (try simp only [pq])
          refine tl (i := 13) (oi := { dst := some 5, op := .assign (.const (.bool true)), type := 4, pos := "l3_fact.go:61", after := #[{ on := 12, ground := .chain }, { on := 0, ground := .phase }, { on := 1, ground := .phase }, { on := 2, ground := .phase }, { on := 3, ground := .phase }, { on := 4, ground := .phase }, { on := 5, ground := .phase }, { on := 6, ground := .phase }, { on := 7, ground := .phase }, { on := 8, ground := .phase }, { on := 9, ground := .phase }, { on := 10, ground := .phase }, { on := 11, ground := .phase }, { on := 12, ground := .phase }], guard := none }) ?_
          (try simp only [pq])
          refine wpAnyH_done (by kernel_rfl) ?_ _
          have BF := btrans hb3 BV9
          rw [List.nil_append, ← hput.out] at oR9
          clear oR8 gr8 gr9 BV8 BV9 hfW
          go_wp2
          all_goals (go_ret2; exact ⟨_, c9, rfl, own_mono hb3.size oR9, BF⟩)
    · have i1 : ¬ (k : Int) < (len : Int) := by omega
      have hput : Hid (tput (seqF F len) f = (seqF F len).take k ++ [f] ++ (seqF F len).drop k) := tput_at k (by rw [seqF_len]; omega) (fun j hj => by rw [seqF_getD F (by omega)]; exact hall j hj) (fun h => by rw [seqF_len] at h; omega)
      clear hp
      go_wp2_with fail
      refine wp_region_held_drew (S := fun _ => True) (by kernel_rfl) ?_ (fun hHeld => ?_)
      · (try dsimp only); skip
      refine tl (i := 0) (oi := { dst := some 31, op := .move (.tmp 8), type := 3, pos := "l3_fact.go:58", after := #[], guard := none }) ?_
      (try simp only [pq])
      refine tl (i := 1) (oi := { dst := some 32, op := .move (.tmp 0), type := 24, pos := "l3_fact.go:58", after := #[], guard := none }) ?_
      (try simp only [pq])
      refine tl (i := 2) (oi := { dst := some 33, op := .call { callee := .builtin .len, args := #[.tmp 32], argTypes := #[24] }, type := 3, pos := "l3_fact.go:58", after := #[{ on := 1, ground := .data }], guard := none }) ?_
      (try simp only [pq])
      refine tl (i := 3) (oi := { dst := some 34, op := .binOp .lss 3 (.tmp 31) (.tmp 33) 3, type := 4, pos := "l3_fact.go:58", after := #[{ on := 0, ground := .data }, { on := 2, ground := .data }], guard := none }) ?_
      (try simp only [pq])
      refine tl (i := 4) (oi := { dst := some 35, op := .move (.tmp 34), type := 4, pos := "l3_fact.go:58", after := #[{ on := 3, ground := .data }], guard := none }) ?_
      (try simp only [pq])
      refine wpAnyH_take (i := 5) (oi := { dst := some 36, op := .move (.tmp 0), type := 24, pos := "l3_fact.go:58", after := #[{ on := 4, ground := .guard }], guard := some (4, true) }) (v := undef) rfl (by kernel_rfl) (by kernel_rfl) (by kernel_rfl) (fun _ _ _ h => h) (Or.inr ⟨by rfl, rfl⟩) (by assumption) ?_
      (try simp only [pq])
      refine wpAnyH_take (i := 6) (oi := { dst := some 37, op := .move (.tmp 8), type := 3, pos := "l3_fact.go:58", after := #[{ on := 4, ground := .guard }], guard := some (4, true) }) (v := undef) rfl (by kernel_rfl) (by kernel_rfl) (by kernel_rfl) (fun _ _ _ h => h) (Or.inr ⟨by rfl, rfl⟩) (by assumption) ?_
      (try simp only [pq])
      refine wpAnyH_take (i := 7) (oi := { dst := some 38, op := .indexAddr 24 (.tmp 36) (.tmp 37), type := 0, pos := "l3_fact.go:58", after := #[{ on := 5, ground := .data }, { on := 6, ground := .data }, { on := 4, ground := .guard }], guard := some (4, true) }) (v := undef) rfl (by kernel_rfl) (by kernel_rfl) (by kernel_rfl) (fun _ _ _ h => h) (Or.inr ⟨by rfl, rfl⟩) (by assumption) ?_
      (try simp only [pq])
      refine wpAnyH_take (i := 8) (oi := { dst := some 39, op := .fieldAddr 53 (.tmp 38) 0, type := 0, pos := "l3_fact.go:58", after := #[{ on := 7, ground := .data }, { on := 4, ground := .guard }], guard := some (4, true) }) (v := undef) rfl (by kernel_rfl) (by kernel_rfl) (by kernel_rfl) (fun _ _ _ h => h) (Or.inr ⟨by rfl, rfl⟩) (by assumption) ?_
      (try simp only [pq])
      refine wpAnyH_take (i := 9) (oi := { dst := some 40, op := .load 3 (.tmp 39), type := 3, pos := "l3_fact.go:58", after := #[{ on := 8, ground := .data }, { on := 4, ground := .guard }], guard := some (4, true) }) (v := undef) rfl (by kernel_rfl) (by kernel_rfl) (by kernel_rfl) (fun _ _ _ h => h) (Or.inr ⟨by rfl, rfl⟩) (by assumption) ?_
      (try simp only [pq])
      refine wpAnyH_take (i := 10) (oi := { dst := some 41, op := .fieldAddr 53 (.tmp 3) 0, type := 0, pos := "l3_fact.go:58", after := #[{ on := 4, ground := .guard }], guard := some (4, true) }) (v := undef) rfl (by kernel_rfl) (by kernel_rfl) (by kernel_rfl) (fun _ _ _ h => h) (Or.inr ⟨by rfl, rfl⟩) (by assumption) ?_
      (try simp only [pq])
      refine wpAnyH_take (i := 11) (oi := { dst := some 42, op := .load 3 (.tmp 41), type := 3, pos := "l3_fact.go:58", after := #[{ on := 10, ground := .data }, { on := 4, ground := .guard }], guard := some (4, true) }) (v := undef) rfl (by kernel_rfl) (by kernel_rfl) (by kernel_rfl) (fun _ _ _ h => h) (Or.inr ⟨by rfl, rfl⟩) (by assumption) ?_
      (try simp only [pq])
      refine wpAnyH_take (i := 12) (oi := { dst := some 43, op := .binOp .lss 3 (.tmp 40) (.tmp 42) 3, type := 4, pos := "l3_fact.go:58", after := #[{ on := 9, ground := .data }, { on := 11, ground := .data }, { on := 4, ground := .guard }], guard := some (4, true) }) (v := undef) rfl (by kernel_rfl) (by kernel_rfl) (by kernel_rfl) (fun _ _ _ h => h) (Or.inr ⟨by rfl, rfl⟩) (by assumption) ?_
      (try simp only [pq])
      refine tl (i := 13) (oi := { dst := some 44, op := .pick (.tmp 35) (.tmp 43) (.const (.bool false)), type := 4, pos := "l3_fact.go:58", after := #[{ on := 4, ground := .data }, { on := 12, ground := .data }], guard := none }) ?_
      (try simp only [pq])
      refine wpAnyH_done (by kernel_rfl) ?_ _
      go_wp2_with fail
      have hb3 : Below w.heap.size w (wr.drew) := ⟨hb.os, hb.tape, hb.output, hb.size, hb.block⟩
      have hfW : FactsIn (wr.drew) b off len F := hf.below hb3 hbl
      have d0 : (wr.drew).cell? ⟨w.heap.size, 0, none⟩ = some (.int .i64 f.n) := e0
      have d1 : (wr.drew).cell? ⟨w.heap.size, 1, none⟩ = some (.int .i64 f.i) := e1
      have d2 : (wr.drew).cell? ⟨w.heap.size, 2, none⟩ = some (.int .i64 f.s) := e2
      have d3 : (wr.drew).cell? ⟨w.heap.size, 3, none⟩ = some (.bool f.g) := e3
      have hbW : b < (wr.drew).heap.size := Nat.lt_of_lt_of_le hbl hb3.size
      clear e0 e1 e2 e3 hb hall
      generalize (wr.drew) = W at *
      have k7 : (k : Int) ≤ (len : Int) := by omega
      have k9 : k ≤ cap := by omega
      have k8 : (0 : Int) ≤ (k : Int) := by omega
      refine wp_region_held_drew (S := fun w' => w'.cell? ⟨w.heap.size, 0, none⟩ = some (.int .i64 f.n) ∧ w'.cell? ⟨w.heap.size, 1, none⟩ = some (.int .i64 f.i) ∧ w'.cell? ⟨w.heap.size, 2, none⟩ = some (.int .i64 f.s) ∧ w'.cell? ⟨w.heap.size, 3, none⟩ = some (.bool f.g)) (by kernel_rfl) ?_ (fun hHeld => ?_)
      · exact ⟨keep_drew d0, keep_drew d1, keep_drew d2, keep_drew d3⟩
      refine tl (i := 1) (oi := { dst := some 48, op := .move (.tmp 0), type := 24, pos := "l3_fact.go:61", after := #[], guard := none }) ?_
      (try simp only [pq])
      refine tl (i := 2) (oi := { dst := some 49, op := .move (.tmp 8), type := 3, pos := "l3_fact.go:61", after := #[], guard := none }) ?_
      (try simp only [pq])
      refine tl (i := 3) (oi := { dst := some 50, op := .slice 24 (.tmp 48) none (some (.tmp 49)) none, type := 24, pos := "l3_fact.go:61", after := #[{ on := 1, ground := .data }, { on := 2, ground := .data }], guard := none }) ?_
      (try simp only [pq])
      refine tl (i := 5) (oi := { dst := some 52, op := .load 53 (.tmp 3), type := 53, pos := "l3_fact.go:61", after := #[], guard := none }) ?_
      (try simp only [pq])
      refine tl (i := 8) (oi := { dst := some 55, op := .move (.tmp 0), type := 24, pos := "l3_fact.go:61", after := #[], guard := none }) ?_
      (try simp only [pq])
      refine tl (i := 9) (oi := { dst := some 56, op := .move (.tmp 8), type := 3, pos := "l3_fact.go:61", after := #[], guard := none }) ?_
      (try simp only [pq])
      refine tl (i := 10) (oi := { dst := some 57, op := .slice 24 (.tmp 55) (some (.tmp 56)) none none, type := 24, pos := "l3_fact.go:61", after := #[{ on := 8, ground := .data }, { on := 9, ground := .data }], guard := none }) ?_
      (try simp only [pq])
      refine wpAnyH_ready (rs := [0, 6]) (by kernel_rfl) (by simp) ?_
      refine AllReadyH.cons (o := { dst := some 47, op := .buildSlice 24 0 #[], type := 24, pos := "l3_fact.go:61", after := #[], guard := none }) rfl (fun K hK => ?_) (AllReadyH.cons (o := { dst := some 53, op := .buildSlice 24 1 #[(0, .tmp 52)], type := 24, pos := "l3_fact.go:61", after := #[{ on := 5, ground := .data }], guard := none }) rfl (fun K hK => ?_) AllReadyH.nil)
      · go_simp
        have oR1 : ((W.alloc (.cells #[] 53)).drew).ownsRow W.heap.size 53 4 (.slice (some ⟨W.heap.size, 0, none⟩) 0 0) 0 (fl []) := World.ownsRow_lit W #[] 0 (Nat.le_refl _) (by unfold maxLen; omega) rfl
        have BV1 : Below W.heap.size W ((W.alloc (.cells #[] 53)).drew) := QB1 (balloc (.cells #[] 53) (Below.refl _ W))
        refine hK.out _ _ ?_ (fun hHeld => ?_)
        · (try dsimp only); exact ⟨keep_below BV1 d0, keep_below BV1 d1, keep_below BV1 d2, keep_below BV1 d3⟩
        clear hK K
        (try simp only [pq])
        generalize ((W.alloc (.cells #[] 53)).drew) = V1 at *
        refine wpAnyH_ready (rs := [4, 6]) (by kernel_rfl) (by simp) ?_
        refine AllReadyH.cons (o := { dst := some 51, op := .call { callee := .builtin .append, args := #[.tmp 47, .tmp 50], argTypes := #[24, 24] }, type := 24, pos := "l3_fact.go:61", after := #[{ on := 0, ground := .data }, { on := 3, ground := .data }], guard := none }) rfl (fun K hK => ?_) (AllReadyH.cons (o := { dst := some 53, op := .buildSlice 24 1 #[(0, .tmp 52)], type := 24, pos := "l3_fact.go:61", after := #[{ on := 5, ground := .data }], guard := none }) rfl (fun K hK => ?_) AllReadyH.nil)
        · refine step_appF (by rfl) _ _ (by rfl) W.heap.size (.slice (some ⟨W.heap.size, 0, none⟩) 0 0) 0 [] (by rfl) (by simp) oR1 (some ⟨b, off, none⟩) b off rfl k cap ((seqF F len).take k) (by rfl) (by simp [seqF_len]; omega) ((facts_take hfW (by omega)).below BV1 hbW) k (Nat.zero_add k) (by omega) BV1.size ?_
          intro g2 c2 V2 oR2 gr2 hc2
          have BV2 := own_grow BV1 BV1.size oR1 gr2
          refine hK.out _ _ ?_ (fun hHeld => ?_)
          · (try dsimp only); exact ⟨keep_below BV2 d0, keep_below BV2 d1, keep_below BV2 d2, keep_below BV2 d3⟩
          clear hK K
          (try simp only [pq])
          refine wpAnyH_ready (rs := [6]) (by kernel_rfl) (by simp) ?_
          refine AllReadyH.cons (o := { dst := some 53, op := .buildSlice 24 1 #[(0, .tmp 52)], type := 24, pos := "l3_fact.go:61", after := #[{ on := 5, ground := .data }], guard := none }) rfl (fun K hK => ?_) AllReadyH.nil
          go_simp
          have cX3 : FactsIn (V2.alloc (.cells #[.int .i64 f.n, .int .i64 f.i, .int .i64 f.s, .bool f.g] 53)) V2.heap.size 0 1 (fun j => [f].getD j Fc.zero) := new_one V2 f
          have BV3 : Below W.heap.size W (V2.alloc (.cells #[.int .i64 f.n, .int .i64 f.i, .int .i64 f.s, .bool f.g] 53)) := (balloc (.cells #[.int .i64 f.n, .int .i64 f.i, .int .i64 f.s, .bool f.g] 53) BV2)
          have oR3 := oR2.alloc (.cells #[.int .i64 f.n, .int .i64 f.i, .int .i64 f.s, .bool f.g] 53)
          refine hK.out _ _ ?_ (fun hHeld => ?_)
          · (try dsimp only); exact ⟨keep_below BV3 d0, keep_below BV3 d1, keep_below BV3 d2, keep_below BV3 d3⟩
          clear hK K
          (try simp only [pq])
          generalize (V2.alloc (.cells #[.int .i64 f.n, .int .i64 f.i, .int .i64 f.s, .bool f.g] 53)) = V3 at *
          refine wpAnyH_ready (rs := [7]) (by kernel_rfl) (by simp) ?_
          refine AllReadyH.cons (o := { dst := some 54, op := .call { callee := .builtin .append, args := #[.tmp 51, .tmp 53], argTypes := #[24, 24] }, type := 24, pos := "l3_fact.go:61", after := #[{ on := 4, ground := .data }, { on := 6, ground := .data }, { on := 4, ground := .chain }], guard := none }) rfl (fun K hK => ?_) AllReadyH.nil
          refine step_appF (by rfl) _ _ (by rfl) W.heap.size (.slice (some ⟨g2, 0, none⟩) k c2) k _ (by rfl) (by simp) oR3 (some ⟨V2.heap.size, 0, none⟩) V2.heap.size 0 rfl 1 1 [f] (by rfl) rfl cX3 (k + 1) rfl (by omega) BV3.size ?_
          intro g8 c8 V8 oR8 gr8 hc8
          have BV8 := own_grow BV3 BV3.size oR3 gr8
          refine hK.out _ _ ?_ (fun hHeld => ?_)
          · (try dsimp only); exact ⟨keep_below BV8 d0, keep_below BV8 d1, keep_below BV8 d2, keep_below BV8 d3⟩
          clear hK K
          (try simp only [pq])
          refine wpAnyH_ready (rs := [11]) (by kernel_rfl) (by simp) ?_
          refine AllReadyH.cons (o := { dst := some 58, op := .call { callee := .builtin .append, args := #[.tmp 54, .tmp 57], argTypes := #[24, 24] }, type := 24, pos := "l3_fact.go:61", after := #[{ on := 7, ground := .data }, { on := 10, ground := .data }, { on := 7, ground := .chain }], guard := none }) rfl (fun K hK => ?_) AllReadyH.nil
          refine step_appF (by rfl) _ _ (by rfl) W.heap.size (.slice (some ⟨g8, 0, none⟩) (k + 1) c8) (k + 1) _ (by rfl) (by simp) oR8 (if cap = k then some ⟨b, off, none⟩ else some ⟨b, off + k * 4, none⟩) b (if cap = k then off else off + k * 4) (by split <;> rfl) (len - k) (cap - k) ((seqF F len).drop k) (by rfl) (by simp [seqF_len]) (by split; exact (fun j hj => by omega); exact (facts_drop hfW (by omega)).below BV8 hbW) (len + 1) (by omega) (by omega) BV8.size ?_
          intro g9 c9 V9 oR9 gr9 hc9
          have BV9 := own_grow BV8 BV8.size oR8 gr9
          refine hK.out _ _ ?_ (fun hHeld => ?_)
          · (try dsimp only); exact ⟨keep_below BV9 d0, keep_below BV9 d1, keep_below BV9 d2, keep_below BV9 d3⟩
          clear hK K
          (try simp only [pq])
          refine tl (i := 12) (oi := { dst := some 4, op := .assign (.tmp 58), type := 24, pos := "l3_fact.go:61", after := #[{ on := 11, ground := .data }, { on := 11, ground := .chain }, { on := 0, ground := .phase }, { on := 1, ground := .phase }, { on := 2, ground := .phase }, { on := 3, ground := .phase }, { on := 4, ground := .phase }, { on := 5, ground := .phase }, { on := 6, ground := .phase }, { on := 7, ground := .phase }, { on := 8, ground := .phase }, { on := 9, ground := .phase }, { on := 10, ground := .phase }, { on := 11, ground := .phase }], guard := none }) ?_
          (try simp only [pq])
          refine tl (i := 13) (oi := { dst := some 5, op := .assign (.const (.bool true)), type := 4, pos := "l3_fact.go:61", after := #[{ on := 12, ground := .chain }, { on := 0, ground := .phase }, { on := 1, ground := .phase }, { on := 2, ground := .phase }, { on := 3, ground := .phase }, { on := 4, ground := .phase }, { on := 5, ground := .phase }, { on := 6, ground := .phase }, { on := 7, ground := .phase }, { on := 8, ground := .phase }, { on := 9, ground := .phase }, { on := 10, ground := .phase }, { on := 11, ground := .phase }, { on := 12, ground := .phase }], guard := none }) ?_
          (try simp only [pq])
          refine wpAnyH_done (by kernel_rfl) ?_ _
          have BF := btrans hb3 BV9
          rw [List.nil_append, ← hput.out] at oR9
          clear oR8 gr8 gr9 BV8 BV9 hfW
          go_wp2
          all_goals (go_ret2; exact ⟨_, c9, rfl, own_mono hb3.size oR9, BF⟩)
        · go_simp
          have cX2 : FactsIn (V1.alloc (.cells #[.int .i64 f.n, .int .i64 f.i, .int .i64 f.s, .bool f.g] 53)) V1.heap.size 0 1 (fun j => [f].getD j Fc.zero) := new_one V1 f
          have BV2 : Below W.heap.size W (V1.alloc (.cells #[.int .i64 f.n, .int .i64 f.i, .int .i64 f.s, .bool f.g] 53)) := (balloc (.cells #[.int .i64 f.n, .int .i64 f.i, .int .i64 f.s, .bool f.g] 53) BV1)
          have oR2 := oR1.alloc (.cells #[.int .i64 f.n, .int .i64 f.i, .int .i64 f.s, .bool f.g] 53)
          have nX : some V1.heap.size ≠ some W.heap.size := by have := oR1.lt W.heap.size rfl; simp; omega
          refine hK.out _ _ ?_ (fun hHeld => ?_)
          · (try dsimp only); exact ⟨keep_below BV2 d0, keep_below BV2 d1, keep_below BV2 d2, keep_below BV2 d3⟩
          clear hK K
          (try simp only [pq])
          generalize (V1.alloc (.cells #[.int .i64 f.n, .int .i64 f.i, .int .i64 f.s, .bool f.g] 53)) = V2 at *
          refine wpAnyH_ready (rs := [4]) (by kernel_rfl) (by simp) ?_
          refine AllReadyH.cons (o := { dst := some 51, op := .call { callee := .builtin .append, args := #[.tmp 47, .tmp 50], argTypes := #[24, 24] }, type := 24, pos := "l3_fact.go:61", after := #[{ on := 0, ground := .data }, { on := 3, ground := .data }], guard := none }) rfl (fun K hK => ?_) AllReadyH.nil
          refine step_appF (by rfl) _ _ (by rfl) W.heap.size (.slice (some ⟨W.heap.size, 0, none⟩) 0 0) 0 [] (by rfl) (by simp) oR2 (some ⟨b, off, none⟩) b off rfl k cap ((seqF F len).take k) (by rfl) (by simp [seqF_len]; omega) ((facts_take hfW (by omega)).below BV2 hbW) k (Nat.zero_add k) (by omega) BV2.size ?_
          intro g3 c3 V3 oR3 gr3 hc3
          have BV3 := own_grow BV2 BV2.size oR2 gr3
          have cX3 := cX2.grown gr3 nX
          refine hK.out _ _ ?_ (fun hHeld => ?_)
          · (try dsimp only); exact ⟨keep_below BV3 d0, keep_below BV3 d1, keep_below BV3 d2, keep_below BV3 d3⟩
          clear hK K
          (try simp only [pq])
          refine wpAnyH_ready (rs := [7]) (by kernel_rfl) (by simp) ?_
          refine AllReadyH.cons (o := { dst := some 54, op := .call { callee := .builtin .append, args := #[.tmp 51, .tmp 53], argTypes := #[24, 24] }, type := 24, pos := "l3_fact.go:61", after := #[{ on := 4, ground := .data }, { on := 6, ground := .data }, { on := 4, ground := .chain }], guard := none }) rfl (fun K hK => ?_) AllReadyH.nil
          refine step_appF (by rfl) _ _ (by rfl) W.heap.size (.slice (some ⟨g3, 0, none⟩) k c3) k _ (by rfl) (by simp) oR3 (some ⟨V1.heap.size, 0, none⟩) V1.heap.size 0 rfl 1 1 [f] (by rfl) rfl cX3 (k + 1) rfl (by omega) BV3.size ?_
          intro g8 c8 V8 oR8 gr8 hc8
          have BV8 := own_grow BV3 BV3.size oR3 gr8
          refine hK.out _ _ ?_ (fun hHeld => ?_)
          · (try dsimp only); exact ⟨keep_below BV8 d0, keep_below BV8 d1, keep_below BV8 d2, keep_below BV8 d3⟩
          clear hK K
          (try simp only [pq])
          refine wpAnyH_ready (rs := [11]) (by kernel_rfl) (by simp) ?_
          refine AllReadyH.cons (o := { dst := some 58, op := .call { callee := .builtin .append, args := #[.tmp 54, .tmp 57], argTypes := #[24, 24] }, type := 24, pos := "l3_fact.go:61", after := #[{ on := 7, ground := .data }, { on := 10, ground := .data }, { on := 7, ground := .chain }], guard := none }) rfl (fun K hK => ?_) AllReadyH.nil
          refine step_appF (by rfl) _ _ (by rfl) W.heap.size (.slice (some ⟨g8, 0, none⟩) (k + 1) c8) (k + 1) _ (by rfl) (by simp) oR8 (if cap = k then some ⟨b, off, none⟩ else some ⟨b, off + k * 4, none⟩) b (if cap = k then off else off + k * 4) (by split <;> rfl) (len - k) (cap - k) ((seqF F len).drop k) (by rfl) (by simp [seqF_len]) (by split; exact (fun j hj => by omega); exact (facts_drop hfW (by omega)).below BV8 hbW) (len + 1) (by omega) (by omega) BV8.size ?_
          intro g9 c9 V9 oR9 gr9 hc9
          have BV9 := own_grow BV8 BV8.size oR8 gr9
          refine hK.out _ _ ?_ (fun hHeld => ?_)
          · (try dsimp only); exact ⟨keep_below BV9 d0, keep_below BV9 d1, keep_below BV9 d2, keep_below BV9 d3⟩
          clear hK K
          (try simp only [pq])
          refine tl (i := 12) (oi := { dst := some 4, op := .assign (.tmp 58), type := 24, pos := "l3_fact.go:61", after := #[{ on := 11, ground := .data }, { on := 11, ground := .chain }, { on := 0, ground := .phase }, { on := 1, ground := .phase }, { on := 2, ground := .phase }, { on := 3, ground := .phase }, { on := 4, ground := .phase }, { on := 5, ground := .phase }, { on := 6, ground := .phase }, { on := 7, ground := .phase }, { on := 8, ground := .phase }, { on := 9, ground := .phase }, { on := 10, ground := .phase }, { on := 11, ground := .phase }], guard := none }) ?_
          (try simp only [pq])
          refine tl (i := 13) (oi := { dst := some 5, op := .assign (.const (.bool true)), type := 4, pos := "l3_fact.go:61", after := #[{ on := 12, ground := .chain }, { on := 0, ground := .phase }, { on := 1, ground := .phase }, { on := 2, ground := .phase }, { on := 3, ground := .phase }, { on := 4, ground := .phase }, { on := 5, ground := .phase }, { on := 6, ground := .phase }, { on := 7, ground := .phase }, { on := 8, ground := .phase }, { on := 9, ground := .phase }, { on := 10, ground := .phase }, { on := 11, ground := .phase }, { on := 12, ground := .phase }], guard := none }) ?_
          (try simp only [pq])
          refine wpAnyH_done (by kernel_rfl) ?_ _
          have BF := btrans hb3 BV9
          rw [List.nil_append, ← hput.out] at oR9
          clear oR8 gr8 gr9 BV8 BV9 hfW
          go_wp2
          all_goals (go_ret2; exact ⟨_, c9, rfl, own_mono hb3.size oR9, BF⟩)
      · go_simp
        have cX1 : FactsIn ((W.alloc (.cells #[.int .i64 f.n, .int .i64 f.i, .int .i64 f.s, .bool f.g] 53)).drew) W.heap.size 0 1 (fun j => [f].getD j Fc.zero) := new_one W f
        have BV1 : Below W.heap.size W ((W.alloc (.cells #[.int .i64 f.n, .int .i64 f.i, .int .i64 f.s, .bool f.g] 53)).drew) := QB1 (balloc (.cells #[.int .i64 f.n, .int .i64 f.i, .int .i64 f.s, .bool f.g] 53) (Below.refl _ W))
        have xlt := facts_lt cX1
        refine hK.out _ _ ?_ (fun hHeld => ?_)
        · (try dsimp only); exact ⟨keep_below BV1 d0, keep_below BV1 d1, keep_below BV1 d2, keep_below BV1 d3⟩
        clear hK K
        (try simp only [pq])
        generalize ((W.alloc (.cells #[.int .i64 f.n, .int .i64 f.i, .int .i64 f.s, .bool f.g] 53)).drew) = V1 at *
        refine wpAnyH_ready (rs := [0]) (by kernel_rfl) (by simp) ?_
        refine AllReadyH.cons (o := { dst := some 47, op := .buildSlice 24 0 #[], type := 24, pos := "l3_fact.go:61", after := #[], guard := none }) rfl (fun K hK => ?_) AllReadyH.nil
        go_simp
        have oR2 : (V1.alloc (.cells #[] 53)).ownsRow W.heap.size 53 4 (.slice (some ⟨V1.heap.size, 0, none⟩) 0 0) 0 (fl []) := World.ownsRow_lit V1 #[] 0 (BV1.size) (by unfold maxLen; omega) rfl
        have BV2 : Below W.heap.size W (V1.alloc (.cells #[] 53)) := (balloc (.cells #[] 53) BV1)
        have cX2 := cX1.alloc (.cells #[] 53)
        have nX : some W.heap.size ≠ some V1.heap.size := by simp; omega
        refine hK.out _ _ ?_ (fun hHeld => ?_)
        · (try dsimp only); exact ⟨keep_below BV2 d0, keep_below BV2 d1, keep_below BV2 d2, keep_below BV2 d3⟩
        clear hK K
        (try simp only [pq])
        generalize (V1.alloc (.cells #[] 53)) = V2 at *
        refine wpAnyH_ready (rs := [4]) (by kernel_rfl) (by simp) ?_
        refine AllReadyH.cons (o := { dst := some 51, op := .call { callee := .builtin .append, args := #[.tmp 47, .tmp 50], argTypes := #[24, 24] }, type := 24, pos := "l3_fact.go:61", after := #[{ on := 0, ground := .data }, { on := 3, ground := .data }], guard := none }) rfl (fun K hK => ?_) AllReadyH.nil
        refine step_appF (by rfl) _ _ (by rfl) W.heap.size (.slice (some ⟨V1.heap.size, 0, none⟩) 0 0) 0 [] (by rfl) (by simp) oR2 (some ⟨b, off, none⟩) b off rfl k cap ((seqF F len).take k) (by rfl) (by simp [seqF_len]; omega) ((facts_take hfW (by omega)).below BV2 hbW) k (Nat.zero_add k) (by omega) BV2.size ?_
        intro g3 c3 V3 oR3 gr3 hc3
        have BV3 := own_grow BV2 BV2.size oR2 gr3
        have cX3 := cX2.grown gr3 nX
        refine hK.out _ _ ?_ (fun hHeld => ?_)
        · (try dsimp only); exact ⟨keep_below BV3 d0, keep_below BV3 d1, keep_below BV3 d2, keep_below BV3 d3⟩
        clear hK K
        (try simp only [pq])
        refine wpAnyH_ready (rs := [7]) (by kernel_rfl) (by simp) ?_
        refine AllReadyH.cons (o := { dst := some 54, op := .call { callee := .builtin .append, args := #[.tmp 51, .tmp 53], argTypes := #[24, 24] }, type := 24, pos := "l3_fact.go:61", after := #[{ on := 4, ground := .data }, { on := 6, ground := .data }, { on := 4, ground := .chain }], guard := none }) rfl (fun K hK => ?_) AllReadyH.nil
        refine step_appF (by rfl) _ _ (by rfl) W.heap.size (.slice (some ⟨g3, 0, none⟩) k c3) k _ (by rfl) (by simp) oR3 (some ⟨W.heap.size, 0, none⟩) W.heap.size 0 rfl 1 1 [f] (by rfl) rfl cX3 (k + 1) rfl (by omega) BV3.size ?_
        intro g8 c8 V8 oR8 gr8 hc8
        have BV8 := own_grow BV3 BV3.size oR3 gr8
        refine hK.out _ _ ?_ (fun hHeld => ?_)
        · (try dsimp only); exact ⟨keep_below BV8 d0, keep_below BV8 d1, keep_below BV8 d2, keep_below BV8 d3⟩
        clear hK K
        (try simp only [pq])
        refine wpAnyH_ready (rs := [11]) (by kernel_rfl) (by simp) ?_
        refine AllReadyH.cons (o := { dst := some 58, op := .call { callee := .builtin .append, args := #[.tmp 54, .tmp 57], argTypes := #[24, 24] }, type := 24, pos := "l3_fact.go:61", after := #[{ on := 7, ground := .data }, { on := 10, ground := .data }, { on := 7, ground := .chain }], guard := none }) rfl (fun K hK => ?_) AllReadyH.nil
        refine step_appF (by rfl) _ _ (by rfl) W.heap.size (.slice (some ⟨g8, 0, none⟩) (k + 1) c8) (k + 1) _ (by rfl) (by simp) oR8 (if cap = k then some ⟨b, off, none⟩ else some ⟨b, off + k * 4, none⟩) b (if cap = k then off else off + k * 4) (by split <;> rfl) (len - k) (cap - k) ((seqF F len).drop k) (by rfl) (by simp [seqF_len]) (by split; exact (fun j hj => by omega); exact (facts_drop hfW (by omega)).below BV8 hbW) (len + 1) (by omega) (by omega) BV8.size ?_
        intro g9 c9 V9 oR9 gr9 hc9
        have BV9 := own_grow BV8 BV8.size oR8 gr9
        refine hK.out _ _ ?_ (fun hHeld => ?_)
        · (try dsimp only); exact ⟨keep_below BV9 d0, keep_below BV9 d1, keep_below BV9 d2, keep_below BV9 d3⟩
        clear hK K
        (try simp only [pq])
        refine tl (i := 12) (oi := { dst := some 4, op := .assign (.tmp 58), type := 24, pos := "l3_fact.go:61", after := #[{ on := 11, ground := .data }, { on := 11, ground := .chain }, { on := 0, ground := .phase }, { on := 1, ground := .phase }, { on := 2, ground := .phase }, { on := 3, ground := .phase }, { on := 4, ground := .phase }, { on := 5, ground := .phase }, { on := 6, ground := .phase }, { on := 7, ground := .phase }, { on := 8, ground := .phase }, { on := 9, ground := .phase }, { on := 10, ground := .phase }, { on := 11, ground := .phase }], guard := none }) ?_
        (try simp only [pq])
        refine tl (i := 13) (oi := { dst := some 5, op := .assign (.const (.bool true)), type := 4, pos := "l3_fact.go:61", after := #[{ on := 12, ground := .chain }, { on := 0, ground := .phase }, { on := 1, ground := .phase }, { on := 2, ground := .phase }, { on := 3, ground := .phase }, { on := 4, ground := .phase }, { on := 5, ground := .phase }, { on := 6, ground := .phase }, { on := 7, ground := .phase }, { on := 8, ground := .phase }, { on := 9, ground := .phase }, { on := 10, ground := .phase }, { on := 11, ground := .phase }, { on := 12, ground := .phase }], guard := none }) ?_
        (try simp only [pq])
        refine wpAnyH_done (by kernel_rfl) ?_ _
        have BF := btrans hb3 BV9
        rw [List.nil_append, ← hput.out] at oR9
        clear oR8 gr8 gr9 BV8 BV9 hfW
        go_wp2
        all_goals (go_ret2; exact ⟨_, c9, rfl, own_mono hb3.size oR9, BF⟩)
set_option maxRecDepth 20000 in
theorem l3_lit (f g : Fc) (q : Bool) (w : World) (h : ovr f g = q) :
    Calls Tryz.prog 101 #[.agg #[.int .i64 f.n, .int .i64 f.i, .int .i64 f.s, .bool f.g], .agg #[.int .i64 g.n, .int .i64 g.i, .int .i64 g.s, .bool g.g]] w fun r w' => r = .returned (.bool q) ∧ Below w.heap.size w w' :=
  (l3_any _ _ _ _ _ _ _ _ w).mono (by rintro r w' ⟨rfl, o1, o2, rfl⟩; exact ⟨by rw [← h]; rfl, balloc _ (balloc _ (Below.refl _ _))⟩)
set_option maxRecDepth 20000 in
set_option maxHeartbeats 8000000 in
theorem l3_no (b off len cap : Nat) (F : Nat → Fc) (f : Fc) (j : Nat) (w : World) (hf : FactsIn w b off len F) (hbl : b < w.heap.size) (hl : len ≤ 1048576) (hj : j < len) (hjn : (F j).n = f.n) (hno : ∀ k, k < j → (F k).n ≠ f.n) (ho : Hid (ovr f (F j) = false)) :
    Calls Tryz.prog 68 #[.slice (some ⟨b, off, none⟩) len cap, fval f] w fun e w' => e = .returned (.tuple #[.slice (some ⟨b, off, none⟩) len cap, .bool false]) ∧ Below w.heap.size w w' := by
  go_enter Tryz.func68, Tryz.ntmps68
  go_wp2_with fail
  have p0 : (w.alloc (.cells #[.int .i64 f.n, .int .i64 f.i, .int .i64 f.s, .bool f.g] 53)).heap[w.heap.size]? = some (.cells #[.int .i64 f.n, .int .i64 f.i, .int .i64 f.s, .bool f.g] 53 (0, 0)) := heap_alloc_new _ _
  have B0 : Below w.heap.size w (w.alloc (.cells #[.int .i64 f.n, .int .i64 f.i, .int .i64 f.s, .bool f.g] 53)) := balloc _ (Below.refl _ _)
  generalize (w.alloc (.cells #[.int .i64 f.n, .int .i64 f.i, .int .i64 f.s, .bool f.g] 53)) = W0 at *
  refine (find_any _ len cap F f.n _ (fun _ => ⟨b, off, rfl, by have := B0.size; omega, hf.below B0 hbl⟩) hl).mono ?_
  rintro r w0 ⟨r0, rfl, hF, hw⟩
  obtain rfl := hw.symm
  obtain rfl : r0 = (j : Int) := by
    rcases hF with ⟨_, h⟩ | ⟨i, hi, rfl, e, h⟩
    · exact absurd hjn (h j hj)
    · have h1 : ¬ i < j := fun hh => hno i hh e
      have h2 : ¬ j < i := fun hh => h j hh hjn
      omega
  clear hF hw hjn hno
  obtain ⟨d0, d1, d2, d3⟩ := (hf.below B0 hbl) j hj
  have e0 : W0.cell? ⟨w.heap.size, 0, none⟩ = some (.int .i64 f.n) := cell_block (o := 0) p0 rfl
  have e1 : W0.cell? ⟨w.heap.size, 1, none⟩ = some (.int .i64 f.i) := cell_block (o := 1) p0 rfl
  have e2 : W0.cell? ⟨w.heap.size, 2, none⟩ = some (.int .i64 f.s) := cell_block (o := 2) p0 rfl
  have e3 : W0.cell? ⟨w.heap.size, 3, none⟩ = some (.bool f.g) := cell_block (o := 3) p0 rfl
  have i0 : (0 : Int) ≤ (j : Int) := by omega
  have i1 : (j : Int) < (len : Int) := by omega
  go_wp2_with fail
  refine wp_region_held_drew (S := fun w' => w'.cell? ⟨w.heap.size, 0, none⟩ = some (.int .i64 f.n) ∧ w'.cell? ⟨w.heap.size, 1, none⟩ = some (.int .i64 f.i) ∧ w'.cell? ⟨w.heap.size, 2, none⟩ = some (.int .i64 f.s) ∧ w'.cell? ⟨w.heap.size, 3, none⟩ = some (.bool f.g) ∧ w'.cell? ⟨b, off + j * 4, none⟩ = some (.int .i64 (F j).n) ∧ w'.cell? ⟨b, off + j * 4 + 1, none⟩ = some (.int .i64 (F j).i) ∧ w'.cell? ⟨b, off + j * 4 + 2, none⟩ = some (.int .i64 (F j).s) ∧ w'.cell? ⟨b, off + j * 4 + 3, none⟩ = some (.bool (F j).g)) (by kernel_rfl) ?_ (fun hHeld => ?_)
  · (try dsimp only); (refine ⟨?_, ?_, ?_, ?_, ?_, ?_, ?_, ?_⟩ <;> (repeat (first | with_reducible assumption | with_reducible refine keep_drew ?_ | with_reducible refine keep_below (by assumption) ?_)))
  refine tl (i := 0) (oi := { dst := some 15, op := .load 53 (.tmp 3), type := 53, pos := "l3_fact.go:50", after := #[], guard := none }) ?_
  (try simp only [pq])
  refine tl (i := 1) (oi := { dst := some 16, op := .move (.tmp 0), type := 24, pos := "l3_fact.go:50", after := #[], guard := none }) ?_
  (try simp only [pq])
  refine tl (i := 2) (oi := { dst := some 17, op := .move (.tmp 6), type := 3, pos := "l3_fact.go:50", after := #[], guard := none }) ?_
  (try simp only [pq])
  refine tl (i := 3) (oi := { dst := some 18, op := .indexAddr 24 (.tmp 16) (.tmp 17), type := 0, pos := "l3_fact.go:50", after := #[{ on := 1, ground := .data }, { on := 2, ground := .data }], guard := none }) ?_
  (try simp only [pq])
  refine tl (i := 4) (oi := { dst := some 19, op := .load 53 (.tmp 18), type := 53, pos := "l3_fact.go:50", after := #[{ on := 3, ground := .data }], guard := none }) ?_
  (try simp only [pq])
  refine wpAnyH_ready (rs := [5]) (by kernel_rfl) (by simp) ?_
  refine AllReadyH.cons (o := { dst := some 20, op := .call { callee := .value (.func 101), args := #[.tmp 15, .tmp 19], argTypes := #[53, 53] }, type := 4, pos := "l3_fact.go:50", after := #[{ on := 0, ground := .data }, { on := 4, ground := .data }], guard := none }) rfl (fun K hK => ?_) AllReadyH.nil
  go_simp
  refine (l3_lit f (F j) false _ ho.out).mono ?_; rintro e w1 ⟨rfl, b1⟩
  go_wp2_with fail
  refine hK.out _ _ ?_ (fun hHeld => ?_)
  · (try dsimp only); (refine ⟨?_, ?_, ?_, ?_, ?_, ?_, ?_, ?_⟩ <;> (repeat (first | with_reducible assumption | with_reducible refine keep_drew ?_ | with_reducible refine keep_below (by assumption) ?_)))
  clear hK K
  (try simp only [pq])
  refine tl (i := 6) (oi := { dst := some 21, op := .unOp .not 4 (.tmp 20), type := 4, pos := "l3_fact.go:50", after := #[{ on := 5, ground := .data }], guard := none }) ?_
  (try simp only [pq])
  refine wpAnyH_done (by kernel_rfl) ?_ _
  have BB := btrans B0.drew b1
  go_wp2
  go_ret2
  exact ⟨rfl, BB⟩
set_option maxRecDepth 20000 in
set_option maxHeartbeats 8000000 in
theorem l3_yes (b off len cap : Nat) (F : Nat → Fc) (f : Fc) (j : Nat) (w : World) (hf : FactsIn w b off len F) (hbl : b < w.heap.size) (hl : len ≤ 1048576) (hj : j < len) (hjn : (F j).n = f.n) (hno : ∀ k, k < j → (F k).n ≠ f.n) (ho : Hid (ovr f (F j) = true)) :
    Calls Tryz.prog 68 #[.slice (some ⟨b, off, none⟩) len cap, fval f] w fun e w' => ∃ v' c', e = .returned (.tuple #[.slice v' len c', .bool true]) ∧ w'.ownsRow w.heap.size 53 4 (.slice v' len c') len (fl ((seqF F len).set j f)) ∧ Below w.heap.size w w' := by
  go_enter Tryz.func68, Tryz.ntmps68
  go_wp2_with fail
  have p0 : (w.alloc (.cells #[.int .i64 f.n, .int .i64 f.i, .int .i64 f.s, .bool f.g] 53)).heap[w.heap.size]? = some (.cells #[.int .i64 f.n, .int .i64 f.i, .int .i64 f.s, .bool f.g] 53 (0, 0)) := heap_alloc_new _ _
  have B0 : Below w.heap.size w (w.alloc (.cells #[.int .i64 f.n, .int .i64 f.i, .int .i64 f.s, .bool f.g] 53)) := balloc _ (Below.refl _ _)
  generalize (w.alloc (.cells #[.int .i64 f.n, .int .i64 f.i, .int .i64 f.s, .bool f.g] 53)) = W0 at *
  refine (find_any _ len cap F f.n _ (fun _ => ⟨b, off, rfl, by have := B0.size; omega, hf.below B0 hbl⟩) hl).mono ?_
  rintro r w0 ⟨r0, rfl, hF, hw⟩
  obtain rfl := hw.symm
  obtain rfl : r0 = (j : Int) := by
    rcases hF with ⟨_, h⟩ | ⟨i, hi, rfl, e, h⟩
    · exact absurd hjn (h j hj)
    · have h1 : ¬ i < j := fun hh => hno i hh e
      have h2 : ¬ j < i := fun hh => h j hh hjn
      omega
  clear hF hw hjn hno
  obtain ⟨d0, d1, d2, d3⟩ := (hf.below B0 hbl) j hj
  have e0 : W0.cell? ⟨w.heap.size, 0, none⟩ = some (.int .i64 f.n) := cell_block (o := 0) p0 rfl
  have e1 : W0.cell? ⟨w.heap.size, 1, none⟩ = some (.int .i64 f.i) := cell_block (o := 1) p0 rfl
  have e2 : W0.cell? ⟨w.heap.size, 2, none⟩ = some (.int .i64 f.s) := cell_block (o := 2) p0 rfl
  have e3 : W0.cell? ⟨w.heap.size, 3, none⟩ = some (.bool f.g) := cell_block (o := 3) p0 rfl
  have i0 : (0 : Int) ≤ (j : Int) := by omega
  have i1 : (j : Int) < (len : Int) := by omega
  go_wp2_with fail
  refine wp_region_held_drew (S := fun w' => w'.cell? ⟨w.heap.size, 0, none⟩ = some (.int .i64 f.n) ∧ w'.cell? ⟨w.heap.size, 1, none⟩ = some (.int .i64 f.i) ∧ w'.cell? ⟨w.heap.size, 2, none⟩ = some (.int .i64 f.s) ∧ w'.cell? ⟨w.heap.size, 3, none⟩ = some (.bool f.g) ∧ w'.cell? ⟨b, off + j * 4, none⟩ = some (.int .i64 (F j).n) ∧ w'.cell? ⟨b, off + j * 4 + 1, none⟩ = some (.int .i64 (F j).i) ∧ w'.cell? ⟨b, off + j * 4 + 2, none⟩ = some (.int .i64 (F j).s) ∧ w'.cell? ⟨b, off + j * 4 + 3, none⟩ = some (.bool (F j).g)) (by kernel_rfl) ?_ (fun hHeld => ?_)
  · (try dsimp only); (refine ⟨?_, ?_, ?_, ?_, ?_, ?_, ?_, ?_⟩ <;> (repeat (first | with_reducible assumption | with_reducible refine keep_drew ?_ | with_reducible refine keep_below (by assumption) ?_)))
  refine tl (i := 0) (oi := { dst := some 15, op := .load 53 (.tmp 3), type := 53, pos := "l3_fact.go:50", after := #[], guard := none }) ?_
  (try simp only [pq])
  refine tl (i := 1) (oi := { dst := some 16, op := .move (.tmp 0), type := 24, pos := "l3_fact.go:50", after := #[], guard := none }) ?_
  (try simp only [pq])
  refine tl (i := 2) (oi := { dst := some 17, op := .move (.tmp 6), type := 3, pos := "l3_fact.go:50", after := #[], guard := none }) ?_
  (try simp only [pq])
  refine tl (i := 3) (oi := { dst := some 18, op := .indexAddr 24 (.tmp 16) (.tmp 17), type := 0, pos := "l3_fact.go:50", after := #[{ on := 1, ground := .data }, { on := 2, ground := .data }], guard := none }) ?_
  (try simp only [pq])
  refine tl (i := 4) (oi := { dst := some 19, op := .load 53 (.tmp 18), type := 53, pos := "l3_fact.go:50", after := #[{ on := 3, ground := .data }], guard := none }) ?_
  (try simp only [pq])
  refine wpAnyH_ready (rs := [5]) (by kernel_rfl) (by simp) ?_
  refine AllReadyH.cons (o := { dst := some 20, op := .call { callee := .value (.func 101), args := #[.tmp 15, .tmp 19], argTypes := #[53, 53] }, type := 4, pos := "l3_fact.go:50", after := #[{ on := 0, ground := .data }, { on := 4, ground := .data }], guard := none }) rfl (fun K hK => ?_) AllReadyH.nil
  go_simp
  refine (l3_lit f (F j) true _ ho.out).mono ?_; rintro e w1 ⟨rfl, b1⟩
  go_wp2_with fail
  refine hK.out _ _ ?_ (fun hHeld => ?_)
  · (try dsimp only); (refine ⟨?_, ?_, ?_, ?_, ?_, ?_, ?_, ?_⟩ <;> (repeat (first | with_reducible assumption | with_reducible refine keep_drew ?_ | with_reducible refine keep_below (by assumption) ?_)))
  clear hK K
  (try simp only [pq])
  refine tl (i := 6) (oi := { dst := some 21, op := .unOp .not 4 (.tmp 20), type := 4, pos := "l3_fact.go:50", after := #[{ on := 5, ground := .data }], guard := none }) ?_
  (try simp only [pq])
  refine wpAnyH_done (by kernel_rfl) ?_ _
  have BB := btrans B0.drew b1
  have pb := blk_below b1 p0
  clear b1 p0 B0 d0 d1 d2 d3 e0 e1 e2 e3
  have hfW : FactsIn w1 b off len F := hf.below BB hbl
  have hbW : b < w1.heap.size := Nat.lt_of_lt_of_le hbl BB.size
  have hnews : FactsIn (w1.alloc (.cells #[] 53)) b off len (fun k => (seqF F len).getD k Fc.zero) := (fun k hk => by simp only [seqF_getD F hk]; exact hfW.alloc _ k hk)
  obtain ⟨ti, hi, hz0, hz1, hz2⟩ := info_parts info24
  go_wp2_with (at_builtin; refine wpList_append_own _ rfl _ _ 24 rfl w1.heap.size 53 ti (fval Fc.zero) 4 32 Tryz.underlying24 hi hz0 hz1 hz2 rfl (by decide) _ _ _ rfl (World.ownsRow_lit w1 #[] 0 (Nat.le_refl _) (by unfold maxLen; omega) rfl) ⟨b, off, none⟩ len cap (fl (seqF F len)) rfl (by rw [fl_len, seqF_len]) (facts_cell hnews (seqF_len F len)) fl_one ?c3 ?c4 ?c5 ?_)
  case c3 => unfold maxLen; omega
  case c4 => omega
  case c5 => simp
  · intro v' w2 hown' hgrow hnil
    have o2 : w2.ownsRow w1.heap.size 53 4 v' len (fl (seqF F len)) := by simpa using hown'
    clear hown'
    have B2 : Below w1.heap.size w1 w2 := own_grow (balloc _ (Below.refl _ w1)) (by simp) (show (w1.alloc (.cells #[] 53)).ownsRow w1.heap.size 53 4 (.slice (some ⟨w1.heap.size, 0, none⟩) 0 0) 0 [] from World.ownsRow_lit w1 #[] 0 (Nat.le_refl _) (by unfold maxLen; omega) rfl) hgrow
    have pb2 := blk_below B2 pb
    have B3 := btrans BB B2
    rcases own_sliceF o2 with ⟨e, _⟩ | ⟨g', cap', rfl, hg1, hg2, hg3⟩
    · exact absurd e hnil
    have q0 : w2.cell? ⟨w.heap.size, 0, none⟩ = some (.int .i64 f.n) := cell_block (o := 0) pb2 rfl
    have q1 : w2.cell? ⟨w.heap.size, 1, none⟩ = some (.int .i64 f.i) := cell_block (o := 1) pb2 rfl
    have q2 : w2.cell? ⟨w.heap.size, 2, none⟩ = some (.int .i64 f.s) := cell_block (o := 2) pb2 rfl
    have q3 : w2.cell? ⟨w.heap.size, 3, none⟩ = some (.bool f.g) := cell_block (o := 3) pb2 rfl
    obtain ⟨t0, t1, t2, t3⟩ := fl_get (seqF F len) j (by rw [seqF_len]; exact hj)
    have c0 := (o2.cellAt (j * 4) (by omega)).trans t0
    have c1 := (o2.cellAt (j * 4 + 1) (by omega)).trans t1
    have c2 := (o2.cellAt (j * 4 + 2) (by omega)).trans t2
    have c3 := (o2.cellAt (j * 4 + 3) (by omega)).trans t3
    have z0 := o2.frozenAt (j * 4)
    have z1 := o2.frozenAt (j * 4 + 1)
    have z2 := o2.frozenAt (j * 4 + 2)
    have z3 := o2.frozenAt (j * 4 + 3)
    obtain ⟨a0, b0⟩ := o2.stored (j * 4) (.int .i64 f.n)
    obtain ⟨a1, b1⟩ := a0.stored (j * 4 + 1) (.int .i64 f.i)
    obtain ⟨a2, b2⟩ := a1.stored (j * 4 + 2) (.int .i64 f.s)
    obtain ⟨a3, b3⟩ := a2.stored (j * 4 + 3) (.bool f.g)
    rw [← fl_set (seqF F len) j f (by rw [seqF_len]; exact hj)] at a3
    have gg := grown_trans (grown_trans (grown_trans b0 b1) b2) b3
    have B4 := B3.grown gg B3.size (fun k hk => by simp only [Option.some.injEq] at hk; have := BB.size; omega)
    clear a0 a1 a2 b0 b1 b2 b3 gg hgrow hnil pb pb2 hnews hfW o2 t0 t1 t2 t3 B2 B3
    go_wp2
    go_ret2
    exact ⟨_, cap', rfl, own_mono BB.size a3, B4⟩
set_option maxRecDepth 20000 in
/-- a fact more, the model's way -/
theorem l3put_any (b off len cap : Nat) (F : Nat → Fc) (f : Fc) (w : World) (hf : FactsIn w b off len F) (hbl : b < w.heap.size) (hc : len ≤ cap) (hl : len ≤ 1048576) (hasc : ∀ j k, j < k → k < len → (F j).n < (F k).n) :
    Calls Tryz.prog 68 #[.slice (some ⟨b, off, none⟩) len cap, fval f] w fun e w' => ∃ v' c' n', e = .returned (.tuple #[.slice v' n' c', .bool (tnew (seqF F len) f)]) ∧ n' = (tput (seqF F len) f).length ∧ ((v' = some ⟨b, off, none⟩ ∧ c' = cap ∧ n' = len ∧ tput (seqF F len) f = seqF F len) ∨ w'.ownsRow w.heap.size 53 4 (.slice v' n' c') n' (fl (tput (seqF F len) f))) ∧ Below w.heap.size w w' := by
  have hA := seqF_asc hasc len (Nat.le_refl _)
  by_cases hx : ∃ j, j < len ∧ (F j).n = f.n
  · obtain ⟨j, hj, hjn⟩ := hx
    have hno : ∀ k, k < j → (F k).n ≠ f.n := fun k hk => by have := hasc k j hk hj; omega
    have hg := found_some hj hjn hno
    cases ho : ovr f (F j) with
    | false =>
      have e1 : tnew (seqF F len) f = false := by unfold tnew; rw [hg]; exact ho
      have e2 := tput_no hA hg ho
      rw [e1, e2]
      exact (l3_no b off len cap F f j w hf hbl hl hj hjn hno ho).mono (by rintro e w' ⟨rfl, hb⟩; exact ⟨_, _, _, rfl, (seqF_len F len).symm, .inl ⟨rfl, rfl, rfl, rfl⟩, hb⟩)
    | true =>
      have e1 : tnew (seqF F len) f = true := by unfold tnew; rw [hg]; exact ho
      have e2 : tput (seqF F len) f = (seqF F len).set j f := tput_set (seqF F len) j f hA (by rw [seqF_len]; exact hj) (by rw [seqF_getD F hj]; exact hjn) (by rw [seqF_getD F hj]; exact ho)
      rw [e1, e2]
      exact (l3_yes b off len cap F f j w hf hbl hl hj hjn hno ho).mono (by rintro e w' ⟨v', c', rfl, ho, hb⟩; exact ⟨_, _, _, rfl, by simp [seqF_len], .inr ho, hb⟩)
  · have hno : ∀ k, k < len → (F k).n ≠ f.n := fun k hk e => hx ⟨k, hk, e⟩
    have hg := found_none hno
    have e1 : tnew (seqF F len) f = true := by unfold tnew; rw [hg]
    rw [e1]
    exact (l3_new b off len cap F f w hf hbl hc hl hno).mono (by rintro e w' ⟨v', c', rfl, ho, hb⟩; exact ⟨_, _, _, rfl, by rw [tput_len hg, seqF_len], .inr ho, hb⟩)
set_option maxRecDepth 20000 in
/-- a list of the call's own, with a fact more -/
theorem l3put_own (base : Nat) (a : Option Addr) (cap n : Nat) (T : List Fc) (f : Fc) (w : World) (hown : w.ownsRow base 53 4 (.slice a n cap) n (fl T)) (hv : Value.slice a n cap ≠ .slice none 0 0) (hA : Asc T) (hl : n ≤ 1048576) (hb : base ≤ w.heap.size) :
    Calls Tryz.prog 68 #[.slice a n cap, fval f] w fun e w' => ∃ a' c', e = .returned (.tuple #[.slice a' (tput T f).length c', .bool (tnew T f)]) ∧ Value.slice a' (tput T f).length c' ≠ .slice none 0 0 ∧ w'.ownsRow base 53 4 (.slice a' (tput T f).length c') (tput T f).length (fl (tput T f)) ∧ Below w.heap.size w w' := by
  have hT : T.length = n := by have := hown.1; rw [fl_len] at this; omega
  rcases own_sliceF hown with ⟨e, _⟩ | ⟨g, c, e, hg1, hg2, hg3⟩
  · exact absurd e hv
  · simp only [Value.slice.injEq, true_and] at e
    obtain ⟨rfl, rfl⟩ := e
    obtain ⟨a0, c0, e0, _, _, hF⟩ := own_facts hown
    subst hT
    have hin : FactsIn w g 0 T.length (fun k => T.getD k Fc.zero) := fun k hk => by
      obtain ⟨b, off, e, _, h⟩ := hF (by omega)
      simp only [Value.slice.injEq, true_and] at e0
      rw [← e0.1] at e
      simp only [Option.some.injEq, Addr.mk.injEq, and_true] at e
      obtain ⟨rfl, rfl⟩ := e
      exact h k hk
    have h := l3put_any g 0 T.length cap (fun k => T.getD k Fc.zero) f w hin hg2 hg3 hl (getD_asc hA)
    rw [seqF_getD_self] at h
    refine h.mono ?_
    rintro e w' ⟨v', c', n', rfl, rfl, h1 | h1, hb'⟩
    · obtain ⟨rfl, rfl, h2, h3⟩ := h1
      refine ⟨_, _, rfl, by simp, ?_, hb'⟩
      rw [h3]
      exact own_below hown hb'
    · refine ⟨_, _, rfl, ?_, own_mono hb h1, hb'⟩
      intro e
      simp only [Value.slice.injEq] at e
      obtain ⟨rfl, e1, rfl⟩ := e
      rcases h1.2 with ⟨_, _⟩ | ⟨_, _, _, e2, _⟩
      · have h2 : (tput T f).length ≠ 0 := by
          cases T with
          | nil => simp [tput]
          | cons g r => unfold tput; split; simp; split; split <;> simp; simp
        exact h2 e1
      · simp at e2
end Go.Proofs.YtibnojbhoepcdaaGreatDoor
/- Blocks of four cells of the call's own; numbers that are picked. -/
namespace Go.Proofs.YtibnojbhoepcdaaGreatDoor
open Go.ChangeShapes Go.WideShapes Go.ChangeAt Go.RowKit
set_option maxRecDepth 20000 in
theorem Rd.set {G : Cd} {B rb p : Nat} {w : World} (h : Rd G B rb p w) (R o : Nat) (v : Value) (h1 : R ≠ rb) (h2 : B ≤ R) : Rd G B rb p (w.setCell ⟨R, o, none⟩ v) := by
  obtain ⟨a1, a2, a3, a4, a5, a, cap, hl, a6, hc0, a7⟩ := h
  refine ⟨a1, by simpa [World.setCell] using a2, a3, ?_, ?_, a, cap, hl, ?_, hc0, ?_⟩
  · rw [World.frozen?_setCell]; exact a4
  · rw [cell_far _ (show rb ≠ R by omega)]; exact a5
  · rw [cell_far _ (show rb ≠ R by omega)]; exact a6
  · rcases a7 with a7 | ⟨b, off, rfl, hb, hcc⟩
    · exact .inl a7
    · refine .inr ⟨b, off, rfl, hb, fun i hi => ?_⟩
      rw [cell_far _ (show b ≠ R by omega)]; exact hcc i hi
set_option maxRecDepth 20000 in
theorem Off.set {rb : Nat} {a b : World} (h : Off rb a b) (R o : Nat) (v : Value) (hR : a.heap.size ≤ R) : Off rb a (b.setCell ⟨R, o, none⟩ v) :=
  ⟨h.os, h.tape, h.output, by have := h.size; simpa [World.setCell] using this, fun k hk hn => (Below.heap_setCell b ⟨R, o, none⟩ v k (show k ≠ R by omega)).trans (h.block k hk hn)⟩
/-- four cells of a block may be written -/
def Slot4 (w : World) (b : Nat) : Prop := ∀ i, i < 4 → (∃ v, w.cell? ⟨b, i, none⟩ = some v) ∧ w.frozen? ⟨b, i, none⟩ = false
set_option maxRecDepth 20000 in
theorem Slot4.aside {w w' : World} {b rb : Nat} (h : Slot4 w b) (ha : Aside1 rb w w') (hb : b ≠ rb) : Slot4 w' b := fun i hi => by
  obtain ⟨⟨v, hv⟩, hf⟩ := h i hi
  exact ⟨⟨v, (ha.cell (p := ⟨b, i, none⟩) hb).trans hv⟩, (ha.frozen (p := ⟨b, i, none⟩) hb).trans hf⟩
set_option maxRecDepth 20000 in
theorem Slot4.off {w w' : World} {b rb : Nat} (h : Slot4 w b) (ha : Off rb w w') (hb : b ≠ rb) : Slot4 w' b := fun i hi => by
  obtain ⟨⟨v, hv⟩, hf⟩ := h i hi
  have hlt : b < w.heap.size := World.block_lt_of_cell? w _ hv
  exact ⟨⟨v, (ha.cell (p := ⟨b, i, none⟩) hlt hb).trans hv⟩, (ha.frozen (p := ⟨b, i, none⟩) hlt hb).trans hf⟩
set_option maxRecDepth 20000 in
theorem Slot4.alloc {w : World} {b : Nat} (h : Slot4 w b) (o : Obj) : Slot4 (w.alloc o) b := fun i hi => by
  obtain ⟨⟨v, hv⟩, hf⟩ := h i hi
  have hlt : b < w.heap.size := World.block_lt_of_cell? w _ hv
  exact ⟨⟨v, keep_alloc o hv⟩, (World.frozen?_of_block (w := w) (Below.heap_alloc w o b hlt)).trans hf⟩
set_option maxRecDepth 20000 in
theorem Slot4.new (w : World) (x y h e : Value) (t : TypeId) : Slot4 (w.alloc (.cells #[x, y, h, e] t)) w.heap.size := fun i hi => by
  have : i = 0 ∨ i = 1 ∨ i = 2 ∨ i = 3 := by omega
  rcases this with rfl | rfl | rfl | rfl <;> exact ⟨⟨_, by simp; rfl⟩, by simp [go_sem]⟩
set_option maxRecDepth 20000 in
theorem three (w : World) (x0 x1 x2 : Int) (m : Nat) (hm : m < 3) : ∃ r : Int, (w.alloc (.cells #[.int .i64 x0, .int .i64 x1, .int .i64 x2] 3)).cell? ⟨w.heap.size, m, none⟩ = some (.int .i64 r) := by
  have h : m = 0 ∨ m = 1 ∨ m = 2 := by omega
  rcases h with rfl | rfl | rfl <;> exact ⟨_, by simp; rfl⟩
set_option maxRecDepth 20000 in
theorem two (w : World) (x0 x1 : Int) (m : Nat) (hm : m < 2) : ∃ r : Int, (w.alloc (.cells #[.int .i64 x0, .int .i64 x1] 3)).cell? ⟨w.heap.size, m, none⟩ = some (.int .i64 r) := by
  have h : m = 0 ∨ m = 1 := by omega
  rcases h with rfl | rfl <;> exact ⟨_, by simp; rfl⟩
set_option maxRecDepth 20000 in
theorem Slot4.below {w w' : World} {b : Nat} (h : Slot4 w b) (hb : Below w.heap.size w w') : Slot4 w' b := fun i hi => by
  obtain ⟨⟨v, hv⟩, hf⟩ := h i hi
  have hlt : b < w.heap.size := World.block_lt_of_cell? w _ hv
  exact ⟨⟨v, (hb.cell (p := ⟨b, i, none⟩) hlt).trans hv⟩, (hb.frozen (p := ⟨b, i, none⟩) hlt).trans hf⟩
set_option maxRecDepth 20000 in
theorem Rd.below {G : Cd} {B rb p : Nat} {w w' : World} (h : Rd G B rb p w) (hb : Below w.heap.size w w') : Rd G B rb p w' := by
  obtain ⟨a1, a2, a3, a4, a5, a, cap, hl, a6, hc0, a7⟩ := h
  refine ⟨a1, by have := hb.size; omega, a3, ?_, ?_, a, cap, hl, ?_, hc0, ?_⟩
  · exact (hb.frozen (p := ⟨rb, 1, none⟩) a2).trans a4
  · exact (hb.cell (p := ⟨rb, 1, none⟩) a2).trans a5
  · exact (hb.cell (p := ⟨rb, 0, none⟩) a2).trans a6
  · rcases a7 with a7 | ⟨b, off, rfl, hbb, hcc⟩
    · exact .inl a7
    · refine .inr ⟨b, off, rfl, hbb, fun i hi => ?_⟩
      exact (hb.cell (p := ⟨b, off + i, none⟩) (show b < w.heap.size by omega)).trans (hcc i hi)
set_option maxRecDepth 20000 in
theorem Off.ofBelow {w w' : World} (rb : Nat) (hb : Below w.heap.size w w') : Off rb w w' := ⟨hb.os, hb.tape, hb.output, hb.size, fun k hk _ => hb.block k hk⟩
set_option maxRecDepth 20000 in
/-- four stores into a block of the call's own -/
theorem Rd.set4 {G : Cd} {B rb p : Nat} {w : World} (h : Rd G B rb p w) (R : Nat) (a b c d : Value) (h1 : R ≠ rb) (h2 : B ≤ R) : Rd G B rb p ((((w.setCell ⟨R, 0, none⟩ a).setCell ⟨R, 1, none⟩ b).setCell ⟨R, 2, none⟩ c).setCell ⟨R, 3, none⟩ d) :=
  (((h.set R 0 a h1 h2).set R 1 b h1 h2).set R 2 c h1 h2).set R 3 d h1 h2
set_option maxRecDepth 20000 in
theorem Off.set4 {rb : Nat} {u w : World} (h : Off rb u w) (R : Nat) (a b c d : Value) (hR : u.heap.size ≤ R) : Off rb u ((((w.setCell ⟨R, 0, none⟩ a).setCell ⟨R, 1, none⟩ b).setCell ⟨R, 2, none⟩ c).setCell ⟨R, 3, none⟩ d) :=
  (((h.set R 0 a hR).set R 1 b hR).set R 2 c hR).set R 3 d hR
set_option maxRecDepth 20000 in
theorem pick_lit {G : Cd} (B rb p : Nat) (n v : Int) (w : World) (h : Rd G B rb p w) (hp : p < 1000000) (hv : Hid (G.pk p n = v)) :
    Calls Tryz.prog 29 #[.pointer (some ⟨rb, 0, none⟩), .int .i64 n] w fun e w' => e = .returned (.int .i64 v) ∧ Rd G B rb (p + 1) w' ∧ Aside1 rb w w' :=
  (pick_any B rb p n w h hp).mono (by rintro e w' ⟨rfl, _, r, o⟩; exact ⟨by rw [hv.out], r, o⟩)
set_option maxRecDepth 20000 in
theorem gate_any (n : Int) (w : World) : Calls Tryz.prog 102 #[.int .i64 n] w fun e w' => ∃ g : Bool, e = .returned (.bool g) ∧ w' = w := by
  go_enter Tryz.func102, Tryz.ntmps102
  go_wp2
  go_ret
  exact ⟨_, rfl, rfl⟩
set_option maxRecDepth 20000 in
theorem keep_aside {rb : Nat} {w w' : World} {b o : Nat} {v : Value} (h : Aside1 rb w w') (hb : b ≠ rb) (hc : w.cell? ⟨b, o, none⟩ = some v) : w'.cell? ⟨b, o, none⟩ = some v := (h.cell (p := ⟨b, o, none⟩) hb).trans hc
set_option maxRecDepth 20000 in
theorem keep_setD {w : World} {b o b' o' : Nat} {v : Value} (u : Value) (hp : b ≠ b') (h : w.cell? ⟨b, o, none⟩ = some v) : (w.setCell ⟨b', o', none⟩ u).cell? ⟨b, o, none⟩ = some v := (cell_far u hp).trans h
set_option maxRecDepth 20000 in
theorem Rd.drew {G : Cd} {B rb p : Nat} {w : World} (h : Rd G B rb p w) : Rd G B rb p w.drew := h.below (Below.drew (Below.refl _ _))
set_option maxRecDepth 20000 in
theorem Slot4.drew {w : World} {b : Nat} (h : Slot4 w b) : Slot4 w.drew b := h.below (Below.drew (Below.refl _ _))
set_option maxRecDepth 20000 in
theorem Off.drew {rb : Nat} {a b : World} (h : Off rb a b) : Off rb a b.drew := h.trans (Off.ofBelow rb (Below.drew (Below.refl _ _)))
set_option maxRecDepth 20000 in
theorem Slot4.lt {w : World} {b : Nat} (h : Slot4 w b) : b < w.heap.size := by
  obtain ⟨⟨v, hv⟩, _⟩ := h 0 (by omega)
  exact World.block_lt_of_cell? w _ hv
set_option maxRecDepth 20000 in
theorem at0 (w : World) (x0 x1 x2 : Int) : (w.alloc (.cells #[.int .i64 x0, .int .i64 x1, .int .i64 x2] 3)).cell? ⟨w.heap.size, 0, none⟩ = some (.int .i64 x0) := by simp
set_option maxRecDepth 20000 in
theorem at1 (w : World) (x0 x1 x2 : Int) : (w.alloc (.cells #[.int .i64 x0, .int .i64 x1, .int .i64 x2] 3)).cell? ⟨w.heap.size, 1, none⟩ = some (.int .i64 x1) := by simp
set_option maxRecDepth 20000 in
theorem at2 (w : World) (x0 x1 x2 : Int) : (w.alloc (.cells #[.int .i64 x0, .int .i64 x1, .int .i64 x2] 3)).cell? ⟨w.heap.size, 2, none⟩ = some (.int .i64 x2) := by simp
end Go.Proofs.YtibnojbhoepcdaaGreatDoor
