/- ScriptRead: the program's way. -/
import Derived.Test.YtlebggbbhkiokaaGreatDoorRMa
import Derived.Test.YtlebggbbhkiokaaGreatDoorRAs2
namespace Go.Proofs.YtlebggbbhkiokaaGreatDoor
open Go.ChangeShapes Go.WideShapes Go.ChangeAt Go.RowKit
attribute [local go_sem ↓] Go.wp_at_zero Go.wp_at_succ
theorem set_cell {w : World} {a : Addr} {v u : Value} (h : w.cell? a = some u) : (w.setCell a v).cell? a = some v := World.cell?_setCell_same' _ _ _ (by rw [h]; rfl)
theorem boxed_drew {W : World} {B : Nat} {t : TypeId} {v : Value} (h : Boxed W B t v) : Boxed W.drew B t v := h
set_option maxRecDepth 20000 in
set_option maxHeartbeats 4000000 in
theorem sevs_long (x : ByteArray) (hx : 4000 < x.size) (p : Addr) (w : World) (hl : w.cell? ⟨0, 0, none⟩ = some (.iface 157 (.pointer (some p)))) :
    Calls Tryz.prog 12 #[.string x] w fun e w' => e = .returned (.tuple #[.slice none 0 0, .iface 157 (.pointer (some p))]) ∧ Below w.heap.size w w' := by
  have g0 : (4000 : Int) < (x.size : Int) := by omega
  have hw0 := World.block_lt_of_cell? w _ hl
  replace hw0 : 0 < w.heap.size := hw0
  go_enter Tryz.func12, Tryz.ntmps12
  go_wp2_with fail
  have B2 : Boxed ((w.alloc (.cells #[.slice none 0 0] 22)).alloc (.cells #[.nilIface] 36)) w.heap.size 22 (.slice none 0 0) := (Boxed.new w 22 (.slice none 0 0)).alloc _
  have B3 : Boxed ((w.alloc (.cells #[.slice none 0 0] 22)).alloc (.cells #[.nilIface] 36)) (w.heap.size + 1) 36 .nilIface := by
    have := Boxed.new (w.alloc (.cells #[.slice none 0 0] 22)) 36 .nilIface
    rw [World.size_alloc] at this
    exact this
  have BW : Below w.heap.size w ((w.alloc (.cells #[.slice none 0 0] 22)).alloc (.cells #[.nilIface] 36)) := balloc _ (balloc _ (Below.refl _ _))
  replace hl := keep_alloc (.cells #[.nilIface] 36) (keep_alloc (.cells #[.slice none 0 0] 22) hl)
  generalize ((w.alloc (.cells #[.slice none 0 0] 22)).alloc (.cells #[.nilIface] 36)) = w2 at *
  refine wp_region_held_drew (S := fun w' => w'.cell? ⟨0, 0, none⟩ = some (.iface 157 (.pointer (some p)))) (by kernel_rfl) ?_ (fun hHeld => ?_)
  · (try dsimp only); (repeat (first | with_reducible assumption | with_reducible refine keep_drew ?_))
  refine wpAnyH_take (i := 0) (oi := { dst := some 12, op := Go.Op.load 36 (Go.Operand.global 0), type := 36, pos := "l54_script.go:65", after := #[], guard := none }) (v := ?_) rfl (by kernel_rfl) (by kernel_rfl) (by kernel_rfl) (fun _ _ _ h => h) (Or.inl ⟨by rfl, ?_⟩) (by assumption) ?_
  rotate_left 1
  · (intro w hSw; (try dsimp only at hSw); go_simp; try with_reducible rfl)
  (try simp only [Act.put, List.setIfInBounds_toArray, List.set_cons_zero, List.set_cons_succ])
  have hl' := keep_drew hl
  replace B2 := boxed_drew B2
  replace B3 := boxed_drew B3
  replace BW := qd BW
  clear hHeld
  generalize w2.drew = wd at *
  have c2 := B2.cell
  have f2 := B2.frozen
  refine wpAnyH_ready (rs := [1]) (by kernel_rfl) (by simp) ?_
  refine AllReadyH.cons (o := { dst := none, op := Go.Op.store 22 (Go.Operand.tmp 2) (Go.Operand.const (Go.Value.slice none 0 0)), type := 0, pos := "l54_script.go:65", after := #[{ on := 0, ground := Go.Ground.textOnly Go.Departure.inlinedCapture }], guard := none }) rfl (fun K hK => ?_) (AllReadyH.nil)
  go_simp
  refine hK.out _ _ ?_ (fun hHeld => ?_)
  · exact cell_afar (by omega) hl'
  clear hK K
  (try simp only [Act.put, List.setIfInBounds_toArray, List.set_cons_zero, List.set_cons_succ])
  have l5 := cell_afar (b := w.heap.size) (k := 0) (v := .slice none 0 0) (show (0 : Nat) ≠ w.heap.size by omega) hl'
  have B2' := B2.set (.slice none 0 0)
  have B3' := B3.other (show w.heap.size + 1 ≠ w.heap.size by omega) (.slice none 0 0)
  have BW' : Below w.heap.size w (wd.setCell ⟨w.heap.size, 0, none⟩ (.slice none 0 0)) := BW.setCell (p := ⟨w.heap.size, 0, none⟩) (Nat.le_refl _) _
  clear c2 f2 B2 B3 BW hHeld hl'
  generalize (wd.setCell ⟨w.heap.size, 0, none⟩ (.slice none 0 0)) = w5 at *
  have c3 := B3'.cell
  have f3 := B3'.frozen
  refine wpAnyH_ready (rs := [2]) (by kernel_rfl) (by simp) ?_
  refine AllReadyH.cons (o := { dst := none, op := Go.Op.store 36 (Go.Operand.tmp 3) (Go.Operand.tmp 12), type := 0, pos := "l54_script.go:65", after := #[{ on := 0, ground := Go.Ground.data }, { on := 1, ground := Go.Ground.chain }, { on := 0, ground := Go.Ground.phase }, { on := 1, ground := Go.Ground.phase }], guard := none }) rfl (fun K hK => ?_) (AllReadyH.nil)
  go_simp
  refine hK.out _ _ ?_ (fun hHeld => ?_)
  · exact cell_afar (by omega) l5
  clear hK K
  (try simp only [Act.put, List.setIfInBounds_toArray, List.set_cons_zero, List.set_cons_succ])
  refine wpAnyH_done (by kernel_rfl) ?_ _
  have B2'' := B2'.other (show w.heap.size ≠ w.heap.size + 1 by omega) (.iface 157 (.pointer (some p)))
  have B3'' := B3'.set (.iface 157 (.pointer (some p)))
  have BE : Below w.heap.size w (w5.setCell ⟨w.heap.size + 1, 0, none⟩ (.iface 157 (.pointer (some p)))) := BW'.setCell (p := ⟨w.heap.size + 1, 0, none⟩) (by show w.heap.size ≤ w.heap.size + 1; omega) _
  clear c3 f3 B2' B3' BW' hHeld l5
  generalize (w5.setCell ⟨w.heap.size + 1, 0, none⟩ (.iface 157 (.pointer (some p)))) = w6 at *
  have c2 := B2''.cell
  have c3 := B3''.cell
  go_wp2
  exact bodyPost_ret (v := .tuple #[.slice none 0 0, .iface 157 (.pointer (some p))]) (by simp [results, Tryz.results12, go_sem, c2, c3]) rfl ⟨rfl, BE⟩
theorem sevs_any (T : List UInt8) (hT : T.length ≤ 4000) (w : World) (hp : Pst w) : Calls Tryz.prog 12 #[.string (bs T)] w (Sevs T w) := by
  obtain ⟨m, hm⟩ := hp.m
  exact (callsIn_wide (n := 10)).1 (sevs_in 10 (by omega) T hT w hp (World.block_lt_of_cell? w _ hm))
/-- what is answered of a text that is short enough -/
theorem sevs_out {T : List UInt8} (hT : T.length ≤ 4000) {n : Nat} {F : Nat → Fc} {at_ : Int} {ok : Bool} (hO : Out T n F at_ ok) {w : World} {e : Ending} {w' : World} (h : Sevs T w e w') :
    (at_ = 0 ∧ ok = true ∧ ∃ v, e = .returned (.tuple #[v, .nilIface]) ∧ w'.ownsRow w.heap.size 31 4 v n (fl (seqF F n)) ∧ Below w.heap.size w w') ∨ (n = 0 ∧ ok = false ∧ e = .returned (.tuple #[.slice none 0 0, .iface 40 (.agg #[.int .i64 at_])]) ∧ Below w.heap.size w w') := by
  rcases hO with ⟨h1, _⟩ | ⟨_, hA, h2, h3⟩ | ⟨_, i, G, hB, h1, h2, h3⟩
  · omega
  · obtain ⟨a1, a2, a3⟩ := all_lines hA
    rcases h with ⟨v, he, hg, hr, hb⟩ | ⟨pre, y, r, hy, hg, hng, he, hb⟩
    · rw [a1, a3] at hr
      exact .inl ⟨h2, h3, v, he, hr, hb⟩
    · obtain ⟨e1, e2, _⟩ := lnsK_at hy
      rw [e1] at hng
      exact absurd (a2 _ (by omega)) hng
  · obtain ⟨b1, b2, b3⟩ := bad_lines hT hB
    rcases h with ⟨v, he, hg, hr, hb⟩ | ⟨pre, y, r, hy, hg, hng, he, hb⟩
    · exact absurd (hg _ (lnsK_mem b1)) b3
    · obtain ⟨e1, e2, e3⟩ := lnsK_at hy
      rw [e1] at hng
      have hi : pre.length = i := by
        rcases Nat.lt_trichotomy pre.length i with h | h | h
        · exact absurd (b2 _ h) hng
        · exact h
        · exact absurd (hg _ (e3 i h)) b3
      refine .inr ⟨h1, h3, ?_, hb⟩
      rw [he, e1, h2, hi]
set_option maxRecDepth 20000 in
set_option maxHeartbeats 8000000 in
theorem isr_any (T : List UInt8) (n : Nat) (F : Nat → Fc) (at_ : Int) (ok : Bool) (hO : Out T n F at_ ok) (w : World) (hp : Pst w) :
    Calls Tryz.prog 5 #[.string (bs T)] w fun e w' => Rows3 w n F at_ ok e w' := by
  by_cases hT : T.length ≤ 4000
  · have hC := (sevs_any T hT w hp).mono (fun e w' h => sevs_out hT hO h)
    clear hO
    obtain ⟨x, hx⟩ : ∃ x, Hid (bs T = x) := ⟨bs T, Eq.refl _⟩
    rw [hx.out] at hC ⊢
    go_enter Tryz.func5, Tryz.ntmps5
    go_wp2_with fail
    refine hC.mono ?_
    rintro e w1 (⟨rfl, rfl, v, rfl, hr, B1⟩ | ⟨rfl, rfl, rfl, B1⟩)
    · clear hC
      have b2 : Below w1.heap.size w1 (w1.alloc (.cells #[.int .i64 0] 40)) := balloc _ (Below.refl _ _)
      go_wp2_with fail
      refine (as_nil _ _).mono ?_
      rintro e w3 ⟨rfl, hw⟩
      obtain rfl := hw.symm
      clear hw
      have B2 := btrans B1 b2
      have R2 := own_below hr b2
      clear b2 hr B1
      go_wp2_with fail
      generalize (w1.alloc (.cells #[.int .i64 0] 40)) = w2 at *
      refine wp_region_held_drew (S := fun _ => True) (by kernel_rfl) ?_ (fun hHeld => ?_)
      · trivial
      refine wpAnyH_take (i := 0) (oi := { dst := some 18, op := Go.Op.move (Go.Operand.tmp 5), type := 22, pos := "l54_script.go:100", after := #[], guard := none }) (v := ?_) rfl (by kernel_rfl) (by kernel_rfl) (by kernel_rfl) (fun _ _ _ h => h) (Or.inl ⟨by rfl, ?_⟩) (by assumption) ?_
      rotate_left 1
      · (intro w hSw; (try dsimp only at hSw); go_simp; try with_reducible rfl)
      (try simp only [Act.put, List.setIfInBounds_toArray, List.set_cons_zero, List.set_cons_succ])
      refine wpAnyH_take (i := 1) (oi := { dst := some 19, op := Go.Op.move (Go.Operand.tmp 6), type := 36, pos := "l54_script.go:100", after := #[{ on := 4, ground := Go.Ground.gcOnly Go.Departure.lateStores }], guard := none }) (v := ?_) rfl (by kernel_rfl) (by kernel_rfl) (by kernel_rfl) (fun _ _ _ h => h) (Or.inl ⟨by rfl, ?_⟩) (by assumption) ?_
      rotate_left 1
      · (intro w hSw; (try dsimp only at hSw); go_simp; try with_reducible rfl)
      (try simp only [Act.put, List.setIfInBounds_toArray, List.set_cons_zero, List.set_cons_succ])
      refine wpAnyH_take (i := 2) (oi := { dst := some 20, op := Go.Op.binOp Go.BinOp.eql 36 (Go.Operand.tmp 19) (Go.Operand.const Go.Value.nilIface) 36, type := 4, pos := "l54_script.go:100", after := #[{ on := 1, ground := Go.Ground.data }, { on := 4, ground := Go.Ground.gcOnly Go.Departure.lateStores }], guard := none }) (v := ?_) rfl (by kernel_rfl) (by kernel_rfl) (by kernel_rfl) (fun _ _ _ h => h) (Or.inl ⟨by rfl, ?_⟩) (by assumption) ?_
      rotate_left 1
      · (intro w hSw; (try dsimp only at hSw); go_simp; try with_reducible rfl)
      (try simp only [Act.put, List.setIfInBounds_toArray, List.set_cons_zero, List.set_cons_succ])
      refine wpAnyH_take (i := 3) (oi := { dst := some 2, op := Go.Op.assign (Go.Operand.tmp 18), type := 22, pos := "l54_script.go:100", after := #[{ on := 0, ground := Go.Ground.data }, { on := 0, ground := Go.Ground.phase }, { on := 1, ground := Go.Ground.textOnly Go.Departure.lateStores }, { on := 2, ground := Go.Ground.textOnly Go.Departure.lateStores }], guard := none }) (v := ?_) rfl (by kernel_rfl) (by kernel_rfl) (by kernel_rfl) (fun _ _ _ h => h) (Or.inl ⟨by rfl, ?_⟩) (by assumption) ?_
      rotate_left 1
      · (intro w hSw; (try dsimp only at hSw); go_simp; try with_reducible rfl)
      (try simp only [Act.put, List.setIfInBounds_toArray, List.set_cons_zero, List.set_cons_succ])
      refine wpAnyH_take (i := 4) (oi := { dst := some 3, op := Go.Op.assign (Go.Operand.const (Go.Value.int Go.IntKind.i64 0)), type := 3, pos := "l54_script.go:100", after := #[{ on := 3, ground := Go.Ground.chain }, { on := 0, ground := Go.Ground.phase }, { on := 1, ground := Go.Ground.textOnly Go.Departure.lateStores }, { on := 2, ground := Go.Ground.textOnly Go.Departure.lateStores }, { on := 3, ground := Go.Ground.phase }], guard := none }) (v := ?_) rfl (by kernel_rfl) (by kernel_rfl) (by kernel_rfl) (fun _ _ _ h => h) (Or.inl ⟨by rfl, ?_⟩) (by assumption) ?_
      rotate_left 1
      · (intro w hSw; (try dsimp only at hSw); go_simp; try with_reducible rfl)
      (try simp only [Act.put, List.setIfInBounds_toArray, List.set_cons_zero, List.set_cons_succ])
      refine wpAnyH_take (i := 5) (oi := { dst := some 4, op := Go.Op.assign (Go.Operand.tmp 20), type := 4, pos := "l54_script.go:100", after := #[{ on := 2, ground := Go.Ground.data }, { on := 4, ground := Go.Ground.chain }, { on := 0, ground := Go.Ground.phase }, { on := 1, ground := Go.Ground.phase }, { on := 2, ground := Go.Ground.phase }, { on := 3, ground := Go.Ground.phase }, { on := 4, ground := Go.Ground.phase }], guard := none }) (v := ?_) rfl (by kernel_rfl) (by kernel_rfl) (by kernel_rfl) (fun _ _ _ h => h) (Or.inl ⟨by rfl, ?_⟩) (by assumption) ?_
      rotate_left 1
      · (intro w hSw; (try dsimp only at hSw); go_simp; try with_reducible rfl)
      (try simp only [Act.put, List.setIfInBounds_toArray, List.set_cons_zero, List.set_cons_succ])
      refine wpAnyH_done (by kernel_rfl) ?_ _
      clear hHeld
      go_wp2
      exact bodyPost_ret (v := .tuple #[v, .int .i64 0, .bool true]) (by simp [results, Tryz.results5, go_sem]) rfl ⟨_, rfl, own_below R2 (qd (Below.refl _ _)), qd B2⟩
    · clear hC
      have b2 : Below w1.heap.size w1 (w1.alloc (.cells #[.int .i64 0] 40)) := balloc _ (Below.refl _ _)
      have hE := (hp.below (btrans B1 b2)).e
      have hc : (w1.alloc (.cells #[.int .i64 0] 40)).cell? ⟨w1.heap.size, 0, none⟩ = some (.int .i64 0) := by simp
      have hf : (w1.alloc (.cells #[.int .i64 0] 40)).frozen? ⟨w1.heap.size, 0, none⟩ = false := by simp
      have hsz := B1.size
      go_wp2_with fail
      have B2 := btrans B1 b2
      clear b2 B1
      generalize (w1.alloc (.cells #[.int .i64 0] 40)) = w2 at *
      obtain ⟨t, ht⟩ : ∃ t, w1.heap.size = t := ⟨_, rfl⟩
      rw [ht] at hc hf hsz ⊢
      clear ht
      refine (as_hit at_ ⟨t, 0, none⟩ _ _ hE hc hf).mono ?_
      rintro e w3 ⟨rfl, hw⟩
      have B3 : Below w.heap.size w w3 := by
        rw [hw]
        exact (balloc _ (balloc _ (balloc _ (balloc _ B2)))).setCell (p := ⟨t, 0, none⟩) hsz _
      have hlt := World.block_lt_of_cell? w2 _ hc
      have c3 : w3.cell? ⟨t, 0, none⟩ = some (.int .i64 at_) := by
        rw [hw]
        have h4 := keep_alloc (.cells #[.int .i64 at_] 40) (keep_alloc (.cells #[.pointer (some ⟨13, 42, none⟩), .pointer (some ⟨w2.heap.size, 0, none⟩), .int .u64 150] 53) (keep_alloc (.cells #[.pointer (some ⟨13, 42, none⟩), .pointer (some ⟨w2.heap.size, 0, none⟩), .int .u64 150] 53) (keep_alloc (.cells #[.pointer (some ⟨t, 0, none⟩)] 42) hc)))
        exact set_cell h4
      clear hw hc hf hE hlt B2 hsz
      go_wp2_with fail
      refine wp_region_held_drew (S := fun w' => w'.cell? ⟨t, 0, none⟩ = some (.int .i64 at_)) (by kernel_rfl) ?_ (fun hHeld => ?_)
      · (try dsimp only); (repeat (first | with_reducible assumption | with_reducible refine keep_drew ?_))
      refine wpAnyH_take (i := 0) (oi := { dst := some 16, op := Go.Op.fieldAddr 40 (Go.Operand.tmp 7) 0, type := 0, pos := "l54_script.go:98", after := #[{ on := 2, ground := Go.Ground.gcOnly Go.Departure.lateStores }], guard := none }) (v := ?_) rfl (by kernel_rfl) (by kernel_rfl) (by kernel_rfl) (fun _ _ _ h => h) (Or.inl ⟨by rfl, ?_⟩) (by assumption) ?_
      rotate_left 1
      · (intro w hSw; (try dsimp only at hSw); go_simp; try with_reducible rfl)
      (try simp only [Act.put, List.setIfInBounds_toArray, List.set_cons_zero, List.set_cons_succ])
      refine wpAnyH_take (i := 1) (oi := { dst := some 17, op := Go.Op.load 3 (Go.Operand.tmp 16), type := 3, pos := "l54_script.go:98", after := #[{ on := 0, ground := Go.Ground.data }, { on := 2, ground := Go.Ground.gcOnly Go.Departure.lateStores }], guard := none }) (v := ?_) rfl (by kernel_rfl) (by kernel_rfl) (by kernel_rfl) (fun _ _ _ h => h) (Or.inl ⟨by rfl, ?_⟩) (by assumption) ?_
      rotate_left 1
      · (intro w hSw; (try dsimp only at hSw); go_simp; try with_reducible rfl)
      (try simp only [Act.put, List.setIfInBounds_toArray, List.set_cons_zero, List.set_cons_succ])
      refine wpAnyH_take (i := 2) (oi := { dst := some 2, op := Go.Op.assign (Go.Operand.const (Go.Value.slice none 0 0)), type := 22, pos := "l54_script.go:98", after := #[{ on := 0, ground := Go.Ground.textOnly Go.Departure.lateStores }, { on := 1, ground := Go.Ground.textOnly Go.Departure.lateStores }], guard := none }) (v := ?_) rfl (by kernel_rfl) (by kernel_rfl) (by kernel_rfl) (fun _ _ _ h => h) (Or.inl ⟨by rfl, ?_⟩) (by assumption) ?_
      rotate_left 1
      · (intro w hSw; (try dsimp only at hSw); go_simp; try with_reducible rfl)
      (try simp only [Act.put, List.setIfInBounds_toArray, List.set_cons_zero, List.set_cons_succ])
      refine wpAnyH_take (i := 3) (oi := { dst := some 3, op := Go.Op.assign (Go.Operand.tmp 17), type := 3, pos := "l54_script.go:98", after := #[{ on := 1, ground := Go.Ground.data }, { on := 2, ground := Go.Ground.chain }, { on := 0, ground := Go.Ground.phase }, { on := 1, ground := Go.Ground.phase }, { on := 2, ground := Go.Ground.phase }], guard := none }) (v := ?_) rfl (by kernel_rfl) (by kernel_rfl) (by kernel_rfl) (fun _ _ _ h => h) (Or.inl ⟨by rfl, ?_⟩) (by assumption) ?_
      rotate_left 1
      · (intro w hSw; (try dsimp only at hSw); go_simp; try with_reducible rfl)
      (try simp only [Act.put, List.setIfInBounds_toArray, List.set_cons_zero, List.set_cons_succ])
      refine wpAnyH_take (i := 4) (oi := { dst := some 4, op := Go.Op.assign (Go.Operand.const (Go.Value.bool false)), type := 4, pos := "l54_script.go:98", after := #[{ on := 3, ground := Go.Ground.chain }, { on := 0, ground := Go.Ground.phase }, { on := 1, ground := Go.Ground.phase }, { on := 2, ground := Go.Ground.phase }, { on := 3, ground := Go.Ground.phase }], guard := none }) (v := ?_) rfl (by kernel_rfl) (by kernel_rfl) (by kernel_rfl) (fun _ _ _ h => h) (Or.inl ⟨by rfl, ?_⟩) (by assumption) ?_
      rotate_left 1
      · (intro w hSw; (try dsimp only at hSw); go_simp; try with_reducible rfl)
      (try simp only [Act.put, List.setIfInBounds_toArray, List.set_cons_zero, List.set_cons_succ])
      refine wpAnyH_done (by kernel_rfl) ?_ _
      clear hHeld
      go_wp2
      exact bodyPost_ret (v := .tuple #[.slice none 0 0, .int .i64 at_, .bool false]) (by simp [results, Tryz.results5, go_sem]) rfl ⟨_, rfl, World.ownsRow_nil _ _ _ _, qd B3⟩
  · rcases hO with ⟨_, rfl, rfl, rfl⟩ | ⟨h, _⟩ | ⟨h, _⟩
    · obtain ⟨x, hx⟩ : ∃ x, Hid (bs T = x) := ⟨bs T, Eq.refl _⟩
      have hxl : 4000 < x.size := by rw [← hx.out, bs_size]; omega
      obtain ⟨p, hpl⟩ := hp.l
      have hC := sevs_long x hxl p w hpl
      rw [hx.out]
      clear hpl
      go_enter Tryz.func5, Tryz.ntmps5
      go_wp2_with fail
      refine hC.mono ?_
      rintro e w1 ⟨rfl, B1⟩
      clear hC
      have b2 : Below w1.heap.size w1 (w1.alloc (.cells #[.int .i64 0] 40)) := balloc _ (Below.refl _ _)
      have hE := (hp.below (btrans B1 b2)).e
      go_wp2_with fail
      have B2 := btrans B1 b2
      clear b2 B1
      generalize (w1.alloc (.cells #[.int .i64 0] 40)) = w2 at *
      obtain ⟨t, ht⟩ : ∃ t, w1.heap.size = t := ⟨_, rfl⟩
      rw [ht]
      clear ht
      refine (as_miss p ⟨t, 0, none⟩ _ hE).mono ?_
      rintro e w3 ⟨rfl, hw⟩
      have B3 : Below w.heap.size w w3 := by
        rw [hw]
        exact balloc _ (balloc _ (balloc _ B2))
      clear hw hE B2
      go_wp2_with fail
      refine wp_region_held_drew (S := fun _ => True) (by kernel_rfl) ?_ (fun hHeld => ?_)
      · trivial
      refine wpAnyH_take (i := 0) (oi := { dst := some 18, op := Go.Op.move (Go.Operand.tmp 5), type := 22, pos := "l54_script.go:100", after := #[], guard := none }) (v := ?_) rfl (by kernel_rfl) (by kernel_rfl) (by kernel_rfl) (fun _ _ _ h => h) (Or.inl ⟨by rfl, ?_⟩) (by assumption) ?_
      rotate_left 1
      · (intro w hSw; (try dsimp only at hSw); go_simp; try with_reducible rfl)
      (try simp only [Act.put, List.setIfInBounds_toArray, List.set_cons_zero, List.set_cons_succ])
      refine wpAnyH_take (i := 1) (oi := { dst := some 19, op := Go.Op.move (Go.Operand.tmp 6), type := 36, pos := "l54_script.go:100", after := #[{ on := 4, ground := Go.Ground.gcOnly Go.Departure.lateStores }], guard := none }) (v := ?_) rfl (by kernel_rfl) (by kernel_rfl) (by kernel_rfl) (fun _ _ _ h => h) (Or.inl ⟨by rfl, ?_⟩) (by assumption) ?_
      rotate_left 1
      · (intro w hSw; (try dsimp only at hSw); go_simp; try with_reducible rfl)
      (try simp only [Act.put, List.setIfInBounds_toArray, List.set_cons_zero, List.set_cons_succ])
      refine wpAnyH_take (i := 2) (oi := { dst := some 20, op := Go.Op.binOp Go.BinOp.eql 36 (Go.Operand.tmp 19) (Go.Operand.const Go.Value.nilIface) 36, type := 4, pos := "l54_script.go:100", after := #[{ on := 1, ground := Go.Ground.data }, { on := 4, ground := Go.Ground.gcOnly Go.Departure.lateStores }], guard := none }) (v := ?_) rfl (by kernel_rfl) (by kernel_rfl) (by kernel_rfl) (fun _ _ _ h => h) (Or.inl ⟨by rfl, ?_⟩) (by assumption) ?_
      rotate_left 1
      · (intro w hSw; (try dsimp only at hSw); go_simp; try with_reducible rfl)
      (try simp only [Act.put, List.setIfInBounds_toArray, List.set_cons_zero, List.set_cons_succ])
      refine wpAnyH_take (i := 3) (oi := { dst := some 2, op := Go.Op.assign (Go.Operand.tmp 18), type := 22, pos := "l54_script.go:100", after := #[{ on := 0, ground := Go.Ground.data }, { on := 0, ground := Go.Ground.phase }, { on := 1, ground := Go.Ground.textOnly Go.Departure.lateStores }, { on := 2, ground := Go.Ground.textOnly Go.Departure.lateStores }], guard := none }) (v := ?_) rfl (by kernel_rfl) (by kernel_rfl) (by kernel_rfl) (fun _ _ _ h => h) (Or.inl ⟨by rfl, ?_⟩) (by assumption) ?_
      rotate_left 1
      · (intro w hSw; (try dsimp only at hSw); go_simp; try with_reducible rfl)
      (try simp only [Act.put, List.setIfInBounds_toArray, List.set_cons_zero, List.set_cons_succ])
      refine wpAnyH_take (i := 4) (oi := { dst := some 3, op := Go.Op.assign (Go.Operand.const (Go.Value.int Go.IntKind.i64 0)), type := 3, pos := "l54_script.go:100", after := #[{ on := 3, ground := Go.Ground.chain }, { on := 0, ground := Go.Ground.phase }, { on := 1, ground := Go.Ground.textOnly Go.Departure.lateStores }, { on := 2, ground := Go.Ground.textOnly Go.Departure.lateStores }, { on := 3, ground := Go.Ground.phase }], guard := none }) (v := ?_) rfl (by kernel_rfl) (by kernel_rfl) (by kernel_rfl) (fun _ _ _ h => h) (Or.inl ⟨by rfl, ?_⟩) (by assumption) ?_
      rotate_left 1
      · (intro w hSw; (try dsimp only at hSw); go_simp; try with_reducible rfl)
      (try simp only [Act.put, List.setIfInBounds_toArray, List.set_cons_zero, List.set_cons_succ])
      refine wpAnyH_take (i := 5) (oi := { dst := some 4, op := Go.Op.assign (Go.Operand.tmp 20), type := 4, pos := "l54_script.go:100", after := #[{ on := 2, ground := Go.Ground.data }, { on := 4, ground := Go.Ground.chain }, { on := 0, ground := Go.Ground.phase }, { on := 1, ground := Go.Ground.phase }, { on := 2, ground := Go.Ground.phase }, { on := 3, ground := Go.Ground.phase }, { on := 4, ground := Go.Ground.phase }], guard := none }) (v := ?_) rfl (by kernel_rfl) (by kernel_rfl) (by kernel_rfl) (fun _ _ _ h => h) (Or.inl ⟨by rfl, ?_⟩) (by assumption) ?_
      rotate_left 1
      · (intro w hSw; (try dsimp only at hSw); go_simp; try with_reducible rfl)
      (try simp only [Act.put, List.setIfInBounds_toArray, List.set_cons_zero, List.set_cons_succ])
      refine wpAnyH_done (by kernel_rfl) ?_ _
      clear hHeld
      go_wp2
      exact bodyPost_ret (v := .tuple #[.slice none 0 0, .int .i64 0, .bool false]) (by simp [results, Tryz.results5, go_sem]) rfl ⟨_, rfl, World.ownsRow_nil _ _ _ _, qd B3⟩
    · exact absurd h hT
    · exact absurd h hT
end Go.Proofs.YtlebggbbhkiokaaGreatDoor
