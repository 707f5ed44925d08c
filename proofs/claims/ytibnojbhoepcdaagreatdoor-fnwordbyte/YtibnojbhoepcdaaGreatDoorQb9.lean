/- Texts of the proof, laid together: DrawFact. -/
import Derived.Test.YtibnojbhoepcdaaGreatDoorQb8
/- A drawn fact, whatever the code: some numbers; nothing but the reader has turned. -/
namespace Go.Proofs.YtibnojbhoepcdaaGreatDoor
open Go.ChangeShapes Go.WideShapes Go.ChangeAt Go.RowKit
attribute [local go_sem ↓] Go.wp_at_zero Go.wp_at_succ
/-- what a drawn fact comes to: some numbers; nothing but the reader has turned -/
def FactPost (G : Cd) (B rb p : Nat) (w : World) (r : Ending) (w' : World) : Prop :=
  ∃ (n i s : Int) (g : Bool) (q : Nat), r = .returned (.agg #[.int .i64 n, .int .i64 i, .int .i64 s, .bool g]) ∧ q ≤ p + 20 ∧ Rd G B rb q w' ∧ Off rb w w'
set_option maxHeartbeats 4000000 in
set_option maxRecDepth 20000 in
theorem fact_0 {G : Cd} (B rb p : Nat) (site a1 a2 a4 : Int) (w : World) (h : Rd G B rb p w) (hp : p < 900000) (s0 : 0 ≤ site) (s1 : site ≤ 1)
    (h1 : Hid (G.pk (p + 1) 3 = a1)) (h2 : Hid (G.pk (p + 1 + 1) 12 = a2)) (h3 : Hid (G.pk (p + 1 + 1 + 1) 3 = 0)) (h4 : Hid (G.pk (p + 1 + 1 + 1 + 1) 4 = a4)) :
    Calls Tryz.prog 69 #[.pointer (some ⟨rb, 0, none⟩), .int .i64 site] w (FactPost G B rb p w) := by
  have hlt := h.lt
  have hle := h.le
  have hne : w.heap.size ≠ rb := by omega
  go_enter Tryz.func69, Tryz.ntmps69
  go_wp2_with fail
  refine (pick_any B rb p 4 _ (h.alloc _) (by omega)).mono ?_
  rintro r w1 ⟨rfl, ⟨x1, y1⟩, r1, o1⟩
  generalize G.pk p 4 = k0 at *
  have S1 := (Slot4.new w (.int .i64 0) (.int .i64 0) (.int .i64 0) (.bool false) 53).aside o1 hne
  have of1 := ((Off.refl rb w).alloc (.cells #[.int .i64 0, .int .i64 0, .int .i64 0, .bool false] 53)).trans o1.off
  have z1 := o1.size
  simp at z1
  have z2 : w.heap.size < w1.heap.size := by omega
  have k1 : k0 ≤ 3 := by omega
  clear z1 o1 y1
  go_wp2_with fail
  generalize site * 4 + k0 = nn
  clear k1 x1 s0 s1
  have r0 := r1.drew
  have S0 := S1.drew
  have of0 := of1.drew
  have hBR : B ≤ w.heap.size := by omega
  clear r1 S1 of1 h
  generalize hR : w.heap.size = R at *
  refine wp_region_any (by kernel_rfl) ?_
  change wpAny _ _ _ _ _ _ _ (World.drew w1)
  refine wpAny_take (i := 0) (oi := { dst := some 11, op := .move (.tmp 5), type := 3, pos := "l61_draw.go:146", after := #[], guard := none }) (v := ?_) rfl (by kernel_rfl) (by kernel_rfl) (by kernel_rfl) (fun _ _ _ h => h) (Or.inl ⟨by rfl, ?_⟩) ?_
  rotate_left 1
  · (intro w; go_simp; try with_reducible rfl)
  (try simp only [Act.put, List.setIfInBounds_toArray, List.set_cons_zero, List.set_cons_succ])
  refine wpAny_take (i := 1) (oi := { dst := some 12, op := .move (.tmp 0), type := 44, pos := "l61_draw.go:146", after := #[], guard := none }) (v := ?_) rfl (by kernel_rfl) (by kernel_rfl) (by kernel_rfl) (fun _ _ _ h => h) (Or.inl ⟨by rfl, ?_⟩) ?_
  rotate_left 1
  · (intro w; go_simp; try with_reducible rfl)
  (try simp only [Act.put, List.setIfInBounds_toArray, List.set_cons_zero, List.set_cons_succ])
  refine wpAny_take (i := 3) (oi := { dst := some 14, op := .move (.tmp 0), type := 44, pos := "l61_draw.go:146", after := #[], guard := none }) (v := ?_) rfl (by kernel_rfl) (by kernel_rfl) (by kernel_rfl) (fun _ _ _ h => h) (Or.inl ⟨by rfl, ?_⟩) ?_
  rotate_left 1
  · (intro w; go_simp; try with_reducible rfl)
  (try simp only [Act.put, List.setIfInBounds_toArray, List.set_cons_zero, List.set_cons_succ])
  refine wpAny_take (i := 6) (oi := { dst := some 17, op := .move (.tmp 0), type := 44, pos := "l61_draw.go:146", after := #[], guard := none }) (v := ?_) rfl (by kernel_rfl) (by kernel_rfl) (by kernel_rfl) (fun _ _ _ h => h) (Or.inl ⟨by rfl, ?_⟩) ?_
  rotate_left 1
  · (intro w; go_simp; try with_reducible rfl)
  (try simp only [Act.put, List.setIfInBounds_toArray, List.set_cons_zero, List.set_cons_succ])
  refine wpAny_take (i := 10) (oi := { dst := some 21, op := .move (.tmp 0), type := 44, pos := "l61_draw.go:146", after := #[], guard := none }) (v := ?_) rfl (by kernel_rfl) (by kernel_rfl) (by kernel_rfl) (fun _ _ _ h => h) (Or.inl ⟨by rfl, ?_⟩) ?_
  rotate_left 1
  · (intro w; go_simp; try with_reducible rfl)
  (try simp only [Act.put, List.setIfInBounds_toArray, List.set_cons_zero, List.set_cons_succ])
  refine wpAny_take (i := 13) (oi := { dst := some 24, op := .move (.tmp 5), type := 3, pos := "l61_draw.go:146", after := #[], guard := none }) (v := ?_) rfl (by kernel_rfl) (by kernel_rfl) (by kernel_rfl) (fun _ _ _ h => h) (Or.inl ⟨by rfl, ?_⟩) ?_
  rotate_left 1
  · (intro w; go_simp; try with_reducible rfl)
  (try simp only [Act.put, List.setIfInBounds_toArray, List.set_cons_zero, List.set_cons_succ])
  refine wpAny_ready (rs := [2]) (by kernel_rfl) (by simp) ?_
  refine (AllReady.cons (o := { dst := some 13, op := .call { callee := .value (.func 29), args := #[.tmp 12, .const (.int .i64 3)], argTypes := #[44, 3] }, type := 3, pos := "l61_draw.go:146", after := #[{ on := 1, ground := .data }], guard := none }) rfl (fun K hK => ?_) AllReady.nil)
  go_simp
  refine (pick_lit B rb (p + 1) 3 a1 _ r0 (by omega) h1).mono ?_
  rintro e w11 ⟨rfl, r11, o11⟩
  have S11 := S0.aside o11 hne
  have of11 := of0.trans o11.off
  clear r0 S0 of0 o11
  (try dsimp only)
  refine hK _ _ ?_
  clear hK K
  (try simp only [Act.put, List.setIfInBounds_toArray, List.set_cons_zero, List.set_cons_succ])
  refine wpAny_ready (rs := [4]) (by kernel_rfl) (by simp) ?_
  refine (AllReady.cons (o := { dst := some 15, op := .call { callee := .value (.func 29), args := #[.tmp 14, .const (.int .i64 12)], argTypes := #[44, 3] }, type := 3, pos := "l61_draw.go:146", after := #[{ on := 3, ground := .data }, { on := 2, ground := .chain }], guard := none }) rfl (fun K hK => ?_) AllReady.nil)
  go_simp
  refine (pick_lit B rb (p + 1 + 1) 12 a2 _ r11 (by omega) h2).mono ?_
  rintro e w12 ⟨rfl, r12, o12⟩
  have S12 := S11.aside o12 hne
  have of12 := of11.trans o12.off
  clear r11 S11 of11 o12
  (try dsimp only)
  refine hK _ _ ?_
  clear hK K
  (try simp only [Act.put, List.setIfInBounds_toArray, List.set_cons_zero, List.set_cons_succ])
  refine wpAny_ready (rs := [5, 7]) (by kernel_rfl) (by simp) ?_
  refine (AllReady.cons (o := { dst := some 16, op := .buildSlice 90 3 #[(0, .tmp 13), (1, .tmp 15), (2, .const (.int .i64 999))], type := 90, pos := "l61_draw.go:146", after := #[{ on := 2, ground := .data }, { on := 4, ground := .data }], guard := none }) rfl (fun K hK => ?_) (AllReady.cons (o := { dst := some 18, op := .call { callee := .value (.func 29), args := #[.tmp 17, .const (.int .i64 3)], argTypes := #[44, 3] }, type := 3, pos := "l61_draw.go:146", after := #[{ on := 6, ground := .data }, { on := 4, ground := .chain }], guard := none }) rfl (fun K hK => ?_) AllReady.nil))
  · skip
    have r13 := r12.alloc (.cells #[.int .i64 a1, .int .i64 a2, .int .i64 999] 3)
    have S13 := S12.alloc (.cells #[.int .i64 a1, .int .i64 a2, .int .i64 999] 3)
    have of13 := of12.alloc (.cells #[.int .i64 a1, .int .i64 a2, .int .i64 999] 3)
    have c13 := at0 w12 a1 a2 999
    have cn13 : w12.heap.size ≠ rb := by have := r12.lt; omega
    have cr13 : w12.heap.size ≠ R := by have := S12.lt; omega
    go_simp
    refine hK _ _ ?_
    clear hK K
    (try simp only [Act.put, List.setIfInBounds_toArray, List.set_cons_zero, List.set_cons_succ])
    refine wpAny_ready (rs := [7]) (by kernel_rfl) (by simp) ?_
    refine (AllReady.cons (o := { dst := some 18, op := .call { callee := .value (.func 29), args := #[.tmp 17, .const (.int .i64 3)], argTypes := #[44, 3] }, type := 3, pos := "l61_draw.go:146", after := #[{ on := 6, ground := .data }, { on := 4, ground := .chain }], guard := none }) rfl (fun K hK => ?_) AllReady.nil)
    go_simp
    refine (pick_lit B rb (p + 1 + 1 + 1) 3 0 _ r13 (by omega) h3).mono ?_
    rintro e w14 ⟨rfl, r14, o14⟩
    have S14 := S13.aside o14 hne
    have of14 := of13.trans o14.off
    have c14 := keep_aside o14 cn13 c13
    clear r13 S13 of13 o14
    (try dsimp only)
    refine hK _ _ ?_
    clear hK K
    (try simp only [Act.put, List.setIfInBounds_toArray, List.set_cons_zero, List.set_cons_succ])
    have hHeld : (fun w' => w'.cell? ⟨w12.heap.size, 0, none⟩ = some (.int .i64 a1)) w14 := c14
    refine wpAny_of_held (S := (fun w' => w'.cell? ⟨w12.heap.size, 0, none⟩ = some (.int .i64 a1))) _ _ _ _ ?_
    refine wpAnyH_take (i := 8) (oi := { dst := some 19, op := .indexAddr 90 (.tmp 16) (.tmp 18), type := 0, pos := "l61_draw.go:146", after := #[{ on := 5, ground := .data }, { on := 7, ground := .data }], guard := none }) (v := ?_) rfl (by kernel_rfl) (by kernel_rfl) (by kernel_rfl) (fun _ _ _ h => h) (Or.inl ⟨by rfl, ?_⟩) (by assumption) ?_
    rotate_left 1
    · (intro w hSw; (try dsimp only at hSw); go_simp; try with_reducible rfl)
    (try simp only [Act.put, List.setIfInBounds_toArray, List.set_cons_zero, List.set_cons_succ])
    refine wpAnyH_take (i := 9) (oi := { dst := some 20, op := .load 3 (.tmp 19), type := 3, pos := "l61_draw.go:146", after := #[{ on := 8, ground := .data }], guard := none }) (v := ?_) rfl (by kernel_rfl) (by kernel_rfl) (by kernel_rfl) (fun _ _ _ h => h) (Or.inl ⟨by rfl, ?_⟩) (by assumption) ?_
    rotate_left 1
    · (intro w hSw; (try dsimp only at hSw); go_simp; try with_reducible rfl)
    (try simp only [Act.put, List.setIfInBounds_toArray, List.set_cons_zero, List.set_cons_succ])
    refine wpAnyH_ready (rs := [11]) (by kernel_rfl) (by simp) ?_
    refine AllReadyH.cons (o := { dst := some 22, op := .call { callee := .value (.func 29), args := #[.tmp 21, .const (.int .i64 4)], argTypes := #[44, 3] }, type := 3, pos := "l61_draw.go:146", after := #[{ on := 10, ground := .data }, { on := 7, ground := .chain }], guard := none }) rfl (fun K hK => ?_) AllReadyH.nil
    go_simp
    refine (pick_lit B rb (p + 1 + 1 + 1 + 1) 4 a4 _ r14 (by omega) h4).mono ?_
    rintro e w15 ⟨rfl, r15, o15⟩
    have S15 := S14.aside o15 hne
    have of15 := of14.trans o15.off
    have c15 := keep_aside o15 cn13 c14
    clear r14 S14 of14 o15
    go_wp2_with fail
    refine hK.out _ _ ?_ (fun hHeld => ?_)
    · (try dsimp only); exact c15
    clear hK K
    (try simp only [Act.put, List.setIfInBounds_toArray, List.set_cons_zero, List.set_cons_succ])
    refine wpAnyH_take (i := 12) (oi := { dst := some 23, op := .binOp .add 3 (.const (.int .i64 1)) (.tmp 22) 3, type := 3, pos := "l61_draw.go:146", after := #[{ on := 11, ground := .data }], guard := none }) (v := ?_) rfl (by kernel_rfl) (by kernel_rfl) (by kernel_rfl) (fun _ _ _ h => h) (Or.inl ⟨by rfl, ?_⟩) (by assumption) ?_
    rotate_left 1
    · (intro w hSw; (try dsimp only at hSw); go_simp; try with_reducible rfl)
    (try simp only [Act.put, List.setIfInBounds_toArray, List.set_cons_zero, List.set_cons_succ])
    refine wpAnyH_ready (rs := [14]) (by kernel_rfl) (by simp) ?_
    refine AllReadyH.cons (o := { dst := some 25, op := .call { callee := .value (.func 102), args := #[.tmp 24], argTypes := #[3] }, type := 4, pos := "l61_draw.go:146", after := #[{ on := 13, ground := .data }, { on := 11, ground := .chain }], guard := none }) rfl (fun K hK => ?_) AllReadyH.nil
    go_simp
    refine (gate_any _ _).mono ?_
    rintro e w' ⟨g16, rfl, hw⟩
    obtain rfl := hw.symm
    go_wp2_with fail
    refine hK.out _ _ ?_ (fun hHeld => ?_)
    · (try dsimp only); exact c15
    clear hK K
    (try simp only [Act.put, List.setIfInBounds_toArray, List.set_cons_zero, List.set_cons_succ])
    refine wpAnyH_take (i := 15) (oi := { dst := some 26, op := .build 53 #[(0, .tmp 11), (1, .tmp 20), (2, .tmp 23), (3, .tmp 25)], type := 53, pos := "l61_draw.go:146", after := #[{ on := 0, ground := .data }, { on := 9, ground := .data }, { on := 12, ground := .data }, { on := 14, ground := .data }], guard := none }) (v := ?_) rfl (by kernel_rfl) (by kernel_rfl) (by kernel_rfl) (fun _ _ _ h => h) (Or.inl ⟨by rfl, ?_⟩) (by assumption) ?_
    rotate_left 1
    · (intro w hSw; (try dsimp only at hSw); go_simp; try with_reducible rfl)
    (try simp only [Act.put, List.setIfInBounds_toArray, List.set_cons_zero, List.set_cons_succ])
    refine wpAnyH_ready (rs := [16]) (by kernel_rfl) (by simp) ?_
    refine AllReadyH.cons (o := { dst := none, op := .store 53 (.tmp 4) (.tmp 26), type := 0, pos := "l61_draw.go:146", after := #[{ on := 15, ground := .data }, { on := 14, ground := .chain }, { on := 0, ground := .phase }, { on := 1, ground := .phase }, { on := 2, ground := .phase }, { on := 3, ground := .phase }, { on := 4, ground := .phase }, { on := 5, ground := .phase }, { on := 6, ground := .phase }, { on := 7, ground := .phase }, { on := 8, ground := .phase }, { on := 9, ground := .phase }, { on := 10, ground := .phase }, { on := 11, ground := .phase }, { on := 12, ground := .phase }, { on := 13, ground := .phase }, { on := 14, ground := .phase }, { on := 15, ground := .phase }], guard := none }) rfl (fun K hK => ?_) AllReadyH.nil
    obtain ⟨⟨v0, c0⟩, f0⟩ := S15 0 (by omega)
    obtain ⟨⟨v1, c1⟩, f1⟩ := S15 1 (by omega)
    obtain ⟨⟨v2, c2⟩, f2⟩ := S15 2 (by omega)
    obtain ⟨⟨v3, c3⟩, f3⟩ := S15 3 (by omega)
    go_simp
    refine hK.out _ _ ?_ (fun hHeld => ?_)
    · (try dsimp only); exact keep_setD _ cr13 (keep_setD _ cr13 (keep_setD _ cr13 (keep_setD _ cr13 c15)))
    clear hK K
    (try simp only [Act.put, List.setIfInBounds_toArray, List.set_cons_zero, List.set_cons_succ])
    refine wpAnyH_done (by kernel_rfl) ?_ _
    go_wp2
    exact bodyPost_ret (v := .agg #[.int .i64 nn, .int .i64 a1, .int .i64 (IntKind.i64.wrap (1 + a4)), .bool g16]) (by simp [results, Tryz.results69, go_sem, c0, c1, c2, c3]) rfl ⟨_, _, _, _, p + 1 + 1 + 1 + 1 + 1, rfl, by omega, r15.set4 _ _ _ _ _ hne (by omega), of15.set4 _ _ _ _ _ (by omega)⟩
  · skip
    go_simp
    refine (pick_lit B rb (p + 1 + 1 + 1) 3 0 _ r12 (by omega) h3).mono ?_
    rintro e w17 ⟨rfl, r17, o17⟩
    have S17 := S12.aside o17 hne
    have of17 := of12.trans o17.off
    clear r12 S12 of12 o17
    (try dsimp only)
    refine hK _ _ ?_
    clear hK K
    (try simp only [Act.put, List.setIfInBounds_toArray, List.set_cons_zero, List.set_cons_succ])
    refine wpAny_ready (rs := [5, 11]) (by kernel_rfl) (by simp) ?_
    refine (AllReady.cons (o := { dst := some 16, op := .buildSlice 90 3 #[(0, .tmp 13), (1, .tmp 15), (2, .const (.int .i64 999))], type := 90, pos := "l61_draw.go:146", after := #[{ on := 2, ground := .data }, { on := 4, ground := .data }], guard := none }) rfl (fun K hK => ?_) (AllReady.cons (o := { dst := some 22, op := .call { callee := .value (.func 29), args := #[.tmp 21, .const (.int .i64 4)], argTypes := #[44, 3] }, type := 3, pos := "l61_draw.go:146", after := #[{ on := 10, ground := .data }, { on := 7, ground := .chain }], guard := none }) rfl (fun K hK => ?_) AllReady.nil))
    · skip
      have r18 := r17.alloc (.cells #[.int .i64 a1, .int .i64 a2, .int .i64 999] 3)
      have S18 := S17.alloc (.cells #[.int .i64 a1, .int .i64 a2, .int .i64 999] 3)
      have of18 := of17.alloc (.cells #[.int .i64 a1, .int .i64 a2, .int .i64 999] 3)
      have c18 := at0 w17 a1 a2 999
      have cn18 : w17.heap.size ≠ rb := by have := r17.lt; omega
      have cr18 : w17.heap.size ≠ R := by have := S17.lt; omega
      go_simp
      refine hK _ _ ?_
      clear hK K
      (try simp only [Act.put, List.setIfInBounds_toArray, List.set_cons_zero, List.set_cons_succ])
      have hHeld : (fun w' => w'.cell? ⟨w17.heap.size, 0, none⟩ = some (.int .i64 a1)) (w17.alloc (.cells #[.int .i64 a1, .int .i64 a2, .int .i64 999] 3)) := c18
      refine wpAny_of_held (S := (fun w' => w'.cell? ⟨w17.heap.size, 0, none⟩ = some (.int .i64 a1))) _ _ _ _ ?_
      refine wpAnyH_take (i := 8) (oi := { dst := some 19, op := .indexAddr 90 (.tmp 16) (.tmp 18), type := 0, pos := "l61_draw.go:146", after := #[{ on := 5, ground := .data }, { on := 7, ground := .data }], guard := none }) (v := ?_) rfl (by kernel_rfl) (by kernel_rfl) (by kernel_rfl) (fun _ _ _ h => h) (Or.inl ⟨by rfl, ?_⟩) (by assumption) ?_
      rotate_left 1
      · (intro w hSw; (try dsimp only at hSw); go_simp; try with_reducible rfl)
      (try simp only [Act.put, List.setIfInBounds_toArray, List.set_cons_zero, List.set_cons_succ])
      refine wpAnyH_take (i := 9) (oi := { dst := some 20, op := .load 3 (.tmp 19), type := 3, pos := "l61_draw.go:146", after := #[{ on := 8, ground := .data }], guard := none }) (v := ?_) rfl (by kernel_rfl) (by kernel_rfl) (by kernel_rfl) (fun _ _ _ h => h) (Or.inl ⟨by rfl, ?_⟩) (by assumption) ?_
      rotate_left 1
      · (intro w hSw; (try dsimp only at hSw); go_simp; try with_reducible rfl)
      (try simp only [Act.put, List.setIfInBounds_toArray, List.set_cons_zero, List.set_cons_succ])
      refine wpAnyH_ready (rs := [11]) (by kernel_rfl) (by simp) ?_
      refine AllReadyH.cons (o := { dst := some 22, op := .call { callee := .value (.func 29), args := #[.tmp 21, .const (.int .i64 4)], argTypes := #[44, 3] }, type := 3, pos := "l61_draw.go:146", after := #[{ on := 10, ground := .data }, { on := 7, ground := .chain }], guard := none }) rfl (fun K hK => ?_) AllReadyH.nil
      go_simp
      refine (pick_lit B rb (p + 1 + 1 + 1 + 1) 4 a4 _ r18 (by omega) h4).mono ?_
      rintro e w19 ⟨rfl, r19, o19⟩
      have S19 := S18.aside o19 hne
      have of19 := of18.trans o19.off
      have c19 := keep_aside o19 cn18 c18
      clear r18 S18 of18 o19
      go_wp2_with fail
      refine hK.out _ _ ?_ (fun hHeld => ?_)
      · (try dsimp only); exact c19
      clear hK K
      (try simp only [Act.put, List.setIfInBounds_toArray, List.set_cons_zero, List.set_cons_succ])
      refine wpAnyH_take (i := 12) (oi := { dst := some 23, op := .binOp .add 3 (.const (.int .i64 1)) (.tmp 22) 3, type := 3, pos := "l61_draw.go:146", after := #[{ on := 11, ground := .data }], guard := none }) (v := ?_) rfl (by kernel_rfl) (by kernel_rfl) (by kernel_rfl) (fun _ _ _ h => h) (Or.inl ⟨by rfl, ?_⟩) (by assumption) ?_
      rotate_left 1
      · (intro w hSw; (try dsimp only at hSw); go_simp; try with_reducible rfl)
      (try simp only [Act.put, List.setIfInBounds_toArray, List.set_cons_zero, List.set_cons_succ])
      refine wpAnyH_ready (rs := [14]) (by kernel_rfl) (by simp) ?_
      refine AllReadyH.cons (o := { dst := some 25, op := .call { callee := .value (.func 102), args := #[.tmp 24], argTypes := #[3] }, type := 4, pos := "l61_draw.go:146", after := #[{ on := 13, ground := .data }, { on := 11, ground := .chain }], guard := none }) rfl (fun K hK => ?_) AllReadyH.nil
      go_simp
      refine (gate_any _ _).mono ?_
      rintro e w' ⟨g20, rfl, hw⟩
      obtain rfl := hw.symm
      go_wp2_with fail
      refine hK.out _ _ ?_ (fun hHeld => ?_)
      · (try dsimp only); exact c19
      clear hK K
      (try simp only [Act.put, List.setIfInBounds_toArray, List.set_cons_zero, List.set_cons_succ])
      refine wpAnyH_take (i := 15) (oi := { dst := some 26, op := .build 53 #[(0, .tmp 11), (1, .tmp 20), (2, .tmp 23), (3, .tmp 25)], type := 53, pos := "l61_draw.go:146", after := #[{ on := 0, ground := .data }, { on := 9, ground := .data }, { on := 12, ground := .data }, { on := 14, ground := .data }], guard := none }) (v := ?_) rfl (by kernel_rfl) (by kernel_rfl) (by kernel_rfl) (fun _ _ _ h => h) (Or.inl ⟨by rfl, ?_⟩) (by assumption) ?_
      rotate_left 1
      · (intro w hSw; (try dsimp only at hSw); go_simp; try with_reducible rfl)
      (try simp only [Act.put, List.setIfInBounds_toArray, List.set_cons_zero, List.set_cons_succ])
      refine wpAnyH_ready (rs := [16]) (by kernel_rfl) (by simp) ?_
      refine AllReadyH.cons (o := { dst := none, op := .store 53 (.tmp 4) (.tmp 26), type := 0, pos := "l61_draw.go:146", after := #[{ on := 15, ground := .data }, { on := 14, ground := .chain }, { on := 0, ground := .phase }, { on := 1, ground := .phase }, { on := 2, ground := .phase }, { on := 3, ground := .phase }, { on := 4, ground := .phase }, { on := 5, ground := .phase }, { on := 6, ground := .phase }, { on := 7, ground := .phase }, { on := 8, ground := .phase }, { on := 9, ground := .phase }, { on := 10, ground := .phase }, { on := 11, ground := .phase }, { on := 12, ground := .phase }, { on := 13, ground := .phase }, { on := 14, ground := .phase }, { on := 15, ground := .phase }], guard := none }) rfl (fun K hK => ?_) AllReadyH.nil
      obtain ⟨⟨v0, c0⟩, f0⟩ := S19 0 (by omega)
      obtain ⟨⟨v1, c1⟩, f1⟩ := S19 1 (by omega)
      obtain ⟨⟨v2, c2⟩, f2⟩ := S19 2 (by omega)
      obtain ⟨⟨v3, c3⟩, f3⟩ := S19 3 (by omega)
      go_simp
      refine hK.out _ _ ?_ (fun hHeld => ?_)
      · (try dsimp only); exact keep_setD _ cr18 (keep_setD _ cr18 (keep_setD _ cr18 (keep_setD _ cr18 c19)))
      clear hK K
      (try simp only [Act.put, List.setIfInBounds_toArray, List.set_cons_zero, List.set_cons_succ])
      refine wpAnyH_done (by kernel_rfl) ?_ _
      go_wp2
      exact bodyPost_ret (v := .agg #[.int .i64 nn, .int .i64 a1, .int .i64 (IntKind.i64.wrap (1 + a4)), .bool g20]) (by simp [results, Tryz.results69, go_sem, c0, c1, c2, c3]) rfl ⟨_, _, _, _, p + 1 + 1 + 1 + 1 + 1, rfl, by omega, r19.set4 _ _ _ _ _ hne (by omega), of19.set4 _ _ _ _ _ (by omega)⟩
    · skip
      go_simp
      refine (pick_lit B rb (p + 1 + 1 + 1 + 1) 4 a4 _ r17 (by omega) h4).mono ?_
      rintro e w21 ⟨rfl, r21, o21⟩
      have S21 := S17.aside o21 hne
      have of21 := of17.trans o21.off
      clear r17 S17 of17 o21
      (try dsimp only)
      refine hK _ _ ?_
      clear hK K
      (try simp only [Act.put, List.setIfInBounds_toArray, List.set_cons_zero, List.set_cons_succ])
      refine wpAny_take (i := 12) (oi := { dst := some 23, op := .binOp .add 3 (.const (.int .i64 1)) (.tmp 22) 3, type := 3, pos := "l61_draw.go:146", after := #[{ on := 11, ground := .data }], guard := none }) (v := ?_) rfl (by kernel_rfl) (by kernel_rfl) (by kernel_rfl) (fun _ _ _ h => h) (Or.inl ⟨by rfl, ?_⟩) ?_
      rotate_left 1
      · (intro w; go_simp; try with_reducible rfl)
      (try simp only [Act.put, List.setIfInBounds_toArray, List.set_cons_zero, List.set_cons_succ])
      refine wpAny_ready (rs := [5, 14]) (by kernel_rfl) (by simp) ?_
      refine (AllReady.cons (o := { dst := some 16, op := .buildSlice 90 3 #[(0, .tmp 13), (1, .tmp 15), (2, .const (.int .i64 999))], type := 90, pos := "l61_draw.go:146", after := #[{ on := 2, ground := .data }, { on := 4, ground := .data }], guard := none }) rfl (fun K hK => ?_) (AllReady.cons (o := { dst := some 25, op := .call { callee := .value (.func 102), args := #[.tmp 24], argTypes := #[3] }, type := 4, pos := "l61_draw.go:146", after := #[{ on := 13, ground := .data }, { on := 11, ground := .chain }], guard := none }) rfl (fun K hK => ?_) AllReady.nil))
      · skip
        have r22 := r21.alloc (.cells #[.int .i64 a1, .int .i64 a2, .int .i64 999] 3)
        have S22 := S21.alloc (.cells #[.int .i64 a1, .int .i64 a2, .int .i64 999] 3)
        have of22 := of21.alloc (.cells #[.int .i64 a1, .int .i64 a2, .int .i64 999] 3)
        have c22 := at0 w21 a1 a2 999
        have cn22 : w21.heap.size ≠ rb := by have := r21.lt; omega
        have cr22 : w21.heap.size ≠ R := by have := S21.lt; omega
        go_simp
        refine hK _ _ ?_
        clear hK K
        (try simp only [Act.put, List.setIfInBounds_toArray, List.set_cons_zero, List.set_cons_succ])
        have hHeld : (fun w' => w'.cell? ⟨w21.heap.size, 0, none⟩ = some (.int .i64 a1)) (w21.alloc (.cells #[.int .i64 a1, .int .i64 a2, .int .i64 999] 3)) := c22
        refine wpAny_of_held (S := (fun w' => w'.cell? ⟨w21.heap.size, 0, none⟩ = some (.int .i64 a1))) _ _ _ _ ?_
        refine wpAnyH_take (i := 8) (oi := { dst := some 19, op := .indexAddr 90 (.tmp 16) (.tmp 18), type := 0, pos := "l61_draw.go:146", after := #[{ on := 5, ground := .data }, { on := 7, ground := .data }], guard := none }) (v := ?_) rfl (by kernel_rfl) (by kernel_rfl) (by kernel_rfl) (fun _ _ _ h => h) (Or.inl ⟨by rfl, ?_⟩) (by assumption) ?_
        rotate_left 1
        · (intro w hSw; (try dsimp only at hSw); go_simp; try with_reducible rfl)
        (try simp only [Act.put, List.setIfInBounds_toArray, List.set_cons_zero, List.set_cons_succ])
        refine wpAnyH_take (i := 9) (oi := { dst := some 20, op := .load 3 (.tmp 19), type := 3, pos := "l61_draw.go:146", after := #[{ on := 8, ground := .data }], guard := none }) (v := ?_) rfl (by kernel_rfl) (by kernel_rfl) (by kernel_rfl) (fun _ _ _ h => h) (Or.inl ⟨by rfl, ?_⟩) (by assumption) ?_
        rotate_left 1
        · (intro w hSw; (try dsimp only at hSw); go_simp; try with_reducible rfl)
        (try simp only [Act.put, List.setIfInBounds_toArray, List.set_cons_zero, List.set_cons_succ])
        refine wpAnyH_ready (rs := [14]) (by kernel_rfl) (by simp) ?_
        refine AllReadyH.cons (o := { dst := some 25, op := .call { callee := .value (.func 102), args := #[.tmp 24], argTypes := #[3] }, type := 4, pos := "l61_draw.go:146", after := #[{ on := 13, ground := .data }, { on := 11, ground := .chain }], guard := none }) rfl (fun K hK => ?_) AllReadyH.nil
        go_simp
        refine (gate_any _ _).mono ?_
        rintro e w' ⟨g23, rfl, hw⟩
        obtain rfl := hw.symm
        go_wp2_with fail
        refine hK.out _ _ ?_ (fun hHeld => ?_)
        · (try dsimp only); exact c22
        clear hK K
        (try simp only [Act.put, List.setIfInBounds_toArray, List.set_cons_zero, List.set_cons_succ])
        refine wpAnyH_take (i := 15) (oi := { dst := some 26, op := .build 53 #[(0, .tmp 11), (1, .tmp 20), (2, .tmp 23), (3, .tmp 25)], type := 53, pos := "l61_draw.go:146", after := #[{ on := 0, ground := .data }, { on := 9, ground := .data }, { on := 12, ground := .data }, { on := 14, ground := .data }], guard := none }) (v := ?_) rfl (by kernel_rfl) (by kernel_rfl) (by kernel_rfl) (fun _ _ _ h => h) (Or.inl ⟨by rfl, ?_⟩) (by assumption) ?_
        rotate_left 1
        · (intro w hSw; (try dsimp only at hSw); go_simp; try with_reducible rfl)
        (try simp only [Act.put, List.setIfInBounds_toArray, List.set_cons_zero, List.set_cons_succ])
        refine wpAnyH_ready (rs := [16]) (by kernel_rfl) (by simp) ?_
        refine AllReadyH.cons (o := { dst := none, op := .store 53 (.tmp 4) (.tmp 26), type := 0, pos := "l61_draw.go:146", after := #[{ on := 15, ground := .data }, { on := 14, ground := .chain }, { on := 0, ground := .phase }, { on := 1, ground := .phase }, { on := 2, ground := .phase }, { on := 3, ground := .phase }, { on := 4, ground := .phase }, { on := 5, ground := .phase }, { on := 6, ground := .phase }, { on := 7, ground := .phase }, { on := 8, ground := .phase }, { on := 9, ground := .phase }, { on := 10, ground := .phase }, { on := 11, ground := .phase }, { on := 12, ground := .phase }, { on := 13, ground := .phase }, { on := 14, ground := .phase }, { on := 15, ground := .phase }], guard := none }) rfl (fun K hK => ?_) AllReadyH.nil
        obtain ⟨⟨v0, c0⟩, f0⟩ := S22 0 (by omega)
        obtain ⟨⟨v1, c1⟩, f1⟩ := S22 1 (by omega)
        obtain ⟨⟨v2, c2⟩, f2⟩ := S22 2 (by omega)
        obtain ⟨⟨v3, c3⟩, f3⟩ := S22 3 (by omega)
        go_simp
        refine hK.out _ _ ?_ (fun hHeld => ?_)
        · (try dsimp only); exact keep_setD _ cr22 (keep_setD _ cr22 (keep_setD _ cr22 (keep_setD _ cr22 c22)))
        clear hK K
        (try simp only [Act.put, List.setIfInBounds_toArray, List.set_cons_zero, List.set_cons_succ])
        refine wpAnyH_done (by kernel_rfl) ?_ _
        go_wp2
        exact bodyPost_ret (v := .agg #[.int .i64 nn, .int .i64 a1, .int .i64 (IntKind.i64.wrap (1 + a4)), .bool g23]) (by simp [results, Tryz.results69, go_sem, c0, c1, c2, c3]) rfl ⟨_, _, _, _, p + 1 + 1 + 1 + 1 + 1, rfl, by omega, r22.set4 _ _ _ _ _ hne (by omega), of22.set4 _ _ _ _ _ (by omega)⟩
      · skip
        go_simp
        refine (gate_any _ _).mono ?_
        rintro e w' ⟨g24, rfl, hw⟩
        obtain rfl := hw.symm
        (try dsimp only)
        refine hK _ _ ?_
        clear hK K
        (try simp only [Act.put, List.setIfInBounds_toArray, List.set_cons_zero, List.set_cons_succ])
        refine wpAny_ready (rs := [5]) (by kernel_rfl) (by simp) ?_
        refine (AllReady.cons (o := { dst := some 16, op := .buildSlice 90 3 #[(0, .tmp 13), (1, .tmp 15), (2, .const (.int .i64 999))], type := 90, pos := "l61_draw.go:146", after := #[{ on := 2, ground := .data }, { on := 4, ground := .data }], guard := none }) rfl (fun K hK => ?_) AllReady.nil)
        have r25 := r21.alloc (.cells #[.int .i64 a1, .int .i64 a2, .int .i64 999] 3)
        have S25 := S21.alloc (.cells #[.int .i64 a1, .int .i64 a2, .int .i64 999] 3)
        have of25 := of21.alloc (.cells #[.int .i64 a1, .int .i64 a2, .int .i64 999] 3)
        have c25 := at0 w21 a1 a2 999
        have cn25 : w21.heap.size ≠ rb := by have := r21.lt; omega
        have cr25 : w21.heap.size ≠ R := by have := S21.lt; omega
        go_simp
        refine hK _ _ ?_
        clear hK K
        (try simp only [Act.put, List.setIfInBounds_toArray, List.set_cons_zero, List.set_cons_succ])
        have hHeld : (fun w' => w'.cell? ⟨w21.heap.size, 0, none⟩ = some (.int .i64 a1)) (w21.alloc (.cells #[.int .i64 a1, .int .i64 a2, .int .i64 999] 3)) := c25
        refine wpAny_of_held (S := (fun w' => w'.cell? ⟨w21.heap.size, 0, none⟩ = some (.int .i64 a1))) _ _ _ _ ?_
        refine wpAnyH_take (i := 8) (oi := { dst := some 19, op := .indexAddr 90 (.tmp 16) (.tmp 18), type := 0, pos := "l61_draw.go:146", after := #[{ on := 5, ground := .data }, { on := 7, ground := .data }], guard := none }) (v := ?_) rfl (by kernel_rfl) (by kernel_rfl) (by kernel_rfl) (fun _ _ _ h => h) (Or.inl ⟨by rfl, ?_⟩) (by assumption) ?_
        rotate_left 1
        · (intro w hSw; (try dsimp only at hSw); go_simp; try with_reducible rfl)
        (try simp only [Act.put, List.setIfInBounds_toArray, List.set_cons_zero, List.set_cons_succ])
        refine wpAnyH_take (i := 9) (oi := { dst := some 20, op := .load 3 (.tmp 19), type := 3, pos := "l61_draw.go:146", after := #[{ on := 8, ground := .data }], guard := none }) (v := ?_) rfl (by kernel_rfl) (by kernel_rfl) (by kernel_rfl) (fun _ _ _ h => h) (Or.inl ⟨by rfl, ?_⟩) (by assumption) ?_
        rotate_left 1
        · (intro w hSw; (try dsimp only at hSw); go_simp; try with_reducible rfl)
        (try simp only [Act.put, List.setIfInBounds_toArray, List.set_cons_zero, List.set_cons_succ])
        refine wpAnyH_take (i := 15) (oi := { dst := some 26, op := .build 53 #[(0, .tmp 11), (1, .tmp 20), (2, .tmp 23), (3, .tmp 25)], type := 53, pos := "l61_draw.go:146", after := #[{ on := 0, ground := .data }, { on := 9, ground := .data }, { on := 12, ground := .data }, { on := 14, ground := .data }], guard := none }) (v := ?_) rfl (by kernel_rfl) (by kernel_rfl) (by kernel_rfl) (fun _ _ _ h => h) (Or.inl ⟨by rfl, ?_⟩) (by assumption) ?_
        rotate_left 1
        · (intro w hSw; (try dsimp only at hSw); go_simp; try with_reducible rfl)
        (try simp only [Act.put, List.setIfInBounds_toArray, List.set_cons_zero, List.set_cons_succ])
        refine wpAnyH_ready (rs := [16]) (by kernel_rfl) (by simp) ?_
        refine AllReadyH.cons (o := { dst := none, op := .store 53 (.tmp 4) (.tmp 26), type := 0, pos := "l61_draw.go:146", after := #[{ on := 15, ground := .data }, { on := 14, ground := .chain }, { on := 0, ground := .phase }, { on := 1, ground := .phase }, { on := 2, ground := .phase }, { on := 3, ground := .phase }, { on := 4, ground := .phase }, { on := 5, ground := .phase }, { on := 6, ground := .phase }, { on := 7, ground := .phase }, { on := 8, ground := .phase }, { on := 9, ground := .phase }, { on := 10, ground := .phase }, { on := 11, ground := .phase }, { on := 12, ground := .phase }, { on := 13, ground := .phase }, { on := 14, ground := .phase }, { on := 15, ground := .phase }], guard := none }) rfl (fun K hK => ?_) AllReadyH.nil
        obtain ⟨⟨v0, c0⟩, f0⟩ := S25 0 (by omega)
        obtain ⟨⟨v1, c1⟩, f1⟩ := S25 1 (by omega)
        obtain ⟨⟨v2, c2⟩, f2⟩ := S25 2 (by omega)
        obtain ⟨⟨v3, c3⟩, f3⟩ := S25 3 (by omega)
        go_simp
        refine hK.out _ _ ?_ (fun hHeld => ?_)
        · (try dsimp only); exact keep_setD _ cr25 (keep_setD _ cr25 (keep_setD _ cr25 (keep_setD _ cr25 c25)))
        clear hK K
        (try simp only [Act.put, List.setIfInBounds_toArray, List.set_cons_zero, List.set_cons_succ])
        refine wpAnyH_done (by kernel_rfl) ?_ _
        go_wp2
        exact bodyPost_ret (v := .agg #[.int .i64 nn, .int .i64 a1, .int .i64 (IntKind.i64.wrap (1 + a4)), .bool g24]) (by simp [results, Tryz.results69, go_sem, c0, c1, c2, c3]) rfl ⟨_, _, _, _, p + 1 + 1 + 1 + 1 + 1, rfl, by omega, r25.set4 _ _ _ _ _ hne (by omega), of25.set4 _ _ _ _ _ (by omega)⟩
set_option maxHeartbeats 4000000 in
set_option maxRecDepth 20000 in
theorem fact_1 {G : Cd} (B rb p : Nat) (site a1 a2 a4 : Int) (w : World) (h : Rd G B rb p w) (hp : p < 900000) (s0 : 0 ≤ site) (s1 : site ≤ 1)
    (h1 : Hid (G.pk (p + 1) 3 = a1)) (h2 : Hid (G.pk (p + 1 + 1) 12 = a2)) (h3 : Hid (G.pk (p + 1 + 1 + 1) 3 = 1)) (h4 : Hid (G.pk (p + 1 + 1 + 1 + 1) 4 = a4)) :
    Calls Tryz.prog 69 #[.pointer (some ⟨rb, 0, none⟩), .int .i64 site] w (FactPost G B rb p w) := by
  have hlt := h.lt
  have hle := h.le
  have hne : w.heap.size ≠ rb := by omega
  go_enter Tryz.func69, Tryz.ntmps69
  go_wp2_with fail
  refine (pick_any B rb p 4 _ (h.alloc _) (by omega)).mono ?_
  rintro r w1 ⟨rfl, ⟨x1, y1⟩, r1, o1⟩
  generalize G.pk p 4 = k0 at *
  have S1 := (Slot4.new w (.int .i64 0) (.int .i64 0) (.int .i64 0) (.bool false) 53).aside o1 hne
  have of1 := ((Off.refl rb w).alloc (.cells #[.int .i64 0, .int .i64 0, .int .i64 0, .bool false] 53)).trans o1.off
  have z1 := o1.size
  simp at z1
  have z2 : w.heap.size < w1.heap.size := by omega
  have k1 : k0 ≤ 3 := by omega
  clear z1 o1 y1
  go_wp2_with fail
  generalize site * 4 + k0 = nn
  clear k1 x1 s0 s1
  have r0 := r1.drew
  have S0 := S1.drew
  have of0 := of1.drew
  have hBR : B ≤ w.heap.size := by omega
  clear r1 S1 of1 h
  generalize hR : w.heap.size = R at *
  refine wp_region_any (by kernel_rfl) ?_
  change wpAny _ _ _ _ _ _ _ (World.drew w1)
  refine wpAny_take (i := 0) (oi := { dst := some 11, op := .move (.tmp 5), type := 3, pos := "l61_draw.go:146", after := #[], guard := none }) (v := ?_) rfl (by kernel_rfl) (by kernel_rfl) (by kernel_rfl) (fun _ _ _ h => h) (Or.inl ⟨by rfl, ?_⟩) ?_
  rotate_left 1
  · (intro w; go_simp; try with_reducible rfl)
  (try simp only [Act.put, List.setIfInBounds_toArray, List.set_cons_zero, List.set_cons_succ])
  refine wpAny_take (i := 1) (oi := { dst := some 12, op := .move (.tmp 0), type := 44, pos := "l61_draw.go:146", after := #[], guard := none }) (v := ?_) rfl (by kernel_rfl) (by kernel_rfl) (by kernel_rfl) (fun _ _ _ h => h) (Or.inl ⟨by rfl, ?_⟩) ?_
  rotate_left 1
  · (intro w; go_simp; try with_reducible rfl)
  (try simp only [Act.put, List.setIfInBounds_toArray, List.set_cons_zero, List.set_cons_succ])
  refine wpAny_take (i := 3) (oi := { dst := some 14, op := .move (.tmp 0), type := 44, pos := "l61_draw.go:146", after := #[], guard := none }) (v := ?_) rfl (by kernel_rfl) (by kernel_rfl) (by kernel_rfl) (fun _ _ _ h => h) (Or.inl ⟨by rfl, ?_⟩) ?_
  rotate_left 1
  · (intro w; go_simp; try with_reducible rfl)
  (try simp only [Act.put, List.setIfInBounds_toArray, List.set_cons_zero, List.set_cons_succ])
  refine wpAny_take (i := 6) (oi := { dst := some 17, op := .move (.tmp 0), type := 44, pos := "l61_draw.go:146", after := #[], guard := none }) (v := ?_) rfl (by kernel_rfl) (by kernel_rfl) (by kernel_rfl) (fun _ _ _ h => h) (Or.inl ⟨by rfl, ?_⟩) ?_
  rotate_left 1
  · (intro w; go_simp; try with_reducible rfl)
  (try simp only [Act.put, List.setIfInBounds_toArray, List.set_cons_zero, List.set_cons_succ])
  refine wpAny_take (i := 10) (oi := { dst := some 21, op := .move (.tmp 0), type := 44, pos := "l61_draw.go:146", after := #[], guard := none }) (v := ?_) rfl (by kernel_rfl) (by kernel_rfl) (by kernel_rfl) (fun _ _ _ h => h) (Or.inl ⟨by rfl, ?_⟩) ?_
  rotate_left 1
  · (intro w; go_simp; try with_reducible rfl)
  (try simp only [Act.put, List.setIfInBounds_toArray, List.set_cons_zero, List.set_cons_succ])
  refine wpAny_take (i := 13) (oi := { dst := some 24, op := .move (.tmp 5), type := 3, pos := "l61_draw.go:146", after := #[], guard := none }) (v := ?_) rfl (by kernel_rfl) (by kernel_rfl) (by kernel_rfl) (fun _ _ _ h => h) (Or.inl ⟨by rfl, ?_⟩) ?_
  rotate_left 1
  · (intro w; go_simp; try with_reducible rfl)
  (try simp only [Act.put, List.setIfInBounds_toArray, List.set_cons_zero, List.set_cons_succ])
  refine wpAny_ready (rs := [2]) (by kernel_rfl) (by simp) ?_
  refine (AllReady.cons (o := { dst := some 13, op := .call { callee := .value (.func 29), args := #[.tmp 12, .const (.int .i64 3)], argTypes := #[44, 3] }, type := 3, pos := "l61_draw.go:146", after := #[{ on := 1, ground := .data }], guard := none }) rfl (fun K hK => ?_) AllReady.nil)
  go_simp
  refine (pick_lit B rb (p + 1) 3 a1 _ r0 (by omega) h1).mono ?_
  rintro e w11 ⟨rfl, r11, o11⟩
  have S11 := S0.aside o11 hne
  have of11 := of0.trans o11.off
  clear r0 S0 of0 o11
  (try dsimp only)
  refine hK _ _ ?_
  clear hK K
  (try simp only [Act.put, List.setIfInBounds_toArray, List.set_cons_zero, List.set_cons_succ])
  refine wpAny_ready (rs := [4]) (by kernel_rfl) (by simp) ?_
  refine (AllReady.cons (o := { dst := some 15, op := .call { callee := .value (.func 29), args := #[.tmp 14, .const (.int .i64 12)], argTypes := #[44, 3] }, type := 3, pos := "l61_draw.go:146", after := #[{ on := 3, ground := .data }, { on := 2, ground := .chain }], guard := none }) rfl (fun K hK => ?_) AllReady.nil)
  go_simp
  refine (pick_lit B rb (p + 1 + 1) 12 a2 _ r11 (by omega) h2).mono ?_
  rintro e w12 ⟨rfl, r12, o12⟩
  have S12 := S11.aside o12 hne
  have of12 := of11.trans o12.off
  clear r11 S11 of11 o12
  (try dsimp only)
  refine hK _ _ ?_
  clear hK K
  (try simp only [Act.put, List.setIfInBounds_toArray, List.set_cons_zero, List.set_cons_succ])
  refine wpAny_ready (rs := [5, 7]) (by kernel_rfl) (by simp) ?_
  refine (AllReady.cons (o := { dst := some 16, op := .buildSlice 90 3 #[(0, .tmp 13), (1, .tmp 15), (2, .const (.int .i64 999))], type := 90, pos := "l61_draw.go:146", after := #[{ on := 2, ground := .data }, { on := 4, ground := .data }], guard := none }) rfl (fun K hK => ?_) (AllReady.cons (o := { dst := some 18, op := .call { callee := .value (.func 29), args := #[.tmp 17, .const (.int .i64 3)], argTypes := #[44, 3] }, type := 3, pos := "l61_draw.go:146", after := #[{ on := 6, ground := .data }, { on := 4, ground := .chain }], guard := none }) rfl (fun K hK => ?_) AllReady.nil))
  · skip
    have r13 := r12.alloc (.cells #[.int .i64 a1, .int .i64 a2, .int .i64 999] 3)
    have S13 := S12.alloc (.cells #[.int .i64 a1, .int .i64 a2, .int .i64 999] 3)
    have of13 := of12.alloc (.cells #[.int .i64 a1, .int .i64 a2, .int .i64 999] 3)
    have c13 := at1 w12 a1 a2 999
    have cn13 : w12.heap.size ≠ rb := by have := r12.lt; omega
    have cr13 : w12.heap.size ≠ R := by have := S12.lt; omega
    go_simp
    refine hK _ _ ?_
    clear hK K
    (try simp only [Act.put, List.setIfInBounds_toArray, List.set_cons_zero, List.set_cons_succ])
    refine wpAny_ready (rs := [7]) (by kernel_rfl) (by simp) ?_
    refine (AllReady.cons (o := { dst := some 18, op := .call { callee := .value (.func 29), args := #[.tmp 17, .const (.int .i64 3)], argTypes := #[44, 3] }, type := 3, pos := "l61_draw.go:146", after := #[{ on := 6, ground := .data }, { on := 4, ground := .chain }], guard := none }) rfl (fun K hK => ?_) AllReady.nil)
    go_simp
    refine (pick_lit B rb (p + 1 + 1 + 1) 3 1 _ r13 (by omega) h3).mono ?_
    rintro e w14 ⟨rfl, r14, o14⟩
    have S14 := S13.aside o14 hne
    have of14 := of13.trans o14.off
    have c14 := keep_aside o14 cn13 c13
    clear r13 S13 of13 o14
    (try dsimp only)
    refine hK _ _ ?_
    clear hK K
    (try simp only [Act.put, List.setIfInBounds_toArray, List.set_cons_zero, List.set_cons_succ])
    have hHeld : (fun w' => w'.cell? ⟨w12.heap.size, 1, none⟩ = some (.int .i64 a2)) w14 := c14
    refine wpAny_of_held (S := (fun w' => w'.cell? ⟨w12.heap.size, 1, none⟩ = some (.int .i64 a2))) _ _ _ _ ?_
    refine wpAnyH_take (i := 8) (oi := { dst := some 19, op := .indexAddr 90 (.tmp 16) (.tmp 18), type := 0, pos := "l61_draw.go:146", after := #[{ on := 5, ground := .data }, { on := 7, ground := .data }], guard := none }) (v := ?_) rfl (by kernel_rfl) (by kernel_rfl) (by kernel_rfl) (fun _ _ _ h => h) (Or.inl ⟨by rfl, ?_⟩) (by assumption) ?_
    rotate_left 1
    · (intro w hSw; (try dsimp only at hSw); go_simp; try with_reducible rfl)
    (try simp only [Act.put, List.setIfInBounds_toArray, List.set_cons_zero, List.set_cons_succ])
    refine wpAnyH_take (i := 9) (oi := { dst := some 20, op := .load 3 (.tmp 19), type := 3, pos := "l61_draw.go:146", after := #[{ on := 8, ground := .data }], guard := none }) (v := ?_) rfl (by kernel_rfl) (by kernel_rfl) (by kernel_rfl) (fun _ _ _ h => h) (Or.inl ⟨by rfl, ?_⟩) (by assumption) ?_
    rotate_left 1
    · (intro w hSw; (try dsimp only at hSw); go_simp; try with_reducible rfl)
    (try simp only [Act.put, List.setIfInBounds_toArray, List.set_cons_zero, List.set_cons_succ])
    refine wpAnyH_ready (rs := [11]) (by kernel_rfl) (by simp) ?_
    refine AllReadyH.cons (o := { dst := some 22, op := .call { callee := .value (.func 29), args := #[.tmp 21, .const (.int .i64 4)], argTypes := #[44, 3] }, type := 3, pos := "l61_draw.go:146", after := #[{ on := 10, ground := .data }, { on := 7, ground := .chain }], guard := none }) rfl (fun K hK => ?_) AllReadyH.nil
    go_simp
    refine (pick_lit B rb (p + 1 + 1 + 1 + 1) 4 a4 _ r14 (by omega) h4).mono ?_
    rintro e w15 ⟨rfl, r15, o15⟩
    have S15 := S14.aside o15 hne
    have of15 := of14.trans o15.off
    have c15 := keep_aside o15 cn13 c14
    clear r14 S14 of14 o15
    go_wp2_with fail
    refine hK.out _ _ ?_ (fun hHeld => ?_)
    · (try dsimp only); exact c15
    clear hK K
    (try simp only [Act.put, List.setIfInBounds_toArray, List.set_cons_zero, List.set_cons_succ])
    refine wpAnyH_take (i := 12) (oi := { dst := some 23, op := .binOp .add 3 (.const (.int .i64 1)) (.tmp 22) 3, type := 3, pos := "l61_draw.go:146", after := #[{ on := 11, ground := .data }], guard := none }) (v := ?_) rfl (by kernel_rfl) (by kernel_rfl) (by kernel_rfl) (fun _ _ _ h => h) (Or.inl ⟨by rfl, ?_⟩) (by assumption) ?_
    rotate_left 1
    · (intro w hSw; (try dsimp only at hSw); go_simp; try with_reducible rfl)
    (try simp only [Act.put, List.setIfInBounds_toArray, List.set_cons_zero, List.set_cons_succ])
    refine wpAnyH_ready (rs := [14]) (by kernel_rfl) (by simp) ?_
    refine AllReadyH.cons (o := { dst := some 25, op := .call { callee := .value (.func 102), args := #[.tmp 24], argTypes := #[3] }, type := 4, pos := "l61_draw.go:146", after := #[{ on := 13, ground := .data }, { on := 11, ground := .chain }], guard := none }) rfl (fun K hK => ?_) AllReadyH.nil
    go_simp
    refine (gate_any _ _).mono ?_
    rintro e w' ⟨g16, rfl, hw⟩
    obtain rfl := hw.symm
    go_wp2_with fail
    refine hK.out _ _ ?_ (fun hHeld => ?_)
    · (try dsimp only); exact c15
    clear hK K
    (try simp only [Act.put, List.setIfInBounds_toArray, List.set_cons_zero, List.set_cons_succ])
    refine wpAnyH_take (i := 15) (oi := { dst := some 26, op := .build 53 #[(0, .tmp 11), (1, .tmp 20), (2, .tmp 23), (3, .tmp 25)], type := 53, pos := "l61_draw.go:146", after := #[{ on := 0, ground := .data }, { on := 9, ground := .data }, { on := 12, ground := .data }, { on := 14, ground := .data }], guard := none }) (v := ?_) rfl (by kernel_rfl) (by kernel_rfl) (by kernel_rfl) (fun _ _ _ h => h) (Or.inl ⟨by rfl, ?_⟩) (by assumption) ?_
    rotate_left 1
    · (intro w hSw; (try dsimp only at hSw); go_simp; try with_reducible rfl)
    (try simp only [Act.put, List.setIfInBounds_toArray, List.set_cons_zero, List.set_cons_succ])
    refine wpAnyH_ready (rs := [16]) (by kernel_rfl) (by simp) ?_
    refine AllReadyH.cons (o := { dst := none, op := .store 53 (.tmp 4) (.tmp 26), type := 0, pos := "l61_draw.go:146", after := #[{ on := 15, ground := .data }, { on := 14, ground := .chain }, { on := 0, ground := .phase }, { on := 1, ground := .phase }, { on := 2, ground := .phase }, { on := 3, ground := .phase }, { on := 4, ground := .phase }, { on := 5, ground := .phase }, { on := 6, ground := .phase }, { on := 7, ground := .phase }, { on := 8, ground := .phase }, { on := 9, ground := .phase }, { on := 10, ground := .phase }, { on := 11, ground := .phase }, { on := 12, ground := .phase }, { on := 13, ground := .phase }, { on := 14, ground := .phase }, { on := 15, ground := .phase }], guard := none }) rfl (fun K hK => ?_) AllReadyH.nil
    obtain ⟨⟨v0, c0⟩, f0⟩ := S15 0 (by omega)
    obtain ⟨⟨v1, c1⟩, f1⟩ := S15 1 (by omega)
    obtain ⟨⟨v2, c2⟩, f2⟩ := S15 2 (by omega)
    obtain ⟨⟨v3, c3⟩, f3⟩ := S15 3 (by omega)
    go_simp
    refine hK.out _ _ ?_ (fun hHeld => ?_)
    · (try dsimp only); exact keep_setD _ cr13 (keep_setD _ cr13 (keep_setD _ cr13 (keep_setD _ cr13 c15)))
    clear hK K
    (try simp only [Act.put, List.setIfInBounds_toArray, List.set_cons_zero, List.set_cons_succ])
    refine wpAnyH_done (by kernel_rfl) ?_ _
    go_wp2
    exact bodyPost_ret (v := .agg #[.int .i64 nn, .int .i64 a2, .int .i64 (IntKind.i64.wrap (1 + a4)), .bool g16]) (by simp [results, Tryz.results69, go_sem, c0, c1, c2, c3]) rfl ⟨_, _, _, _, p + 1 + 1 + 1 + 1 + 1, rfl, by omega, r15.set4 _ _ _ _ _ hne (by omega), of15.set4 _ _ _ _ _ (by omega)⟩
  · skip
    go_simp
    refine (pick_lit B rb (p + 1 + 1 + 1) 3 1 _ r12 (by omega) h3).mono ?_
    rintro e w17 ⟨rfl, r17, o17⟩
    have S17 := S12.aside o17 hne
    have of17 := of12.trans o17.off
    clear r12 S12 of12 o17
    (try dsimp only)
    refine hK _ _ ?_
    clear hK K
    (try simp only [Act.put, List.setIfInBounds_toArray, List.set_cons_zero, List.set_cons_succ])
    refine wpAny_ready (rs := [5, 11]) (by kernel_rfl) (by simp) ?_
    refine (AllReady.cons (o := { dst := some 16, op := .buildSlice 90 3 #[(0, .tmp 13), (1, .tmp 15), (2, .const (.int .i64 999))], type := 90, pos := "l61_draw.go:146", after := #[{ on := 2, ground := .data }, { on := 4, ground := .data }], guard := none }) rfl (fun K hK => ?_) (AllReady.cons (o := { dst := some 22, op := .call { callee := .value (.func 29), args := #[.tmp 21, .const (.int .i64 4)], argTypes := #[44, 3] }, type := 3, pos := "l61_draw.go:146", after := #[{ on := 10, ground := .data }, { on := 7, ground := .chain }], guard := none }) rfl (fun K hK => ?_) AllReady.nil))
    · skip
      have r18 := r17.alloc (.cells #[.int .i64 a1, .int .i64 a2, .int .i64 999] 3)
      have S18 := S17.alloc (.cells #[.int .i64 a1, .int .i64 a2, .int .i64 999] 3)
      have of18 := of17.alloc (.cells #[.int .i64 a1, .int .i64 a2, .int .i64 999] 3)
      have c18 := at1 w17 a1 a2 999
      have cn18 : w17.heap.size ≠ rb := by have := r17.lt; omega
      have cr18 : w17.heap.size ≠ R := by have := S17.lt; omega
      go_simp
      refine hK _ _ ?_
      clear hK K
      (try simp only [Act.put, List.setIfInBounds_toArray, List.set_cons_zero, List.set_cons_succ])
      have hHeld : (fun w' => w'.cell? ⟨w17.heap.size, 1, none⟩ = some (.int .i64 a2)) (w17.alloc (.cells #[.int .i64 a1, .int .i64 a2, .int .i64 999] 3)) := c18
      refine wpAny_of_held (S := (fun w' => w'.cell? ⟨w17.heap.size, 1, none⟩ = some (.int .i64 a2))) _ _ _ _ ?_
      refine wpAnyH_take (i := 8) (oi := { dst := some 19, op := .indexAddr 90 (.tmp 16) (.tmp 18), type := 0, pos := "l61_draw.go:146", after := #[{ on := 5, ground := .data }, { on := 7, ground := .data }], guard := none }) (v := ?_) rfl (by kernel_rfl) (by kernel_rfl) (by kernel_rfl) (fun _ _ _ h => h) (Or.inl ⟨by rfl, ?_⟩) (by assumption) ?_
      rotate_left 1
      · (intro w hSw; (try dsimp only at hSw); go_simp; try with_reducible rfl)
      (try simp only [Act.put, List.setIfInBounds_toArray, List.set_cons_zero, List.set_cons_succ])
      refine wpAnyH_take (i := 9) (oi := { dst := some 20, op := .load 3 (.tmp 19), type := 3, pos := "l61_draw.go:146", after := #[{ on := 8, ground := .data }], guard := none }) (v := ?_) rfl (by kernel_rfl) (by kernel_rfl) (by kernel_rfl) (fun _ _ _ h => h) (Or.inl ⟨by rfl, ?_⟩) (by assumption) ?_
      rotate_left 1
      · (intro w hSw; (try dsimp only at hSw); go_simp; try with_reducible rfl)
      (try simp only [Act.put, List.setIfInBounds_toArray, List.set_cons_zero, List.set_cons_succ])
      refine wpAnyH_ready (rs := [11]) (by kernel_rfl) (by simp) ?_
      refine AllReadyH.cons (o := { dst := some 22, op := .call { callee := .value (.func 29), args := #[.tmp 21, .const (.int .i64 4)], argTypes := #[44, 3] }, type := 3, pos := "l61_draw.go:146", after := #[{ on := 10, ground := .data }, { on := 7, ground := .chain }], guard := none }) rfl (fun K hK => ?_) AllReadyH.nil
      go_simp
      refine (pick_lit B rb (p + 1 + 1 + 1 + 1) 4 a4 _ r18 (by omega) h4).mono ?_
      rintro e w19 ⟨rfl, r19, o19⟩
      have S19 := S18.aside o19 hne
      have of19 := of18.trans o19.off
      have c19 := keep_aside o19 cn18 c18
      clear r18 S18 of18 o19
      go_wp2_with fail
      refine hK.out _ _ ?_ (fun hHeld => ?_)
      · (try dsimp only); exact c19
      clear hK K
      (try simp only [Act.put, List.setIfInBounds_toArray, List.set_cons_zero, List.set_cons_succ])
      refine wpAnyH_take (i := 12) (oi := { dst := some 23, op := .binOp .add 3 (.const (.int .i64 1)) (.tmp 22) 3, type := 3, pos := "l61_draw.go:146", after := #[{ on := 11, ground := .data }], guard := none }) (v := ?_) rfl (by kernel_rfl) (by kernel_rfl) (by kernel_rfl) (fun _ _ _ h => h) (Or.inl ⟨by rfl, ?_⟩) (by assumption) ?_
      rotate_left 1
      · (intro w hSw; (try dsimp only at hSw); go_simp; try with_reducible rfl)
      (try simp only [Act.put, List.setIfInBounds_toArray, List.set_cons_zero, List.set_cons_succ])
      refine wpAnyH_ready (rs := [14]) (by kernel_rfl) (by simp) ?_
      refine AllReadyH.cons (o := { dst := some 25, op := .call { callee := .value (.func 102), args := #[.tmp 24], argTypes := #[3] }, type := 4, pos := "l61_draw.go:146", after := #[{ on := 13, ground := .data }, { on := 11, ground := .chain }], guard := none }) rfl (fun K hK => ?_) AllReadyH.nil
      go_simp
      refine (gate_any _ _).mono ?_
      rintro e w' ⟨g20, rfl, hw⟩
      obtain rfl := hw.symm
      go_wp2_with fail
      refine hK.out _ _ ?_ (fun hHeld => ?_)
      · (try dsimp only); exact c19
      clear hK K
      (try simp only [Act.put, List.setIfInBounds_toArray, List.set_cons_zero, List.set_cons_succ])
      refine wpAnyH_take (i := 15) (oi := { dst := some 26, op := .build 53 #[(0, .tmp 11), (1, .tmp 20), (2, .tmp 23), (3, .tmp 25)], type := 53, pos := "l61_draw.go:146", after := #[{ on := 0, ground := .data }, { on := 9, ground := .data }, { on := 12, ground := .data }, { on := 14, ground := .data }], guard := none }) (v := ?_) rfl (by kernel_rfl) (by kernel_rfl) (by kernel_rfl) (fun _ _ _ h => h) (Or.inl ⟨by rfl, ?_⟩) (by assumption) ?_
      rotate_left 1
      · (intro w hSw; (try dsimp only at hSw); go_simp; try with_reducible rfl)
      (try simp only [Act.put, List.setIfInBounds_toArray, List.set_cons_zero, List.set_cons_succ])
      refine wpAnyH_ready (rs := [16]) (by kernel_rfl) (by simp) ?_
      refine AllReadyH.cons (o := { dst := none, op := .store 53 (.tmp 4) (.tmp 26), type := 0, pos := "l61_draw.go:146", after := #[{ on := 15, ground := .data }, { on := 14, ground := .chain }, { on := 0, ground := .phase }, { on := 1, ground := .phase }, { on := 2, ground := .phase }, { on := 3, ground := .phase }, { on := 4, ground := .phase }, { on := 5, ground := .phase }, { on := 6, ground := .phase }, { on := 7, ground := .phase }, { on := 8, ground := .phase }, { on := 9, ground := .phase }, { on := 10, ground := .phase }, { on := 11, ground := .phase }, { on := 12, ground := .phase }, { on := 13, ground := .phase }, { on := 14, ground := .phase }, { on := 15, ground := .phase }], guard := none }) rfl (fun K hK => ?_) AllReadyH.nil
      obtain ⟨⟨v0, c0⟩, f0⟩ := S19 0 (by omega)
      obtain ⟨⟨v1, c1⟩, f1⟩ := S19 1 (by omega)
      obtain ⟨⟨v2, c2⟩, f2⟩ := S19 2 (by omega)
      obtain ⟨⟨v3, c3⟩, f3⟩ := S19 3 (by omega)
      go_simp
      refine hK.out _ _ ?_ (fun hHeld => ?_)
      · (try dsimp only); exact keep_setD _ cr18 (keep_setD _ cr18 (keep_setD _ cr18 (keep_setD _ cr18 c19)))
      clear hK K
      (try simp only [Act.put, List.setIfInBounds_toArray, List.set_cons_zero, List.set_cons_succ])
      refine wpAnyH_done (by kernel_rfl) ?_ _
      go_wp2
      exact bodyPost_ret (v := .agg #[.int .i64 nn, .int .i64 a2, .int .i64 (IntKind.i64.wrap (1 + a4)), .bool g20]) (by simp [results, Tryz.results69, go_sem, c0, c1, c2, c3]) rfl ⟨_, _, _, _, p + 1 + 1 + 1 + 1 + 1, rfl, by omega, r19.set4 _ _ _ _ _ hne (by omega), of19.set4 _ _ _ _ _ (by omega)⟩
    · skip
      go_simp
      refine (pick_lit B rb (p + 1 + 1 + 1 + 1) 4 a4 _ r17 (by omega) h4).mono ?_
      rintro e w21 ⟨rfl, r21, o21⟩
      have S21 := S17.aside o21 hne
      have of21 := of17.trans o21.off
      clear r17 S17 of17 o21
      (try dsimp only)
      refine hK _ _ ?_
      clear hK K
      (try simp only [Act.put, List.setIfInBounds_toArray, List.set_cons_zero, List.set_cons_succ])
      refine wpAny_take (i := 12) (oi := { dst := some 23, op := .binOp .add 3 (.const (.int .i64 1)) (.tmp 22) 3, type := 3, pos := "l61_draw.go:146", after := #[{ on := 11, ground := .data }], guard := none }) (v := ?_) rfl (by kernel_rfl) (by kernel_rfl) (by kernel_rfl) (fun _ _ _ h => h) (Or.inl ⟨by rfl, ?_⟩) ?_
      rotate_left 1
      · (intro w; go_simp; try with_reducible rfl)
      (try simp only [Act.put, List.setIfInBounds_toArray, List.set_cons_zero, List.set_cons_succ])
      refine wpAny_ready (rs := [5, 14]) (by kernel_rfl) (by simp) ?_
      refine (AllReady.cons (o := { dst := some 16, op := .buildSlice 90 3 #[(0, .tmp 13), (1, .tmp 15), (2, .const (.int .i64 999))], type := 90, pos := "l61_draw.go:146", after := #[{ on := 2, ground := .data }, { on := 4, ground := .data }], guard := none }) rfl (fun K hK => ?_) (AllReady.cons (o := { dst := some 25, op := .call { callee := .value (.func 102), args := #[.tmp 24], argTypes := #[3] }, type := 4, pos := "l61_draw.go:146", after := #[{ on := 13, ground := .data }, { on := 11, ground := .chain }], guard := none }) rfl (fun K hK => ?_) AllReady.nil))
      · skip
        have r22 := r21.alloc (.cells #[.int .i64 a1, .int .i64 a2, .int .i64 999] 3)
        have S22 := S21.alloc (.cells #[.int .i64 a1, .int .i64 a2, .int .i64 999] 3)
        have of22 := of21.alloc (.cells #[.int .i64 a1, .int .i64 a2, .int .i64 999] 3)
        have c22 := at1 w21 a1 a2 999
        have cn22 : w21.heap.size ≠ rb := by have := r21.lt; omega
        have cr22 : w21.heap.size ≠ R := by have := S21.lt; omega
        go_simp
        refine hK _ _ ?_
        clear hK K
        (try simp only [Act.put, List.setIfInBounds_toArray, List.set_cons_zero, List.set_cons_succ])
        have hHeld : (fun w' => w'.cell? ⟨w21.heap.size, 1, none⟩ = some (.int .i64 a2)) (w21.alloc (.cells #[.int .i64 a1, .int .i64 a2, .int .i64 999] 3)) := c22
        refine wpAny_of_held (S := (fun w' => w'.cell? ⟨w21.heap.size, 1, none⟩ = some (.int .i64 a2))) _ _ _ _ ?_
        refine wpAnyH_take (i := 8) (oi := { dst := some 19, op := .indexAddr 90 (.tmp 16) (.tmp 18), type := 0, pos := "l61_draw.go:146", after := #[{ on := 5, ground := .data }, { on := 7, ground := .data }], guard := none }) (v := ?_) rfl (by kernel_rfl) (by kernel_rfl) (by kernel_rfl) (fun _ _ _ h => h) (Or.inl ⟨by rfl, ?_⟩) (by assumption) ?_
        rotate_left 1
        · (intro w hSw; (try dsimp only at hSw); go_simp; try with_reducible rfl)
        (try simp only [Act.put, List.setIfInBounds_toArray, List.set_cons_zero, List.set_cons_succ])
        refine wpAnyH_take (i := 9) (oi := { dst := some 20, op := .load 3 (.tmp 19), type := 3, pos := "l61_draw.go:146", after := #[{ on := 8, ground := .data }], guard := none }) (v := ?_) rfl (by kernel_rfl) (by kernel_rfl) (by kernel_rfl) (fun _ _ _ h => h) (Or.inl ⟨by rfl, ?_⟩) (by assumption) ?_
        rotate_left 1
        · (intro w hSw; (try dsimp only at hSw); go_simp; try with_reducible rfl)
        (try simp only [Act.put, List.setIfInBounds_toArray, List.set_cons_zero, List.set_cons_succ])
        refine wpAnyH_ready (rs := [14]) (by kernel_rfl) (by simp) ?_
        refine AllReadyH.cons (o := { dst := some 25, op := .call { callee := .value (.func 102), args := #[.tmp 24], argTypes := #[3] }, type := 4, pos := "l61_draw.go:146", after := #[{ on := 13, ground := .data }, { on := 11, ground := .chain }], guard := none }) rfl (fun K hK => ?_) AllReadyH.nil
        go_simp
        refine (gate_any _ _).mono ?_
        rintro e w' ⟨g23, rfl, hw⟩
        obtain rfl := hw.symm
        go_wp2_with fail
        refine hK.out _ _ ?_ (fun hHeld => ?_)
        · (try dsimp only); exact c22
        clear hK K
        (try simp only [Act.put, List.setIfInBounds_toArray, List.set_cons_zero, List.set_cons_succ])
        refine wpAnyH_take (i := 15) (oi := { dst := some 26, op := .build 53 #[(0, .tmp 11), (1, .tmp 20), (2, .tmp 23), (3, .tmp 25)], type := 53, pos := "l61_draw.go:146", after := #[{ on := 0, ground := .data }, { on := 9, ground := .data }, { on := 12, ground := .data }, { on := 14, ground := .data }], guard := none }) (v := ?_) rfl (by kernel_rfl) (by kernel_rfl) (by kernel_rfl) (fun _ _ _ h => h) (Or.inl ⟨by rfl, ?_⟩) (by assumption) ?_
        rotate_left 1
        · (intro w hSw; (try dsimp only at hSw); go_simp; try with_reducible rfl)
        (try simp only [Act.put, List.setIfInBounds_toArray, List.set_cons_zero, List.set_cons_succ])
        refine wpAnyH_ready (rs := [16]) (by kernel_rfl) (by simp) ?_
        refine AllReadyH.cons (o := { dst := none, op := .store 53 (.tmp 4) (.tmp 26), type := 0, pos := "l61_draw.go:146", after := #[{ on := 15, ground := .data }, { on := 14, ground := .chain }, { on := 0, ground := .phase }, { on := 1, ground := .phase }, { on := 2, ground := .phase }, { on := 3, ground := .phase }, { on := 4, ground := .phase }, { on := 5, ground := .phase }, { on := 6, ground := .phase }, { on := 7, ground := .phase }, { on := 8, ground := .phase }, { on := 9, ground := .phase }, { on := 10, ground := .phase }, { on := 11, ground := .phase }, { on := 12, ground := .phase }, { on := 13, ground := .phase }, { on := 14, ground := .phase }, { on := 15, ground := .phase }], guard := none }) rfl (fun K hK => ?_) AllReadyH.nil
        obtain ⟨⟨v0, c0⟩, f0⟩ := S22 0 (by omega)
        obtain ⟨⟨v1, c1⟩, f1⟩ := S22 1 (by omega)
        obtain ⟨⟨v2, c2⟩, f2⟩ := S22 2 (by omega)
        obtain ⟨⟨v3, c3⟩, f3⟩ := S22 3 (by omega)
        go_simp
        refine hK.out _ _ ?_ (fun hHeld => ?_)
        · (try dsimp only); exact keep_setD _ cr22 (keep_setD _ cr22 (keep_setD _ cr22 (keep_setD _ cr22 c22)))
        clear hK K
        (try simp only [Act.put, List.setIfInBounds_toArray, List.set_cons_zero, List.set_cons_succ])
        refine wpAnyH_done (by kernel_rfl) ?_ _
        go_wp2
        exact bodyPost_ret (v := .agg #[.int .i64 nn, .int .i64 a2, .int .i64 (IntKind.i64.wrap (1 + a4)), .bool g23]) (by simp [results, Tryz.results69, go_sem, c0, c1, c2, c3]) rfl ⟨_, _, _, _, p + 1 + 1 + 1 + 1 + 1, rfl, by omega, r22.set4 _ _ _ _ _ hne (by omega), of22.set4 _ _ _ _ _ (by omega)⟩
      · skip
        go_simp
        refine (gate_any _ _).mono ?_
        rintro e w' ⟨g24, rfl, hw⟩
        obtain rfl := hw.symm
        (try dsimp only)
        refine hK _ _ ?_
        clear hK K
        (try simp only [Act.put, List.setIfInBounds_toArray, List.set_cons_zero, List.set_cons_succ])
        refine wpAny_ready (rs := [5]) (by kernel_rfl) (by simp) ?_
        refine (AllReady.cons (o := { dst := some 16, op := .buildSlice 90 3 #[(0, .tmp 13), (1, .tmp 15), (2, .const (.int .i64 999))], type := 90, pos := "l61_draw.go:146", after := #[{ on := 2, ground := .data }, { on := 4, ground := .data }], guard := none }) rfl (fun K hK => ?_) AllReady.nil)
        have r25 := r21.alloc (.cells #[.int .i64 a1, .int .i64 a2, .int .i64 999] 3)
        have S25 := S21.alloc (.cells #[.int .i64 a1, .int .i64 a2, .int .i64 999] 3)
        have of25 := of21.alloc (.cells #[.int .i64 a1, .int .i64 a2, .int .i64 999] 3)
        have c25 := at1 w21 a1 a2 999
        have cn25 : w21.heap.size ≠ rb := by have := r21.lt; omega
        have cr25 : w21.heap.size ≠ R := by have := S21.lt; omega
        go_simp
        refine hK _ _ ?_
        clear hK K
        (try simp only [Act.put, List.setIfInBounds_toArray, List.set_cons_zero, List.set_cons_succ])
        have hHeld : (fun w' => w'.cell? ⟨w21.heap.size, 1, none⟩ = some (.int .i64 a2)) (w21.alloc (.cells #[.int .i64 a1, .int .i64 a2, .int .i64 999] 3)) := c25
        refine wpAny_of_held (S := (fun w' => w'.cell? ⟨w21.heap.size, 1, none⟩ = some (.int .i64 a2))) _ _ _ _ ?_
        refine wpAnyH_take (i := 8) (oi := { dst := some 19, op := .indexAddr 90 (.tmp 16) (.tmp 18), type := 0, pos := "l61_draw.go:146", after := #[{ on := 5, ground := .data }, { on := 7, ground := .data }], guard := none }) (v := ?_) rfl (by kernel_rfl) (by kernel_rfl) (by kernel_rfl) (fun _ _ _ h => h) (Or.inl ⟨by rfl, ?_⟩) (by assumption) ?_
        rotate_left 1
        · (intro w hSw; (try dsimp only at hSw); go_simp; try with_reducible rfl)
        (try simp only [Act.put, List.setIfInBounds_toArray, List.set_cons_zero, List.set_cons_succ])
        refine wpAnyH_take (i := 9) (oi := { dst := some 20, op := .load 3 (.tmp 19), type := 3, pos := "l61_draw.go:146", after := #[{ on := 8, ground := .data }], guard := none }) (v := ?_) rfl (by kernel_rfl) (by kernel_rfl) (by kernel_rfl) (fun _ _ _ h => h) (Or.inl ⟨by rfl, ?_⟩) (by assumption) ?_
        rotate_left 1
        · (intro w hSw; (try dsimp only at hSw); go_simp; try with_reducible rfl)
        (try simp only [Act.put, List.setIfInBounds_toArray, List.set_cons_zero, List.set_cons_succ])
        refine wpAnyH_take (i := 15) (oi := { dst := some 26, op := .build 53 #[(0, .tmp 11), (1, .tmp 20), (2, .tmp 23), (3, .tmp 25)], type := 53, pos := "l61_draw.go:146", after := #[{ on := 0, ground := .data }, { on := 9, ground := .data }, { on := 12, ground := .data }, { on := 14, ground := .data }], guard := none }) (v := ?_) rfl (by kernel_rfl) (by kernel_rfl) (by kernel_rfl) (fun _ _ _ h => h) (Or.inl ⟨by rfl, ?_⟩) (by assumption) ?_
        rotate_left 1
        · (intro w hSw; (try dsimp only at hSw); go_simp; try with_reducible rfl)
        (try simp only [Act.put, List.setIfInBounds_toArray, List.set_cons_zero, List.set_cons_succ])
        refine wpAnyH_ready (rs := [16]) (by kernel_rfl) (by simp) ?_
        refine AllReadyH.cons (o := { dst := none, op := .store 53 (.tmp 4) (.tmp 26), type := 0, pos := "l61_draw.go:146", after := #[{ on := 15, ground := .data }, { on := 14, ground := .chain }, { on := 0, ground := .phase }, { on := 1, ground := .phase }, { on := 2, ground := .phase }, { on := 3, ground := .phase }, { on := 4, ground := .phase }, { on := 5, ground := .phase }, { on := 6, ground := .phase }, { on := 7, ground := .phase }, { on := 8, ground := .phase }, { on := 9, ground := .phase }, { on := 10, ground := .phase }, { on := 11, ground := .phase }, { on := 12, ground := .phase }, { on := 13, ground := .phase }, { on := 14, ground := .phase }, { on := 15, ground := .phase }], guard := none }) rfl (fun K hK => ?_) AllReadyH.nil
        obtain ⟨⟨v0, c0⟩, f0⟩ := S25 0 (by omega)
        obtain ⟨⟨v1, c1⟩, f1⟩ := S25 1 (by omega)
        obtain ⟨⟨v2, c2⟩, f2⟩ := S25 2 (by omega)
        obtain ⟨⟨v3, c3⟩, f3⟩ := S25 3 (by omega)
        go_simp
        refine hK.out _ _ ?_ (fun hHeld => ?_)
        · (try dsimp only); exact keep_setD _ cr25 (keep_setD _ cr25 (keep_setD _ cr25 (keep_setD _ cr25 c25)))
        clear hK K
        (try simp only [Act.put, List.setIfInBounds_toArray, List.set_cons_zero, List.set_cons_succ])
        refine wpAnyH_done (by kernel_rfl) ?_ _
        go_wp2
        exact bodyPost_ret (v := .agg #[.int .i64 nn, .int .i64 a2, .int .i64 (IntKind.i64.wrap (1 + a4)), .bool g24]) (by simp [results, Tryz.results69, go_sem, c0, c1, c2, c3]) rfl ⟨_, _, _, _, p + 1 + 1 + 1 + 1 + 1, rfl, by omega, r25.set4 _ _ _ _ _ hne (by omega), of25.set4 _ _ _ _ _ (by omega)⟩
set_option maxHeartbeats 4000000 in
set_option maxRecDepth 20000 in
theorem fact_2 {G : Cd} (B rb p : Nat) (site a1 a2 a4 : Int) (w : World) (h : Rd G B rb p w) (hp : p < 900000) (s0 : 0 ≤ site) (s1 : site ≤ 1)
    (h1 : Hid (G.pk (p + 1) 3 = a1)) (h2 : Hid (G.pk (p + 1 + 1) 12 = a2)) (h3 : Hid (G.pk (p + 1 + 1 + 1) 3 = 2)) (h4 : Hid (G.pk (p + 1 + 1 + 1 + 1) 4 = a4)) :
    Calls Tryz.prog 69 #[.pointer (some ⟨rb, 0, none⟩), .int .i64 site] w (FactPost G B rb p w) := by
  have hlt := h.lt
  have hle := h.le
  have hne : w.heap.size ≠ rb := by omega
  go_enter Tryz.func69, Tryz.ntmps69
  go_wp2_with fail
  refine (pick_any B rb p 4 _ (h.alloc _) (by omega)).mono ?_
  rintro r w1 ⟨rfl, ⟨x1, y1⟩, r1, o1⟩
  generalize G.pk p 4 = k0 at *
  have S1 := (Slot4.new w (.int .i64 0) (.int .i64 0) (.int .i64 0) (.bool false) 53).aside o1 hne
  have of1 := ((Off.refl rb w).alloc (.cells #[.int .i64 0, .int .i64 0, .int .i64 0, .bool false] 53)).trans o1.off
  have z1 := o1.size
  simp at z1
  have z2 : w.heap.size < w1.heap.size := by omega
  have k1 : k0 ≤ 3 := by omega
  clear z1 o1 y1
  go_wp2_with fail
  generalize site * 4 + k0 = nn
  clear k1 x1 s0 s1
  have r0 := r1.drew
  have S0 := S1.drew
  have of0 := of1.drew
  have hBR : B ≤ w.heap.size := by omega
  clear r1 S1 of1 h
  generalize hR : w.heap.size = R at *
  refine wp_region_any (by kernel_rfl) ?_
  change wpAny _ _ _ _ _ _ _ (World.drew w1)
  refine wpAny_take (i := 0) (oi := { dst := some 11, op := .move (.tmp 5), type := 3, pos := "l61_draw.go:146", after := #[], guard := none }) (v := ?_) rfl (by kernel_rfl) (by kernel_rfl) (by kernel_rfl) (fun _ _ _ h => h) (Or.inl ⟨by rfl, ?_⟩) ?_
  rotate_left 1
  · (intro w; go_simp; try with_reducible rfl)
  (try simp only [Act.put, List.setIfInBounds_toArray, List.set_cons_zero, List.set_cons_succ])
  refine wpAny_take (i := 1) (oi := { dst := some 12, op := .move (.tmp 0), type := 44, pos := "l61_draw.go:146", after := #[], guard := none }) (v := ?_) rfl (by kernel_rfl) (by kernel_rfl) (by kernel_rfl) (fun _ _ _ h => h) (Or.inl ⟨by rfl, ?_⟩) ?_
  rotate_left 1
  · (intro w; go_simp; try with_reducible rfl)
  (try simp only [Act.put, List.setIfInBounds_toArray, List.set_cons_zero, List.set_cons_succ])
  refine wpAny_take (i := 3) (oi := { dst := some 14, op := .move (.tmp 0), type := 44, pos := "l61_draw.go:146", after := #[], guard := none }) (v := ?_) rfl (by kernel_rfl) (by kernel_rfl) (by kernel_rfl) (fun _ _ _ h => h) (Or.inl ⟨by rfl, ?_⟩) ?_
  rotate_left 1
  · (intro w; go_simp; try with_reducible rfl)
  (try simp only [Act.put, List.setIfInBounds_toArray, List.set_cons_zero, List.set_cons_succ])
  refine wpAny_take (i := 6) (oi := { dst := some 17, op := .move (.tmp 0), type := 44, pos := "l61_draw.go:146", after := #[], guard := none }) (v := ?_) rfl (by kernel_rfl) (by kernel_rfl) (by kernel_rfl) (fun _ _ _ h => h) (Or.inl ⟨by rfl, ?_⟩) ?_
  rotate_left 1
  · (intro w; go_simp; try with_reducible rfl)
  (try simp only [Act.put, List.setIfInBounds_toArray, List.set_cons_zero, List.set_cons_succ])
  refine wpAny_take (i := 10) (oi := { dst := some 21, op := .move (.tmp 0), type := 44, pos := "l61_draw.go:146", after := #[], guard := none }) (v := ?_) rfl (by kernel_rfl) (by kernel_rfl) (by kernel_rfl) (fun _ _ _ h => h) (Or.inl ⟨by rfl, ?_⟩) ?_
  rotate_left 1
  · (intro w; go_simp; try with_reducible rfl)
  (try simp only [Act.put, List.setIfInBounds_toArray, List.set_cons_zero, List.set_cons_succ])
  refine wpAny_take (i := 13) (oi := { dst := some 24, op := .move (.tmp 5), type := 3, pos := "l61_draw.go:146", after := #[], guard := none }) (v := ?_) rfl (by kernel_rfl) (by kernel_rfl) (by kernel_rfl) (fun _ _ _ h => h) (Or.inl ⟨by rfl, ?_⟩) ?_
  rotate_left 1
  · (intro w; go_simp; try with_reducible rfl)
  (try simp only [Act.put, List.setIfInBounds_toArray, List.set_cons_zero, List.set_cons_succ])
  refine wpAny_ready (rs := [2]) (by kernel_rfl) (by simp) ?_
  refine (AllReady.cons (o := { dst := some 13, op := .call { callee := .value (.func 29), args := #[.tmp 12, .const (.int .i64 3)], argTypes := #[44, 3] }, type := 3, pos := "l61_draw.go:146", after := #[{ on := 1, ground := .data }], guard := none }) rfl (fun K hK => ?_) AllReady.nil)
  go_simp
  refine (pick_lit B rb (p + 1) 3 a1 _ r0 (by omega) h1).mono ?_
  rintro e w11 ⟨rfl, r11, o11⟩
  have S11 := S0.aside o11 hne
  have of11 := of0.trans o11.off
  clear r0 S0 of0 o11
  (try dsimp only)
  refine hK _ _ ?_
  clear hK K
  (try simp only [Act.put, List.setIfInBounds_toArray, List.set_cons_zero, List.set_cons_succ])
  refine wpAny_ready (rs := [4]) (by kernel_rfl) (by simp) ?_
  refine (AllReady.cons (o := { dst := some 15, op := .call { callee := .value (.func 29), args := #[.tmp 14, .const (.int .i64 12)], argTypes := #[44, 3] }, type := 3, pos := "l61_draw.go:146", after := #[{ on := 3, ground := .data }, { on := 2, ground := .chain }], guard := none }) rfl (fun K hK => ?_) AllReady.nil)
  go_simp
  refine (pick_lit B rb (p + 1 + 1) 12 a2 _ r11 (by omega) h2).mono ?_
  rintro e w12 ⟨rfl, r12, o12⟩
  have S12 := S11.aside o12 hne
  have of12 := of11.trans o12.off
  clear r11 S11 of11 o12
  (try dsimp only)
  refine hK _ _ ?_
  clear hK K
  (try simp only [Act.put, List.setIfInBounds_toArray, List.set_cons_zero, List.set_cons_succ])
  refine wpAny_ready (rs := [5, 7]) (by kernel_rfl) (by simp) ?_
  refine (AllReady.cons (o := { dst := some 16, op := .buildSlice 90 3 #[(0, .tmp 13), (1, .tmp 15), (2, .const (.int .i64 999))], type := 90, pos := "l61_draw.go:146", after := #[{ on := 2, ground := .data }, { on := 4, ground := .data }], guard := none }) rfl (fun K hK => ?_) (AllReady.cons (o := { dst := some 18, op := .call { callee := .value (.func 29), args := #[.tmp 17, .const (.int .i64 3)], argTypes := #[44, 3] }, type := 3, pos := "l61_draw.go:146", after := #[{ on := 6, ground := .data }, { on := 4, ground := .chain }], guard := none }) rfl (fun K hK => ?_) AllReady.nil))
  · skip
    have r13 := r12.alloc (.cells #[.int .i64 a1, .int .i64 a2, .int .i64 999] 3)
    have S13 := S12.alloc (.cells #[.int .i64 a1, .int .i64 a2, .int .i64 999] 3)
    have of13 := of12.alloc (.cells #[.int .i64 a1, .int .i64 a2, .int .i64 999] 3)
    have c13 := at2 w12 a1 a2 999
    have cn13 : w12.heap.size ≠ rb := by have := r12.lt; omega
    have cr13 : w12.heap.size ≠ R := by have := S12.lt; omega
    go_simp
    refine hK _ _ ?_
    clear hK K
    (try simp only [Act.put, List.setIfInBounds_toArray, List.set_cons_zero, List.set_cons_succ])
    refine wpAny_ready (rs := [7]) (by kernel_rfl) (by simp) ?_
    refine (AllReady.cons (o := { dst := some 18, op := .call { callee := .value (.func 29), args := #[.tmp 17, .const (.int .i64 3)], argTypes := #[44, 3] }, type := 3, pos := "l61_draw.go:146", after := #[{ on := 6, ground := .data }, { on := 4, ground := .chain }], guard := none }) rfl (fun K hK => ?_) AllReady.nil)
    go_simp
    refine (pick_lit B rb (p + 1 + 1 + 1) 3 2 _ r13 (by omega) h3).mono ?_
    rintro e w14 ⟨rfl, r14, o14⟩
    have S14 := S13.aside o14 hne
    have of14 := of13.trans o14.off
    have c14 := keep_aside o14 cn13 c13
    clear r13 S13 of13 o14
    (try dsimp only)
    refine hK _ _ ?_
    clear hK K
    (try simp only [Act.put, List.setIfInBounds_toArray, List.set_cons_zero, List.set_cons_succ])
    have hHeld : (fun w' => w'.cell? ⟨w12.heap.size, 2, none⟩ = some (.int .i64 999)) w14 := c14
    refine wpAny_of_held (S := (fun w' => w'.cell? ⟨w12.heap.size, 2, none⟩ = some (.int .i64 999))) _ _ _ _ ?_
    refine wpAnyH_take (i := 8) (oi := { dst := some 19, op := .indexAddr 90 (.tmp 16) (.tmp 18), type := 0, pos := "l61_draw.go:146", after := #[{ on := 5, ground := .data }, { on := 7, ground := .data }], guard := none }) (v := ?_) rfl (by kernel_rfl) (by kernel_rfl) (by kernel_rfl) (fun _ _ _ h => h) (Or.inl ⟨by rfl, ?_⟩) (by assumption) ?_
    rotate_left 1
    · (intro w hSw; (try dsimp only at hSw); go_simp; try with_reducible rfl)
    (try simp only [Act.put, List.setIfInBounds_toArray, List.set_cons_zero, List.set_cons_succ])
    refine wpAnyH_take (i := 9) (oi := { dst := some 20, op := .load 3 (.tmp 19), type := 3, pos := "l61_draw.go:146", after := #[{ on := 8, ground := .data }], guard := none }) (v := ?_) rfl (by kernel_rfl) (by kernel_rfl) (by kernel_rfl) (fun _ _ _ h => h) (Or.inl ⟨by rfl, ?_⟩) (by assumption) ?_
    rotate_left 1
    · (intro w hSw; (try dsimp only at hSw); go_simp; try with_reducible rfl)
    (try simp only [Act.put, List.setIfInBounds_toArray, List.set_cons_zero, List.set_cons_succ])
    refine wpAnyH_ready (rs := [11]) (by kernel_rfl) (by simp) ?_
    refine AllReadyH.cons (o := { dst := some 22, op := .call { callee := .value (.func 29), args := #[.tmp 21, .const (.int .i64 4)], argTypes := #[44, 3] }, type := 3, pos := "l61_draw.go:146", after := #[{ on := 10, ground := .data }, { on := 7, ground := .chain }], guard := none }) rfl (fun K hK => ?_) AllReadyH.nil
    go_simp
    refine (pick_lit B rb (p + 1 + 1 + 1 + 1) 4 a4 _ r14 (by omega) h4).mono ?_
    rintro e w15 ⟨rfl, r15, o15⟩
    have S15 := S14.aside o15 hne
    have of15 := of14.trans o15.off
    have c15 := keep_aside o15 cn13 c14
    clear r14 S14 of14 o15
    go_wp2_with fail
    refine hK.out _ _ ?_ (fun hHeld => ?_)
    · (try dsimp only); exact c15
    clear hK K
    (try simp only [Act.put, List.setIfInBounds_toArray, List.set_cons_zero, List.set_cons_succ])
    refine wpAnyH_take (i := 12) (oi := { dst := some 23, op := .binOp .add 3 (.const (.int .i64 1)) (.tmp 22) 3, type := 3, pos := "l61_draw.go:146", after := #[{ on := 11, ground := .data }], guard := none }) (v := ?_) rfl (by kernel_rfl) (by kernel_rfl) (by kernel_rfl) (fun _ _ _ h => h) (Or.inl ⟨by rfl, ?_⟩) (by assumption) ?_
    rotate_left 1
    · (intro w hSw; (try dsimp only at hSw); go_simp; try with_reducible rfl)
    (try simp only [Act.put, List.setIfInBounds_toArray, List.set_cons_zero, List.set_cons_succ])
    refine wpAnyH_ready (rs := [14]) (by kernel_rfl) (by simp) ?_
    refine AllReadyH.cons (o := { dst := some 25, op := .call { callee := .value (.func 102), args := #[.tmp 24], argTypes := #[3] }, type := 4, pos := "l61_draw.go:146", after := #[{ on := 13, ground := .data }, { on := 11, ground := .chain }], guard := none }) rfl (fun K hK => ?_) AllReadyH.nil
    go_simp
    refine (gate_any _ _).mono ?_
    rintro e w' ⟨g16, rfl, hw⟩
    obtain rfl := hw.symm
    go_wp2_with fail
    refine hK.out _ _ ?_ (fun hHeld => ?_)
    · (try dsimp only); exact c15
    clear hK K
    (try simp only [Act.put, List.setIfInBounds_toArray, List.set_cons_zero, List.set_cons_succ])
    refine wpAnyH_take (i := 15) (oi := { dst := some 26, op := .build 53 #[(0, .tmp 11), (1, .tmp 20), (2, .tmp 23), (3, .tmp 25)], type := 53, pos := "l61_draw.go:146", after := #[{ on := 0, ground := .data }, { on := 9, ground := .data }, { on := 12, ground := .data }, { on := 14, ground := .data }], guard := none }) (v := ?_) rfl (by kernel_rfl) (by kernel_rfl) (by kernel_rfl) (fun _ _ _ h => h) (Or.inl ⟨by rfl, ?_⟩) (by assumption) ?_
    rotate_left 1
    · (intro w hSw; (try dsimp only at hSw); go_simp; try with_reducible rfl)
    (try simp only [Act.put, List.setIfInBounds_toArray, List.set_cons_zero, List.set_cons_succ])
    refine wpAnyH_ready (rs := [16]) (by kernel_rfl) (by simp) ?_
    refine AllReadyH.cons (o := { dst := none, op := .store 53 (.tmp 4) (.tmp 26), type := 0, pos := "l61_draw.go:146", after := #[{ on := 15, ground := .data }, { on := 14, ground := .chain }, { on := 0, ground := .phase }, { on := 1, ground := .phase }, { on := 2, ground := .phase }, { on := 3, ground := .phase }, { on := 4, ground := .phase }, { on := 5, ground := .phase }, { on := 6, ground := .phase }, { on := 7, ground := .phase }, { on := 8, ground := .phase }, { on := 9, ground := .phase }, { on := 10, ground := .phase }, { on := 11, ground := .phase }, { on := 12, ground := .phase }, { on := 13, ground := .phase }, { on := 14, ground := .phase }, { on := 15, ground := .phase }], guard := none }) rfl (fun K hK => ?_) AllReadyH.nil
    obtain ⟨⟨v0, c0⟩, f0⟩ := S15 0 (by omega)
    obtain ⟨⟨v1, c1⟩, f1⟩ := S15 1 (by omega)
    obtain ⟨⟨v2, c2⟩, f2⟩ := S15 2 (by omega)
    obtain ⟨⟨v3, c3⟩, f3⟩ := S15 3 (by omega)
    go_simp
    refine hK.out _ _ ?_ (fun hHeld => ?_)
    · (try dsimp only); exact keep_setD _ cr13 (keep_setD _ cr13 (keep_setD _ cr13 (keep_setD _ cr13 c15)))
    clear hK K
    (try simp only [Act.put, List.setIfInBounds_toArray, List.set_cons_zero, List.set_cons_succ])
    refine wpAnyH_done (by kernel_rfl) ?_ _
    go_wp2
    exact bodyPost_ret (v := .agg #[.int .i64 nn, .int .i64 999, .int .i64 (IntKind.i64.wrap (1 + a4)), .bool g16]) (by simp [results, Tryz.results69, go_sem, c0, c1, c2, c3]) rfl ⟨_, _, _, _, p + 1 + 1 + 1 + 1 + 1, rfl, by omega, r15.set4 _ _ _ _ _ hne (by omega), of15.set4 _ _ _ _ _ (by omega)⟩
  · skip
    go_simp
    refine (pick_lit B rb (p + 1 + 1 + 1) 3 2 _ r12 (by omega) h3).mono ?_
    rintro e w17 ⟨rfl, r17, o17⟩
    have S17 := S12.aside o17 hne
    have of17 := of12.trans o17.off
    clear r12 S12 of12 o17
    (try dsimp only)
    refine hK _ _ ?_
    clear hK K
    (try simp only [Act.put, List.setIfInBounds_toArray, List.set_cons_zero, List.set_cons_succ])
    refine wpAny_ready (rs := [5, 11]) (by kernel_rfl) (by simp) ?_
    refine (AllReady.cons (o := { dst := some 16, op := .buildSlice 90 3 #[(0, .tmp 13), (1, .tmp 15), (2, .const (.int .i64 999))], type := 90, pos := "l61_draw.go:146", after := #[{ on := 2, ground := .data }, { on := 4, ground := .data }], guard := none }) rfl (fun K hK => ?_) (AllReady.cons (o := { dst := some 22, op := .call { callee := .value (.func 29), args := #[.tmp 21, .const (.int .i64 4)], argTypes := #[44, 3] }, type := 3, pos := "l61_draw.go:146", after := #[{ on := 10, ground := .data }, { on := 7, ground := .chain }], guard := none }) rfl (fun K hK => ?_) AllReady.nil))
    · skip
      have r18 := r17.alloc (.cells #[.int .i64 a1, .int .i64 a2, .int .i64 999] 3)
      have S18 := S17.alloc (.cells #[.int .i64 a1, .int .i64 a2, .int .i64 999] 3)
      have of18 := of17.alloc (.cells #[.int .i64 a1, .int .i64 a2, .int .i64 999] 3)
      have c18 := at2 w17 a1 a2 999
      have cn18 : w17.heap.size ≠ rb := by have := r17.lt; omega
      have cr18 : w17.heap.size ≠ R := by have := S17.lt; omega
      go_simp
      refine hK _ _ ?_
      clear hK K
      (try simp only [Act.put, List.setIfInBounds_toArray, List.set_cons_zero, List.set_cons_succ])
      have hHeld : (fun w' => w'.cell? ⟨w17.heap.size, 2, none⟩ = some (.int .i64 999)) (w17.alloc (.cells #[.int .i64 a1, .int .i64 a2, .int .i64 999] 3)) := c18
      refine wpAny_of_held (S := (fun w' => w'.cell? ⟨w17.heap.size, 2, none⟩ = some (.int .i64 999))) _ _ _ _ ?_
      refine wpAnyH_take (i := 8) (oi := { dst := some 19, op := .indexAddr 90 (.tmp 16) (.tmp 18), type := 0, pos := "l61_draw.go:146", after := #[{ on := 5, ground := .data }, { on := 7, ground := .data }], guard := none }) (v := ?_) rfl (by kernel_rfl) (by kernel_rfl) (by kernel_rfl) (fun _ _ _ h => h) (Or.inl ⟨by rfl, ?_⟩) (by assumption) ?_
      rotate_left 1
      · (intro w hSw; (try dsimp only at hSw); go_simp; try with_reducible rfl)
      (try simp only [Act.put, List.setIfInBounds_toArray, List.set_cons_zero, List.set_cons_succ])
      refine wpAnyH_take (i := 9) (oi := { dst := some 20, op := .load 3 (.tmp 19), type := 3, pos := "l61_draw.go:146", after := #[{ on := 8, ground := .data }], guard := none }) (v := ?_) rfl (by kernel_rfl) (by kernel_rfl) (by kernel_rfl) (fun _ _ _ h => h) (Or.inl ⟨by rfl, ?_⟩) (by assumption) ?_
      rotate_left 1
      · (intro w hSw; (try dsimp only at hSw); go_simp; try with_reducible rfl)
      (try simp only [Act.put, List.setIfInBounds_toArray, List.set_cons_zero, List.set_cons_succ])
      refine wpAnyH_ready (rs := [11]) (by kernel_rfl) (by simp) ?_
      refine AllReadyH.cons (o := { dst := some 22, op := .call { callee := .value (.func 29), args := #[.tmp 21, .const (.int .i64 4)], argTypes := #[44, 3] }, type := 3, pos := "l61_draw.go:146", after := #[{ on := 10, ground := .data }, { on := 7, ground := .chain }], guard := none }) rfl (fun K hK => ?_) AllReadyH.nil
      go_simp
      refine (pick_lit B rb (p + 1 + 1 + 1 + 1) 4 a4 _ r18 (by omega) h4).mono ?_
      rintro e w19 ⟨rfl, r19, o19⟩
      have S19 := S18.aside o19 hne
      have of19 := of18.trans o19.off
      have c19 := keep_aside o19 cn18 c18
      clear r18 S18 of18 o19
      go_wp2_with fail
      refine hK.out _ _ ?_ (fun hHeld => ?_)
      · (try dsimp only); exact c19
      clear hK K
      (try simp only [Act.put, List.setIfInBounds_toArray, List.set_cons_zero, List.set_cons_succ])
      refine wpAnyH_take (i := 12) (oi := { dst := some 23, op := .binOp .add 3 (.const (.int .i64 1)) (.tmp 22) 3, type := 3, pos := "l61_draw.go:146", after := #[{ on := 11, ground := .data }], guard := none }) (v := ?_) rfl (by kernel_rfl) (by kernel_rfl) (by kernel_rfl) (fun _ _ _ h => h) (Or.inl ⟨by rfl, ?_⟩) (by assumption) ?_
      rotate_left 1
      · (intro w hSw; (try dsimp only at hSw); go_simp; try with_reducible rfl)
      (try simp only [Act.put, List.setIfInBounds_toArray, List.set_cons_zero, List.set_cons_succ])
      refine wpAnyH_ready (rs := [14]) (by kernel_rfl) (by simp) ?_
      refine AllReadyH.cons (o := { dst := some 25, op := .call { callee := .value (.func 102), args := #[.tmp 24], argTypes := #[3] }, type := 4, pos := "l61_draw.go:146", after := #[{ on := 13, ground := .data }, { on := 11, ground := .chain }], guard := none }) rfl (fun K hK => ?_) AllReadyH.nil
      go_simp
      refine (gate_any _ _).mono ?_
      rintro e w' ⟨g20, rfl, hw⟩
      obtain rfl := hw.symm
      go_wp2_with fail
      refine hK.out _ _ ?_ (fun hHeld => ?_)
      · (try dsimp only); exact c19
      clear hK K
      (try simp only [Act.put, List.setIfInBounds_toArray, List.set_cons_zero, List.set_cons_succ])
      refine wpAnyH_take (i := 15) (oi := { dst := some 26, op := .build 53 #[(0, .tmp 11), (1, .tmp 20), (2, .tmp 23), (3, .tmp 25)], type := 53, pos := "l61_draw.go:146", after := #[{ on := 0, ground := .data }, { on := 9, ground := .data }, { on := 12, ground := .data }, { on := 14, ground := .data }], guard := none }) (v := ?_) rfl (by kernel_rfl) (by kernel_rfl) (by kernel_rfl) (fun _ _ _ h => h) (Or.inl ⟨by rfl, ?_⟩) (by assumption) ?_
      rotate_left 1
      · (intro w hSw; (try dsimp only at hSw); go_simp; try with_reducible rfl)
      (try simp only [Act.put, List.setIfInBounds_toArray, List.set_cons_zero, List.set_cons_succ])
      refine wpAnyH_ready (rs := [16]) (by kernel_rfl) (by simp) ?_
      refine AllReadyH.cons (o := { dst := none, op := .store 53 (.tmp 4) (.tmp 26), type := 0, pos := "l61_draw.go:146", after := #[{ on := 15, ground := .data }, { on := 14, ground := .chain }, { on := 0, ground := .phase }, { on := 1, ground := .phase }, { on := 2, ground := .phase }, { on := 3, ground := .phase }, { on := 4, ground := .phase }, { on := 5, ground := .phase }, { on := 6, ground := .phase }, { on := 7, ground := .phase }, { on := 8, ground := .phase }, { on := 9, ground := .phase }, { on := 10, ground := .phase }, { on := 11, ground := .phase }, { on := 12, ground := .phase }, { on := 13, ground := .phase }, { on := 14, ground := .phase }, { on := 15, ground := .phase }], guard := none }) rfl (fun K hK => ?_) AllReadyH.nil
      obtain ⟨⟨v0, c0⟩, f0⟩ := S19 0 (by omega)
      obtain ⟨⟨v1, c1⟩, f1⟩ := S19 1 (by omega)
      obtain ⟨⟨v2, c2⟩, f2⟩ := S19 2 (by omega)
      obtain ⟨⟨v3, c3⟩, f3⟩ := S19 3 (by omega)
      go_simp
      refine hK.out _ _ ?_ (fun hHeld => ?_)
      · (try dsimp only); exact keep_setD _ cr18 (keep_setD _ cr18 (keep_setD _ cr18 (keep_setD _ cr18 c19)))
      clear hK K
      (try simp only [Act.put, List.setIfInBounds_toArray, List.set_cons_zero, List.set_cons_succ])
      refine wpAnyH_done (by kernel_rfl) ?_ _
      go_wp2
      exact bodyPost_ret (v := .agg #[.int .i64 nn, .int .i64 999, .int .i64 (IntKind.i64.wrap (1 + a4)), .bool g20]) (by simp [results, Tryz.results69, go_sem, c0, c1, c2, c3]) rfl ⟨_, _, _, _, p + 1 + 1 + 1 + 1 + 1, rfl, by omega, r19.set4 _ _ _ _ _ hne (by omega), of19.set4 _ _ _ _ _ (by omega)⟩
    · skip
      go_simp
      refine (pick_lit B rb (p + 1 + 1 + 1 + 1) 4 a4 _ r17 (by omega) h4).mono ?_
      rintro e w21 ⟨rfl, r21, o21⟩
      have S21 := S17.aside o21 hne
      have of21 := of17.trans o21.off
      clear r17 S17 of17 o21
      (try dsimp only)
      refine hK _ _ ?_
      clear hK K
      (try simp only [Act.put, List.setIfInBounds_toArray, List.set_cons_zero, List.set_cons_succ])
      refine wpAny_take (i := 12) (oi := { dst := some 23, op := .binOp .add 3 (.const (.int .i64 1)) (.tmp 22) 3, type := 3, pos := "l61_draw.go:146", after := #[{ on := 11, ground := .data }], guard := none }) (v := ?_) rfl (by kernel_rfl) (by kernel_rfl) (by kernel_rfl) (fun _ _ _ h => h) (Or.inl ⟨by rfl, ?_⟩) ?_
      rotate_left 1
      · (intro w; go_simp; try with_reducible rfl)
      (try simp only [Act.put, List.setIfInBounds_toArray, List.set_cons_zero, List.set_cons_succ])
      refine wpAny_ready (rs := [5, 14]) (by kernel_rfl) (by simp) ?_
      refine (AllReady.cons (o := { dst := some 16, op := .buildSlice 90 3 #[(0, .tmp 13), (1, .tmp 15), (2, .const (.int .i64 999))], type := 90, pos := "l61_draw.go:146", after := #[{ on := 2, ground := .data }, { on := 4, ground := .data }], guard := none }) rfl (fun K hK => ?_) (AllReady.cons (o := { dst := some 25, op := .call { callee := .value (.func 102), args := #[.tmp 24], argTypes := #[3] }, type := 4, pos := "l61_draw.go:146", after := #[{ on := 13, ground := .data }, { on := 11, ground := .chain }], guard := none }) rfl (fun K hK => ?_) AllReady.nil))
      · skip
        have r22 := r21.alloc (.cells #[.int .i64 a1, .int .i64 a2, .int .i64 999] 3)
        have S22 := S21.alloc (.cells #[.int .i64 a1, .int .i64 a2, .int .i64 999] 3)
        have of22 := of21.alloc (.cells #[.int .i64 a1, .int .i64 a2, .int .i64 999] 3)
        have c22 := at2 w21 a1 a2 999
        have cn22 : w21.heap.size ≠ rb := by have := r21.lt; omega
        have cr22 : w21.heap.size ≠ R := by have := S21.lt; omega
        go_simp
        refine hK _ _ ?_
        clear hK K
        (try simp only [Act.put, List.setIfInBounds_toArray, List.set_cons_zero, List.set_cons_succ])
        have hHeld : (fun w' => w'.cell? ⟨w21.heap.size, 2, none⟩ = some (.int .i64 999)) (w21.alloc (.cells #[.int .i64 a1, .int .i64 a2, .int .i64 999] 3)) := c22
        refine wpAny_of_held (S := (fun w' => w'.cell? ⟨w21.heap.size, 2, none⟩ = some (.int .i64 999))) _ _ _ _ ?_
        refine wpAnyH_take (i := 8) (oi := { dst := some 19, op := .indexAddr 90 (.tmp 16) (.tmp 18), type := 0, pos := "l61_draw.go:146", after := #[{ on := 5, ground := .data }, { on := 7, ground := .data }], guard := none }) (v := ?_) rfl (by kernel_rfl) (by kernel_rfl) (by kernel_rfl) (fun _ _ _ h => h) (Or.inl ⟨by rfl, ?_⟩) (by assumption) ?_
        rotate_left 1
        · (intro w hSw; (try dsimp only at hSw); go_simp; try with_reducible rfl)
        (try simp only [Act.put, List.setIfInBounds_toArray, List.set_cons_zero, List.set_cons_succ])
        refine wpAnyH_take (i := 9) (oi := { dst := some 20, op := .load 3 (.tmp 19), type := 3, pos := "l61_draw.go:146", after := #[{ on := 8, ground := .data }], guard := none }) (v := ?_) rfl (by kernel_rfl) (by kernel_rfl) (by kernel_rfl) (fun _ _ _ h => h) (Or.inl ⟨by rfl, ?_⟩) (by assumption) ?_
        rotate_left 1
        · (intro w hSw; (try dsimp only at hSw); go_simp; try with_reducible rfl)
        (try simp only [Act.put, List.setIfInBounds_toArray, List.set_cons_zero, List.set_cons_succ])
        refine wpAnyH_ready (rs := [14]) (by kernel_rfl) (by simp) ?_
        refine AllReadyH.cons (o := { dst := some 25, op := .call { callee := .value (.func 102), args := #[.tmp 24], argTypes := #[3] }, type := 4, pos := "l61_draw.go:146", after := #[{ on := 13, ground := .data }, { on := 11, ground := .chain }], guard := none }) rfl (fun K hK => ?_) AllReadyH.nil
        go_simp
        refine (gate_any _ _).mono ?_
        rintro e w' ⟨g23, rfl, hw⟩
        obtain rfl := hw.symm
        go_wp2_with fail
        refine hK.out _ _ ?_ (fun hHeld => ?_)
        · (try dsimp only); exact c22
        clear hK K
        (try simp only [Act.put, List.setIfInBounds_toArray, List.set_cons_zero, List.set_cons_succ])
        refine wpAnyH_take (i := 15) (oi := { dst := some 26, op := .build 53 #[(0, .tmp 11), (1, .tmp 20), (2, .tmp 23), (3, .tmp 25)], type := 53, pos := "l61_draw.go:146", after := #[{ on := 0, ground := .data }, { on := 9, ground := .data }, { on := 12, ground := .data }, { on := 14, ground := .data }], guard := none }) (v := ?_) rfl (by kernel_rfl) (by kernel_rfl) (by kernel_rfl) (fun _ _ _ h => h) (Or.inl ⟨by rfl, ?_⟩) (by assumption) ?_
        rotate_left 1
        · (intro w hSw; (try dsimp only at hSw); go_simp; try with_reducible rfl)
        (try simp only [Act.put, List.setIfInBounds_toArray, List.set_cons_zero, List.set_cons_succ])
        refine wpAnyH_ready (rs := [16]) (by kernel_rfl) (by simp) ?_
        refine AllReadyH.cons (o := { dst := none, op := .store 53 (.tmp 4) (.tmp 26), type := 0, pos := "l61_draw.go:146", after := #[{ on := 15, ground := .data }, { on := 14, ground := .chain }, { on := 0, ground := .phase }, { on := 1, ground := .phase }, { on := 2, ground := .phase }, { on := 3, ground := .phase }, { on := 4, ground := .phase }, { on := 5, ground := .phase }, { on := 6, ground := .phase }, { on := 7, ground := .phase }, { on := 8, ground := .phase }, { on := 9, ground := .phase }, { on := 10, ground := .phase }, { on := 11, ground := .phase }, { on := 12, ground := .phase }, { on := 13, ground := .phase }, { on := 14, ground := .phase }, { on := 15, ground := .phase }], guard := none }) rfl (fun K hK => ?_) AllReadyH.nil
        obtain ⟨⟨v0, c0⟩, f0⟩ := S22 0 (by omega)
        obtain ⟨⟨v1, c1⟩, f1⟩ := S22 1 (by omega)
        obtain ⟨⟨v2, c2⟩, f2⟩ := S22 2 (by omega)
        obtain ⟨⟨v3, c3⟩, f3⟩ := S22 3 (by omega)
        go_simp
        refine hK.out _ _ ?_ (fun hHeld => ?_)
        · (try dsimp only); exact keep_setD _ cr22 (keep_setD _ cr22 (keep_setD _ cr22 (keep_setD _ cr22 c22)))
        clear hK K
        (try simp only [Act.put, List.setIfInBounds_toArray, List.set_cons_zero, List.set_cons_succ])
        refine wpAnyH_done (by kernel_rfl) ?_ _
        go_wp2
        exact bodyPost_ret (v := .agg #[.int .i64 nn, .int .i64 999, .int .i64 (IntKind.i64.wrap (1 + a4)), .bool g23]) (by simp [results, Tryz.results69, go_sem, c0, c1, c2, c3]) rfl ⟨_, _, _, _, p + 1 + 1 + 1 + 1 + 1, rfl, by omega, r22.set4 _ _ _ _ _ hne (by omega), of22.set4 _ _ _ _ _ (by omega)⟩
      · skip
        go_simp
        refine (gate_any _ _).mono ?_
        rintro e w' ⟨g24, rfl, hw⟩
        obtain rfl := hw.symm
        (try dsimp only)
        refine hK _ _ ?_
        clear hK K
        (try simp only [Act.put, List.setIfInBounds_toArray, List.set_cons_zero, List.set_cons_succ])
        refine wpAny_ready (rs := [5]) (by kernel_rfl) (by simp) ?_
        refine (AllReady.cons (o := { dst := some 16, op := .buildSlice 90 3 #[(0, .tmp 13), (1, .tmp 15), (2, .const (.int .i64 999))], type := 90, pos := "l61_draw.go:146", after := #[{ on := 2, ground := .data }, { on := 4, ground := .data }], guard := none }) rfl (fun K hK => ?_) AllReady.nil)
        have r25 := r21.alloc (.cells #[.int .i64 a1, .int .i64 a2, .int .i64 999] 3)
        have S25 := S21.alloc (.cells #[.int .i64 a1, .int .i64 a2, .int .i64 999] 3)
        have of25 := of21.alloc (.cells #[.int .i64 a1, .int .i64 a2, .int .i64 999] 3)
        have c25 := at2 w21 a1 a2 999
        have cn25 : w21.heap.size ≠ rb := by have := r21.lt; omega
        have cr25 : w21.heap.size ≠ R := by have := S21.lt; omega
        go_simp
        refine hK _ _ ?_
        clear hK K
        (try simp only [Act.put, List.setIfInBounds_toArray, List.set_cons_zero, List.set_cons_succ])
        have hHeld : (fun w' => w'.cell? ⟨w21.heap.size, 2, none⟩ = some (.int .i64 999)) (w21.alloc (.cells #[.int .i64 a1, .int .i64 a2, .int .i64 999] 3)) := c25
        refine wpAny_of_held (S := (fun w' => w'.cell? ⟨w21.heap.size, 2, none⟩ = some (.int .i64 999))) _ _ _ _ ?_
        refine wpAnyH_take (i := 8) (oi := { dst := some 19, op := .indexAddr 90 (.tmp 16) (.tmp 18), type := 0, pos := "l61_draw.go:146", after := #[{ on := 5, ground := .data }, { on := 7, ground := .data }], guard := none }) (v := ?_) rfl (by kernel_rfl) (by kernel_rfl) (by kernel_rfl) (fun _ _ _ h => h) (Or.inl ⟨by rfl, ?_⟩) (by assumption) ?_
        rotate_left 1
        · (intro w hSw; (try dsimp only at hSw); go_simp; try with_reducible rfl)
        (try simp only [Act.put, List.setIfInBounds_toArray, List.set_cons_zero, List.set_cons_succ])
        refine wpAnyH_take (i := 9) (oi := { dst := some 20, op := .load 3 (.tmp 19), type := 3, pos := "l61_draw.go:146", after := #[{ on := 8, ground := .data }], guard := none }) (v := ?_) rfl (by kernel_rfl) (by kernel_rfl) (by kernel_rfl) (fun _ _ _ h => h) (Or.inl ⟨by rfl, ?_⟩) (by assumption) ?_
        rotate_left 1
        · (intro w hSw; (try dsimp only at hSw); go_simp; try with_reducible rfl)
        (try simp only [Act.put, List.setIfInBounds_toArray, List.set_cons_zero, List.set_cons_succ])
        refine wpAnyH_take (i := 15) (oi := { dst := some 26, op := .build 53 #[(0, .tmp 11), (1, .tmp 20), (2, .tmp 23), (3, .tmp 25)], type := 53, pos := "l61_draw.go:146", after := #[{ on := 0, ground := .data }, { on := 9, ground := .data }, { on := 12, ground := .data }, { on := 14, ground := .data }], guard := none }) (v := ?_) rfl (by kernel_rfl) (by kernel_rfl) (by kernel_rfl) (fun _ _ _ h => h) (Or.inl ⟨by rfl, ?_⟩) (by assumption) ?_
        rotate_left 1
        · (intro w hSw; (try dsimp only at hSw); go_simp; try with_reducible rfl)
        (try simp only [Act.put, List.setIfInBounds_toArray, List.set_cons_zero, List.set_cons_succ])
        refine wpAnyH_ready (rs := [16]) (by kernel_rfl) (by simp) ?_
        refine AllReadyH.cons (o := { dst := none, op := .store 53 (.tmp 4) (.tmp 26), type := 0, pos := "l61_draw.go:146", after := #[{ on := 15, ground := .data }, { on := 14, ground := .chain }, { on := 0, ground := .phase }, { on := 1, ground := .phase }, { on := 2, ground := .phase }, { on := 3, ground := .phase }, { on := 4, ground := .phase }, { on := 5, ground := .phase }, { on := 6, ground := .phase }, { on := 7, ground := .phase }, { on := 8, ground := .phase }, { on := 9, ground := .phase }, { on := 10, ground := .phase }, { on := 11, ground := .phase }, { on := 12, ground := .phase }, { on := 13, ground := .phase }, { on := 14, ground := .phase }, { on := 15, ground := .phase }], guard := none }) rfl (fun K hK => ?_) AllReadyH.nil
        obtain ⟨⟨v0, c0⟩, f0⟩ := S25 0 (by omega)
        obtain ⟨⟨v1, c1⟩, f1⟩ := S25 1 (by omega)
        obtain ⟨⟨v2, c2⟩, f2⟩ := S25 2 (by omega)
        obtain ⟨⟨v3, c3⟩, f3⟩ := S25 3 (by omega)
        go_simp
        refine hK.out _ _ ?_ (fun hHeld => ?_)
        · (try dsimp only); exact keep_setD _ cr25 (keep_setD _ cr25 (keep_setD _ cr25 (keep_setD _ cr25 c25)))
        clear hK K
        (try simp only [Act.put, List.setIfInBounds_toArray, List.set_cons_zero, List.set_cons_succ])
        refine wpAnyH_done (by kernel_rfl) ?_ _
        go_wp2
        exact bodyPost_ret (v := .agg #[.int .i64 nn, .int .i64 999, .int .i64 (IntKind.i64.wrap (1 + a4)), .bool g24]) (by simp [results, Tryz.results69, go_sem, c0, c1, c2, c3]) rfl ⟨_, _, _, _, p + 1 + 1 + 1 + 1 + 1, rfl, by omega, r25.set4 _ _ _ _ _ hne (by omega), of25.set4 _ _ _ _ _ (by omega)⟩
set_option maxRecDepth 20000 in
theorem fact_any {G : Cd} (B rb p : Nat) (site : Int) (w : World) (h : Rd G B rb p w) (hp : p < 900000) (s0 : 0 ≤ site) (s1 : site ≤ 1) :
    Calls Tryz.prog 69 #[.pointer (some ⟨rb, 0, none⟩), .int .i64 site] w (FactPost G B rb p w) := by
  have hb := G.pk_bd (p + 1 + 1 + 1) 3
  have hc : G.pk (p + 1 + 1 + 1) 3 = 0 ∨ G.pk (p + 1 + 1 + 1) 3 = 1 ∨ G.pk (p + 1 + 1 + 1) 3 = 2 := by omega
  rcases hc with hc | hc | hc
  · exact fact_0 B rb p site _ _ _ w h hp s0 s1 rfl rfl hc rfl
  · exact fact_1 B rb p site _ _ _ w h hp s0 s1 rfl rfl hc rfl
  · exact fact_2 B rb p site _ _ _ w h hp s0 s1 rfl rfl hc rfl
end Go.Proofs.YtibnojbhoepcdaaGreatDoor
