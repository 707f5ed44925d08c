/- Drawn texts: one of a list; a text bent. -/
import Derived.Test.YtibnojbhoepcdaaGreatDoorDrawTab
import Derived.Test.YtibnojbhoepcdaaGreatDoorTxt3
namespace Go.Proofs.YtibnojbhoepcdaaGreatDoor
open Go.ChangeShapes Go.WideShapes Go.ChangeAt Go.RowKit
attribute [local go_sem ↓] Go.wp_at_zero Go.wp_at_succ
set_option maxRecDepth 20000 in
set_option maxHeartbeats 2000000 in
theorem of_any {G : Cd} (B rb p b n : Nat) (S : Nat → ByteArray) (w : World) (h : Rd G B rb p w) (hp : p < 900000) (hc : ∀ j, j < n → w.cell? ⟨b, j, none⟩ = some (.string (S j))) (hb : b < w.heap.size) (hbr : b ≠ rb) (hn : 1 ≤ n ∧ n ≤ 100) :
    Calls Tryz.prog 30 #[.pointer (some ⟨rb, 0, none⟩), .slice (some ⟨b, 0, none⟩) n n] w fun e w' => ∃ j, j < n ∧ e = .returned (.string (S j)) ∧ Rd G B rb (p + 1) w' ∧ Off rb w w' := by
  obtain ⟨n1, n2⟩ := hn
  have hcH : Hid _ := hc
  clear hc
  go_enter Tryz.func30, Tryz.ntmps30
  go_wp2_with fail
  refine (pick_any B rb p (n : Int) _ h (by omega)).mono ?_
  rintro r w1 ⟨rfl, ⟨p0, p1⟩, r1, f1⟩
  generalize G.pk p (n : Int) = k at *
  obtain ⟨j, rfl⟩ : ∃ j : Nat, k = j := ⟨k.toNat, by omega⟩
  have hj : j < n := by omega
  have i1 : (j : Int) < (n : Int) := by omega
  have c0 : w1.cell? ⟨b, j, none⟩ = some (.string (S j)) := (f1.off.cell (p := ⟨b, j, none⟩) hb hbr).trans (hcH.out j hj)
  go_wp2
  go_ret
  exact ⟨j, hj, rfl, r1, f1.off⟩
set_option maxRecDepth 20000 in
set_option maxHeartbeats 4000000 in
theorem bend_any {G : Cd} (B rb p b n : Nat) (S : Nat → ByteArray) (s : ByteArray) (cs : Int) (w : World) (h : Rd G B rb p w) (hp : p < 800000) (hs : s.size ≤ 2000) (hc : ∀ j, j < n → w.cell? ⟨b, j, none⟩ = some (.string (S j))) (hS : ∀ j, j < n → (S j).size ≤ 100) (hb : b < w.heap.size) (hbr : b ≠ rb) (hn1 : 1 ≤ n ∧ n ≤ 100) :
    Calls Tryz.prog 31 #[.pointer (some ⟨rb, 0, none⟩), .string s, .slice (some ⟨b, 0, none⟩) n n, .int .i64 cs] w fun e w' => ∃ x q, e = .returned (.string x) ∧ x.size ≤ 3000 ∧ q ≤ p + 3 ∧ Rd G B rb q w' ∧ Off rb w w' := by
  have hcH : Hid (∀ j, j < n → w.cell? ⟨b, j, none⟩ = some (.string (S j))) := hc
  have hSH : Hid (∀ j, j < n → (S j).size ≤ 100) := hS
  clear hc hS
  go_enter Tryz.func31, Tryz.ntmps31
  go_wp2_with fail
  refine (pick_any B rb p cs _ h (by omega)).mono ?_
  rintro r w1 ⟨rfl, ⟨p0, p1⟩, r1, f1⟩
  generalize G.pk p cs = k at *
  by_cases hk : 0 < k
  · go_wp2
    go_ret
    exact ⟨s, p + 1, rfl, by omega, by omega, r1, f1.off⟩
  · go_wp2_with fail
    refine (pick_any B rb (p + 1) ((s.size : Int) + 1) _ r1 (by omega)).mono ?_
    rintro r w2 ⟨rfl, ⟨q0, q1⟩, r2, f2⟩
    generalize G.pk (p + 1) ((s.size : Int) + 1) = m at *
    obtain ⟨m, rfl⟩ : ∃ j : Nat, m = j := ⟨m.toNat, by omega⟩
    have hm : m ≤ s.size := by omega
    have hmi : (m : Int) ≤ (s.size : Int) := by omega
    have of2 := f1.off.trans f2.off
    have hblt : b < w2.heap.size := Nat.lt_of_lt_of_le hb of2.size
    have hc2 : ∀ j, j < n → w2.cell? ⟨b, j, none⟩ = some (.string (S j)) := fun j hj => (of2.cell (p := ⟨b, j, none⟩) hb hbr).trans (hcH.out j hj)
    go_upto_region 4 with fail
    refine wp_region_held_drew (S := fun _ => True) (by kernel_rfl) ?_ (fun hHeld => ?_)
    · (try dsimp only); (try trivial)
    refine wpAnyH_take (i := 0) (oi := { dst := some 20, op := Go.Op.move (Go.Operand.tmp 1), type := 9, pos := "l61_draw.go:260", after := #[], guard := none }) (v := ?_) rfl (by kernel_rfl) (by kernel_rfl) (by kernel_rfl) (fun _ _ _ h => h) (Or.inl ⟨by rfl, ?_⟩) trivial ?_
    rotate_left 1
    · (intro w hSw; (try dsimp only at hSw); go_simp; try with_reducible rfl)
    (try simp only [Act.put, List.setIfInBounds_toArray, List.set_cons_zero, List.set_cons_succ])
    refine wpAnyH_take (i := 1) (oi := { dst := some 21, op := Go.Op.move (Go.Operand.tmp 9), type := 3, pos := "l61_draw.go:260", after := #[], guard := none }) (v := ?_) rfl (by kernel_rfl) (by kernel_rfl) (by kernel_rfl) (fun _ _ _ h => h) (Or.inl ⟨by rfl, ?_⟩) trivial ?_
    rotate_left 1
    · (intro w hSw; (try dsimp only at hSw); go_simp; try with_reducible rfl)
    (try simp only [Act.put, List.setIfInBounds_toArray, List.set_cons_zero, List.set_cons_succ])
    refine wpAnyH_take (i := 2) (oi := { dst := some 22, op := Go.Op.slice 9 (Go.Operand.tmp 20) none (some (Go.Operand.tmp 21)) none, type := 9, pos := "l61_draw.go:260", after := #[{ on := 0, ground := Go.Ground.data }, { on := 1, ground := Go.Ground.data }], guard := none }) (v := ?_) rfl (by kernel_rfl) (by kernel_rfl) (by kernel_rfl) (fun _ _ _ h => h) (Or.inl ⟨by rfl, ?_⟩) trivial ?_
    rotate_left 1
    · (intro w hSw; (try dsimp only at hSw); go_simp; try with_reducible rfl)
    (try simp only [Act.put, List.setIfInBounds_toArray, List.set_cons_zero, List.set_cons_succ])
    refine wpAnyH_take (i := 3) (oi := { dst := some 23, op := Go.Op.move (Go.Operand.tmp 0), type := 44, pos := "l61_draw.go:260", after := #[], guard := none }) (v := ?_) rfl (by kernel_rfl) (by kernel_rfl) (by kernel_rfl) (fun _ _ _ h => h) (Or.inl ⟨by rfl, ?_⟩) trivial ?_
    rotate_left 1
    · (intro w hSw; (try dsimp only at hSw); go_simp; try with_reducible rfl)
    (try simp only [Act.put, List.setIfInBounds_toArray, List.set_cons_zero, List.set_cons_succ])
    refine wpAnyH_take (i := 4) (oi := { dst := some 24, op := Go.Op.move (Go.Operand.tmp 2), type := 48, pos := "l61_draw.go:260", after := #[], guard := none }) (v := ?_) rfl (by kernel_rfl) (by kernel_rfl) (by kernel_rfl) (fun _ _ _ h => h) (Or.inl ⟨by rfl, ?_⟩) trivial ?_
    rotate_left 1
    · (intro w hSw; (try dsimp only at hSw); go_simp; try with_reducible rfl)
    (try simp only [Act.put, List.setIfInBounds_toArray, List.set_cons_zero, List.set_cons_succ])
    refine wpAnyH_take (i := 7) (oi := { dst := some 27, op := Go.Op.move (Go.Operand.tmp 1), type := 9, pos := "l61_draw.go:260", after := #[], guard := none }) (v := ?_) rfl (by kernel_rfl) (by kernel_rfl) (by kernel_rfl) (fun _ _ _ h => h) (Or.inl ⟨by rfl, ?_⟩) trivial ?_
    rotate_left 1
    · (intro w hSw; (try dsimp only at hSw); go_simp; try with_reducible rfl)
    (try simp only [Act.put, List.setIfInBounds_toArray, List.set_cons_zero, List.set_cons_succ])
    refine wpAnyH_take (i := 8) (oi := { dst := some 28, op := Go.Op.move (Go.Operand.tmp 9), type := 3, pos := "l61_draw.go:260", after := #[], guard := none }) (v := ?_) rfl (by kernel_rfl) (by kernel_rfl) (by kernel_rfl) (fun _ _ _ h => h) (Or.inl ⟨by rfl, ?_⟩) trivial ?_
    rotate_left 1
    · (intro w hSw; (try dsimp only at hSw); go_simp; try with_reducible rfl)
    (try simp only [Act.put, List.setIfInBounds_toArray, List.set_cons_zero, List.set_cons_succ])
    refine wpAnyH_take (i := 9) (oi := { dst := some 29, op := Go.Op.slice 9 (Go.Operand.tmp 27) (some (Go.Operand.tmp 28)) none none, type := 9, pos := "l61_draw.go:260", after := #[{ on := 7, ground := Go.Ground.data }, { on := 8, ground := Go.Ground.data }], guard := none }) (v := ?_) rfl (by kernel_rfl) (by kernel_rfl) (by kernel_rfl) (fun _ _ _ h => h) (Or.inl ⟨by rfl, ?_⟩) trivial ?_
    rotate_left 1
    · (intro w hSw; (try dsimp only at hSw); go_simp; try with_reducible rfl)
    (try simp only [Act.put, List.setIfInBounds_toArray, List.set_cons_zero, List.set_cons_succ])
    refine wpAnyH_ready (rs := [5]) (by kernel_rfl) (by simp) ?_
    refine AllReadyH.cons (o := { dst := some 25, op := Go.Op.call { callee := Go.Callee.value (Go.Operand.func 30), args := #[Go.Operand.tmp 23, Go.Operand.tmp 24], argTypes := #[44, 48] }, type := 9, pos := "l61_draw.go:260", after := #[{ on := 3, ground := Go.Ground.data }, { on := 4, ground := Go.Ground.data }], guard := none }) rfl (fun K hK => ?_) AllReadyH.nil
    go_simp
    refine (of_any B rb (p + 1 + 1) b n S w2.drew r2.drew (by omega) (show ∀ j, j < n → w2.drew.cell? ⟨b, j, none⟩ = some (.string (S j)) from hc2) hblt hbr hn1).mono ?_; rintro e w3 ⟨j, hj, rfl, r3, f3⟩; have hSj := hSH.out j hj; generalize S j = y at *; have m1 : ¬ 9223372036854775807 < m + y.size := (by omega); have m2 : ¬ 9223372036854775807 < m + y.size + (s.size - m) := (by omega)
    go_wp2_with fail
    refine hK.out _ _ ?_ (fun hHeld => ?_)
    · (try dsimp only); (try trivial)
    clear hK K
    (try simp only [Act.put, List.setIfInBounds_toArray, List.set_cons_zero, List.set_cons_succ])
    refine wpAnyH_take (i := 6) (oi := { dst := some 26, op := Go.Op.binOp Go.BinOp.add 9 (Go.Operand.tmp 22) (Go.Operand.tmp 25) 9, type := 9, pos := "l61_draw.go:260", after := #[{ on := 2, ground := Go.Ground.data }, { on := 5, ground := Go.Ground.data }], guard := none }) (v := ?_) rfl (by kernel_rfl) (by kernel_rfl) (by kernel_rfl) (fun _ _ _ h => h) (Or.inl ⟨by rfl, ?_⟩) trivial ?_
    rotate_left 1
    · (intro w hSw; (try dsimp only at hSw); go_simp; try with_reducible rfl)
    (try simp only [Act.put, List.setIfInBounds_toArray, List.set_cons_zero, List.set_cons_succ])
    refine wpAnyH_take (i := 10) (oi := { dst := some 30, op := Go.Op.binOp Go.BinOp.add 9 (Go.Operand.tmp 26) (Go.Operand.tmp 29) 9, type := 9, pos := "l61_draw.go:260", after := #[{ on := 6, ground := Go.Ground.data }, { on := 9, ground := Go.Ground.data }], guard := none }) (v := ?_) rfl (by kernel_rfl) (by kernel_rfl) (by kernel_rfl) (fun _ _ _ h => h) (Or.inl ⟨by rfl, ?_⟩) trivial ?_
    rotate_left 1
    · (intro w hSw; (try dsimp only at hSw); go_simp; try with_reducible rfl)
    (try simp only [Act.put, List.setIfInBounds_toArray, List.set_cons_zero, List.set_cons_succ])
    refine wpAnyH_take (i := 11) (oi := { dst := some 8, op := Go.Op.assign (Go.Operand.tmp 30), type := 9, pos := "l61_draw.go:260", after := #[{ on := 10, ground := Go.Ground.data }, { on := 5, ground := Go.Ground.chain }, { on := 0, ground := Go.Ground.phase }, { on := 1, ground := Go.Ground.phase }, { on := 2, ground := Go.Ground.phase }, { on := 3, ground := Go.Ground.phase }, { on := 4, ground := Go.Ground.phase }, { on := 5, ground := Go.Ground.phase }, { on := 6, ground := Go.Ground.phase }, { on := 7, ground := Go.Ground.phase }, { on := 8, ground := Go.Ground.phase }, { on := 9, ground := Go.Ground.phase }, { on := 10, ground := Go.Ground.phase }], guard := none }) (v := ?_) rfl (by kernel_rfl) (by kernel_rfl) (by kernel_rfl) (fun _ _ _ h => h) (Or.inl ⟨by rfl, ?_⟩) trivial ?_
    rotate_left 1
    · (intro w hSw; (try dsimp only at hSw); go_simp; try with_reducible rfl)
    (try simp only [Act.put, List.setIfInBounds_toArray, List.set_cons_zero, List.set_cons_succ])
    refine wpAnyH_done (by kernel_rfl) ?_ _
    go_wp2
    go_ret
    refine ⟨_, p + 1 + 1 + 1, rfl, ?_, by omega, r3, of2.trans (Off.trans (show Off rb w2 w2.drew from ⟨rfl, rfl, rfl, Nat.le_refl _, fun _ _ _ => rfl⟩) f3)⟩
    simp
    omega
theorem txt_size (n : Nat) (F : Nat → Fc) (hn : n ≤ 8) : (txt n F).size ≤ 200 := by
  unfold txt
  split
  · rename_i h
    have := ttx_len F n (tok_all h).1
    split
    · decide
    · show (ttx (seqF F n)).toArray.size ≤ 200
      rw [List.size_toArray]
      omega
  · decide
theorem strs_new (w : World) (L : List ByteArray) (cs : Array Value) (h : cs = (L.map Value.string).toArray) : ∀ j, j < L.length → (w.alloc (.cells cs 9)).cell? ⟨w.heap.size, j, none⟩ = some (.string (L.getD j ByteArray.empty)) := fun j hj => by
  subst h
  simp [hj, List.getD]
theorem strs_small (L : List ByteArray) (h : L.all (fun x => decide (x.size ≤ 100)) = true) : ∀ j, j < L.length → (L.getD j ByteArray.empty).size ≤ 100 := fun j hj => by
  have := List.all_eq_true.1 h (L.getD j ByteArray.empty) (by simp [List.getD, hj])
  simpa using this
def l14 : List ByteArray := [⟨#[]⟩, ⟨#[45]⟩, ⟨#[45, 45]⟩, ⟨#[49, 58, 50]⟩, ⟨#[49, 58, 48, 58, 97, 108, 105, 118, 101]⟩, ⟨#[48, 49, 58, 48, 58, 97, 108, 105, 118, 101]⟩, ⟨#[49, 58, 48, 58, 97, 108, 105, 118, 101, 44, 49, 58, 48, 58, 97, 108, 105, 118, 101]⟩, ⟨#[50, 58, 48, 58, 97, 108, 105, 118, 101, 44, 49, 58, 48, 58, 97, 108, 105, 118, 101]⟩, ⟨#[57, 58, 48, 58, 97, 108, 105, 118, 101]⟩, ⟨#[49, 58, 49, 48, 48, 48, 58, 97, 108, 105, 118, 101]⟩, ⟨#[49, 58, 48, 58, 103, 111, 110, 101]⟩, ⟨#[49, 58, 48, 58, 97, 108, 105, 118, 101, 42, 42]⟩, ⟨#[42]⟩, ⟨#[44]⟩]
def l6 : List ByteArray := [⟨#[44]⟩, ⟨#[58]⟩, ⟨#[42]⟩, ⟨#[48]⟩, ⟨#[32]⟩, ⟨#[45]⟩]
set_option maxRecDepth 20000 in
set_option maxHeartbeats 4000000 in
theorem drawTxt_any (a : Option Addr) (len cap : Nat) (w : World) (h : Bytes w.heap.size w a len) (hl : len ≤ cap) :
    Calls Tryz.prog 8 #[.slice a len cap] w fun e w' => ∃ x, e = .returned (.string x) ∧ x.size ≤ 3000 ∧ Below w.heap.size w w' := by
  go_enter Tryz.func8, Tryz.ntmps8
  go_wp2_with fail
  refine (open_any w.heap.size a len cap _ (Nat.le_refl _) h hl).mono ?_
  rintro r w1 ⟨rfl, ⟨G, r1⟩, b1, z1⟩
  have r1lt := r1.lt
  obtain ⟨rb, hrb⟩ : ∃ rb, Hid (w.heap.size = rb) := ⟨_, rfl⟩
  rw [hrb.out] at r1 r1lt b1 z1 ⊢
  go_wp2_with fail
  refine (pick_any rb rb 0 6 _ r1 (by omega)).mono ?_
  rintro r w2 ⟨rfl, ⟨p0, p1⟩, r2, f2⟩
  have B2 := b1.trans (f2.off.below (Nat.le_refl rb) (Nat.le_of_lt r1lt))
  have r2lt := r2.lt
  generalize G.pk 0 6 = k at *
  clear f2 r1
  by_cases hk : k = 0
  · subst hk
    have hcs := strs_new w2 l14 #[.string ⟨#[]⟩, .string ⟨#[45]⟩, .string ⟨#[45, 45]⟩, .string ⟨#[49, 58, 50]⟩, .string ⟨#[49, 58, 48, 58, 97, 108, 105, 118, 101]⟩, .string ⟨#[48, 49, 58, 48, 58, 97, 108, 105, 118, 101]⟩, .string ⟨#[49, 58, 48, 58, 97, 108, 105, 118, 101, 44, 49, 58, 48, 58, 97, 108, 105, 118, 101]⟩, .string ⟨#[50, 58, 48, 58, 97, 108, 105, 118, 101, 44, 49, 58, 48, 58, 97, 108, 105, 118, 101]⟩, .string ⟨#[57, 58, 48, 58, 97, 108, 105, 118, 101]⟩, .string ⟨#[49, 58, 49, 48, 48, 48, 58, 97, 108, 105, 118, 101]⟩, .string ⟨#[49, 58, 48, 58, 103, 111, 110, 101]⟩, .string ⟨#[49, 58, 48, 58, 97, 108, 105, 118, 101, 42, 42]⟩, .string ⟨#[42]⟩, .string ⟨#[44]⟩] (by rfl)
    have hB3 : Below rb w (w2.alloc (.cells #[.string ⟨#[]⟩, .string ⟨#[45]⟩, .string ⟨#[45, 45]⟩, .string ⟨#[49, 58, 50]⟩, .string ⟨#[49, 58, 48, 58, 97, 108, 105, 118, 101]⟩, .string ⟨#[48, 49, 58, 48, 58, 97, 108, 105, 118, 101]⟩, .string ⟨#[49, 58, 48, 58, 97, 108, 105, 118, 101, 44, 49, 58, 48, 58, 97, 108, 105, 118, 101]⟩, .string ⟨#[50, 58, 48, 58, 97, 108, 105, 118, 101, 44, 49, 58, 48, 58, 97, 108, 105, 118, 101]⟩, .string ⟨#[57, 58, 48, 58, 97, 108, 105, 118, 101]⟩, .string ⟨#[49, 58, 49, 48, 48, 48, 58, 97, 108, 105, 118, 101]⟩, .string ⟨#[49, 58, 48, 58, 103, 111, 110, 101]⟩, .string ⟨#[49, 58, 48, 58, 97, 108, 105, 118, 101, 42, 42]⟩, .string ⟨#[42]⟩, .string ⟨#[44]⟩] 9)) := B2.alloc (Nat.le_of_lt r2lt) _
    go_wp2_with fail
    refine (of_any rb rb 1 w2.heap.size 14 (fun j => l14.getD j ByteArray.empty) _ (r2.alloc _) (by omega) hcs (by simp) (by omega) (by omega)).mono ?_
    rintro r w3 ⟨j, hj, rfl, r3, f3⟩
    have hS := strs_small l14 (by decide +kernel) j hj
    generalize l14.getD j ByteArray.empty = y at *
    go_wp2
    go_ret
    exact ⟨y, rfl, by omega, by rw [hrb.out]; exact hB3.trans (f3.below (Nat.le_refl rb) (by simp; omega))⟩
  · go_wp2_with fail
    refine (table_any rb rb 1 (-1) _ r2 (by omega) (.inl rfl)).mono ?_
    rintro r w3 ⟨a3, c3, T, q, rfl, hn, o3, hA, hT, hq, r3, f3⟩
    have B3 := B2.trans (f3.below (Nat.le_refl rb) (Nat.le_of_lt r2lt))
    have r3lt := r3.lt
    obtain ⟨a', c', e', -, -, hF⟩ := own_facts o3
    simp only [Value.slice.injEq, true_and] at e'
    obtain ⟨rfl, rfl⟩ := e'
    have hst := stext_any a3 T.length c3 (fun k => T.getD k Fc.zero) w3 hF (by omega)
    have hsz := txt_size T.length (fun k => T.getD k Fc.zero) (by omega)
    generalize txt T.length (fun k => T.getD k Fc.zero) = s at *
    go_wp2_with fail
    refine hst.mono ?_
    rintro r w4 ⟨rfl, b4⟩
    have r4 := r3.below b4
    have B4 := B3.trans (b4.mono (Nat.le_of_lt r3lt))
    have r4lt := r4.lt
    have hcs := strs_new w4 l6 #[.string ⟨#[44]⟩, .string ⟨#[58]⟩, .string ⟨#[42]⟩, .string ⟨#[48]⟩, .string ⟨#[32]⟩, .string ⟨#[45]⟩] (by rfl)
    have hB5 : Below rb w (w4.alloc (.cells #[.string ⟨#[44]⟩, .string ⟨#[58]⟩, .string ⟨#[42]⟩, .string ⟨#[48]⟩, .string ⟨#[32]⟩, .string ⟨#[45]⟩] 9)) := B4.alloc (Nat.le_of_lt r4lt) _
    go_wp2_with fail
    refine (bend_any rb rb q w4.heap.size 6 (fun j => l6.getD j ByteArray.empty) s 4 _ (r4.alloc _) (by omega) (by omega) hcs (strs_small l6 (by decide +kernel)) (by simp) (by omega) (by omega)).mono ?_
    rintro r w5 ⟨x, q5, rfl, hx, hq5, r5, f5⟩
    go_wp2
    go_ret
    exact ⟨x, rfl, hx, by rw [hrb.out]; exact hB5.trans (f5.below (Nat.le_refl rb) (by simp; omega))⟩
end Go.Proofs.YtibnojbhoepcdaaGreatDoor
