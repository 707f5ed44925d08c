/- What a table says of a node: the program's way and the model's; the exact law. -/
import Derived.Test.YtogoehaagdldnaaGreatDoorList
namespace Go.Proofs.YtogoehaagdldnaaGreatDoor
open Go.ChangeShapes Go.WideShapes Go.ChangeAt Go.RowKit
attribute [local go_sem ↓] Go.wp_at_zero Go.wp_at_succ
/-- what a table says of a node -/
def tof (len : Nat) (F : Nat → Fc) (x : Int) : Option Fc := if tokB len F = true then tget (seqF F len) x else none
set_option maxRecDepth 20000 in
theorem tok_lit (a : Option Addr) (len cap : Nat) (F : Nat → Fc) (q : Bool) (w : World) (h : FSl w a len F) (hl : len ≤ 1048576) (hq : tokB len F = q) :
    Calls Tryz.prog 15 #[.slice a len cap] w fun e w' => e = .returned (.bool q) ∧ Below w.heap.size w w' := hq ▸ tok_any a len cap F w h hl
set_option maxRecDepth 20000 in
theorem stok_lit (a : Option Addr) (len cap : Nat) (F : Nat → Fc) (q : Bool) (w : World) (h : FSl w a len F) (hl : len ≤ 1048576) (hq : tokB len F = q) :
    Calls Tryz.prog 16 #[.slice a len cap] w fun e w' => e = .returned (.bool q) ∧ Below w.heap.size w w' := hq ▸ stok_any a len cap F w h hl
set_option maxRecDepth 20000 in
theorem blk_below {w w' : World} {b : Nat} {o : Obj} (hb : Below w.heap.size w w') (h : w.heap[b]? = some o) : w'.heap[b]? = some o := (hb.block b (lt_of_block h)).trans h
set_option maxRecDepth 20000 in
theorem fz_block {w : World} {b o : Nat} {cs : Array Value} {t : TypeId} (h : w.heap[b]? = some (.cells cs t (0, 0))) : w.frozen? ⟨b, o, none⟩ = false := by simp [World.frozen?, h]
set_option maxRecDepth 20000 in
theorem set4 {w w' : World} {x y z e : Value} (h : Below w.heap.size w w') :
    Below w.heap.size w ((((w'.setCell ⟨w.heap.size, 0, none⟩ x).setCell ⟨w.heap.size, 1, none⟩ y).setCell ⟨w.heap.size, 2, none⟩ z).setCell ⟨w.heap.size, 3, none⟩ e) :=
  (((h.setCell (p := ⟨w.heap.size, 0, none⟩) (Nat.le_refl _) x).setCell (p := ⟨w.heap.size, 1, none⟩) (Nat.le_refl _) y).setCell (p := ⟨w.heap.size, 2, none⟩) (Nat.le_refl _) z).setCell (p := ⟨w.heap.size, 3, none⟩) (Nat.le_refl _) e
set_option maxRecDepth 20000 in
set_option maxHeartbeats 2000000 in
theorem of_any (a : Option Addr) (len cap : Nat) (F : Nat → Fc) (x : Int) (w : World) (h : FSl w a len F) (hl : len ≤ 1048576) (hx : (Lit.int .i64 x).wf = true) :
    Calls Tryz.prog 21 #[.slice a len cap, .int .i64 x] w fun e w' => e = .returned (.tuple #[fval ((tof len F x).getD Fc.zero), .bool (tof len F x).isSome]) ∧ Below w.heap.size w w' := by
  have p0 : (w.alloc (.cells #[.int .i64 0, .int .i64 0, .int .i64 0, .bool false] 33)).heap[w.heap.size]? = some (.cells #[.int .i64 0, .int .i64 0, .int .i64 0, .bool false] 33 (0, 0)) := heap_alloc_new _ _
  have B0 : Below w.heap.size w (w.alloc (.cells #[.int .i64 0, .int .i64 0, .int .i64 0, .bool false] 33)) := balloc _ (Below.refl _ _)
  cases hok : tokB len F
  · have ht : Hid (tof len F x = none) := by unfold Hid tof; rw [hok]; rfl
    have hok' : Hid (tokB len F = false) := hok
    clear hok
    go_enter Tryz.func21, Tryz.ntmps21
    go_wp2_with fail
    generalize (w.alloc (.cells #[.int .i64 0, .int .i64 0, .int .i64 0, .bool false] 33)) = W0 at *
    refine (tok_lit a len cap F false _ (h.below B0) hl hok'.out).mono ?_
    rintro r w1 ⟨rfl, b1⟩
    have B1 := btrans B0 b1
    have p1 := blk_below b1 p0
    have c0 := cell_block (o := 0) p1 rfl
    have c1 := cell_block (o := 1) p1 rfl
    have c2 := cell_block (o := 2) p1 rfl
    have c3 := cell_block (o := 3) p1 rfl
    have f0 := fz_block (o := 0) p1
    have f1 := fz_block (o := 1) p1
    have f2 := fz_block (o := 2) p1
    have f3 := fz_block (o := 3) p1
    clear p0 p1 b1 B0
    go_wp2
    rw [ht.out]
    exact bodyPost_ret (v := .tuple #[fval Fc.zero, .bool false]) (by simp [results, Tryz.results21, go_sem, Fc.zero, c0, c1, c2, c3]) rfl ⟨rfl, set4 B1⟩
  · have ht : Hid (tof len F x = tget (seqF F len) x) := by unfold Hid tof; rw [hok]; rfl
    have hok' : Hid (tokB len F = true) := hok
    clear hok
    rw [ht.out]
    clear ht
    obtain ⟨g, hg⟩ : ∃ g, (tget (seqF F len) x).getD Fc.zero = g := ⟨_, rfl⟩
    obtain ⟨q, hq⟩ : ∃ q, (tget (seqF F len) x).isSome = q := ⟨_, rfl⟩
    rw [hg, hq]
    go_enter Tryz.func21, Tryz.ntmps21
    go_wp2_with fail
    generalize (w.alloc (.cells #[.int .i64 0, .int .i64 0, .int .i64 0, .bool false] 33)) = W0 at *
    refine (tok_lit a len cap F true _ (h.below B0) hl hok'.out).mono ?_
    rintro r w1 ⟨rfl, b1⟩
    have B1 := btrans B0 b1
    have p1 := blk_below b1 p0
    clear p0 b1 B0
    go_wp2_with fail
    refine (regOf_any a len cap F _ (h.below B1) hok'.out).mono ?_
    rintro r w2 ⟨rb, rfl, R2, b2⟩
    have B2 := btrans B1 b2
    have p2 := blk_below b2 p1
    obtain ⟨v, mb, D, h1, h2, h3, h4, h5, h6⟩ := R2
    have r1 := cell_block (o := 1) h1 rfl
    clear p1 b2 B1 h4 hok'
    have c0 := fun o => keep_alloc o (cell_block (o := 0) p2 rfl)
    have c1 := fun o => keep_alloc o (cell_block (o := 1) p2 rfl)
    have c2 := fun o => keep_alloc o (cell_block (o := 2) p2 rfl)
    have c3 := fun o => keep_alloc o (cell_block (o := 3) p2 rfl)
    have f0 := fun x => fz_block (o := 0) (block_alloc x p2)
    have f1 := fun x => fz_block (o := 1) (block_alloc x p2)
    have f2 := fun x => fz_block (o := 2) (block_alloc x p2)
    have f3 := fun x => fz_block (o := 3) (block_alloc x p2)
    go_wp2_with (at_lookup; refine wpList_lookup_fact rfl _ _ rfl mb len D (seqF F len) rfl h5 h6 x rfl hx g q hg hq ?_)
    exact bodyPost_ret (v := .tuple #[fval g, .bool q]) (by simp [results, Tryz.results21, go_sem, c0, c1, c2, c3]) rfl ⟨rfl, set4 (balloc _ B2)⟩
/-- where the first fact of a node lies -/
def Found (len : Nat) (F : Nat → Fc) (x r : Int) : Prop := (r = -1 ∧ ∀ k, k < len → (F k).n ≠ x) ∨ ∃ k : Nat, k < len ∧ r = k ∧ (F k).n = x ∧ ∀ j, j < k → (F j).n ≠ x
set_option maxRecDepth 20000 in
theorem find_any (a : Option Addr) (len cap : Nat) (F : Nat → Fc) (x : Int) (w : World) (h : FSl w a len F) (hl : len ≤ 1048576) :
    Calls Tryz.prog 40 #[.slice a len cap, .int .i64 x] w fun e w' => ∃ r, e = .returned (.int .i64 r) ∧ Found len F x r ∧ w' = w := by
  go_enter Tryz.func40, Tryz.ntmps40
  go_wp2
  go_loopw [5] (fun i wr => ∃ k : Nat, k ≤ len ∧ i = .int .i64 k ∧ wr = w ∧ ∀ j, j < k → (F j).n ≠ x) (fun i _ => len - (intOf i).toNat)
  case atStart => exact ⟨0, Nat.zero_le _, rfl, rfl, fun j hj => by omega⟩
  case round =>
    obtain ⟨k, hk, rfl, rfl, hall⟩ := hrel
    by_cases hlt : k < len
    · obtain ⟨b, off, rfl, hbl, hf⟩ := h (by omega)
      obtain ⟨c0, _, _, _⟩ := hf k hlt
      have i0 : (0 : Int) ≤ (k : Int) := by omega
      have i1 : (k : Int) < (len : Int) := by omega
      by_cases e : (F k).n = x
      · go_wp2
        go_ret
        exact ⟨_, rfl, .inr ⟨k, hlt, rfl, e, hall⟩, rfl⟩
      · go_wp2
        go_roundw
        case rel => exact ⟨k + 1, by omega, by go_num, by first | rfl | trivial, fun j hj => by
          by_cases e' : j = k
          · subst e'; exact e
          · exact hall j (by omega)⟩
        case measure => simp [intOf]; omega
    · go_wp2
      go_ret
      exact ⟨_, rfl, .inl ⟨rfl, fun j hj => hall j (by omega)⟩, rfl⟩
set_option maxRecDepth 20000 in
theorem found_none {len : Nat} {F : Nat → Fc} {x : Int} (h : ∀ k, k < len → (F k).n ≠ x) : tget (seqF F len) x = none := by
  unfold tget
  rw [List.find?_eq_none]
  intro g hg
  obtain ⟨k, hk, rfl⟩ := seqF_mem hg
  simpa using h k hk
set_option maxRecDepth 20000 in
theorem found_some {len k : Nat} {F : Nat → Fc} {x : Int} (hk : k < len) (e : (F k).n = x) (h : ∀ j, j < k → (F j).n ≠ x) : tget (seqF F len) x = some (F k) := by
  induction len with
  | zero => omega
  | succ n ih =>
    rw [seqF_succ]
    unfold tget
    rw [List.find?_append]
    rcases Nat.lt_or_ge k n with h1 | h1
    · have := ih h1
      unfold tget at this
      rw [this]
      rfl
    · obtain rfl : k = n := by omega
      have := found_none h
      unfold tget at this
      rw [this]
      simp [e]
end Go.Proofs.YtogoehaagdldnaaGreatDoor
