/- What a table says of a node: the program's way and the model's; the exact law. -/
import Derived.Test.YtdkjcimmgemncaaList
namespace Go.Proofs.Ytdkjcimmgemncaa
open Go.ChangeShapes Go.WideShapes Go.ChangeAt Go.RowKit
attribute [local go_sem ↓] Go.wp_at_zero Go.wp_at_succ
/-- what a table says of a node -/
def tof (len : Nat) (F : Nat → Fc) (x : Int) : Option Fc := if tokB len F = true then tget (seqF F len) x else none
theorem tok_lit (a : Option Addr) (len cap : Nat) (F : Nat → Fc) (q : Bool) (w : World) (h : FSl w a len F) (hl : len ≤ 1048576) (hq : tokB len F = q) :
    Calls Try.prog 22 #[.slice a len cap] w fun e w' => e = .returned (.bool q) ∧ Below w.heap.size w w' := hq ▸ tok_any a len cap F w h hl
theorem stok_lit (a : Option Addr) (len cap : Nat) (F : Nat → Fc) (q : Bool) (w : World) (h : FSl w a len F) (hl : len ≤ 1048576) (hq : tokB len F = q) :
    Calls Try.prog 19 #[.slice a len cap] w fun e w' => e = .returned (.bool q) ∧ Below w.heap.size w w' := hq ▸ stok_any a len cap F w h hl
theorem blk_below {w w' : World} {b : Nat} {o : Obj} (hb : Below w.heap.size w w') (h : w.heap[b]? = some o) : w'.heap[b]? = some o := (hb.block b (lt_of_block h)).trans h
theorem fz_block {w : World} {b o : Nat} {cs : Array Value} {t : TypeId} (h : w.heap[b]? = some (.cells cs t (0, 0))) : w.frozen? ⟨b, o, none⟩ = false := by simp [World.frozen?, h]
theorem set4 {w w' : World} {x y z e : Value} (h : Below w.heap.size w w') :
    Below w.heap.size w ((((w'.setCell ⟨w.heap.size, 0, none⟩ x).setCell ⟨w.heap.size, 1, none⟩ y).setCell ⟨w.heap.size, 2, none⟩ z).setCell ⟨w.heap.size, 3, none⟩ e) :=
  (((h.setCell (p := ⟨w.heap.size, 0, none⟩) (Nat.le_refl _) x).setCell (p := ⟨w.heap.size, 1, none⟩) (Nat.le_refl _) y).setCell (p := ⟨w.heap.size, 2, none⟩) (Nat.le_refl _) z).setCell (p := ⟨w.heap.size, 3, none⟩) (Nat.le_refl _) e
set_option maxHeartbeats 2000000 in
theorem of_any (a : Option Addr) (len cap : Nat) (F : Nat → Fc) (x : Int) (w : World) (h : FSl w a len F) (hl : len ≤ 1048576) (hx : (Lit.int .i64 x).wf = true) :
    Calls Try.prog 17 #[.slice a len cap, .int .i64 x] w fun e w' => e = .returned (.tuple #[fval ((tof len F x).getD Fc.zero), .bool (tof len F x).isSome]) ∧ Below w.heap.size w w' := by
  have p0 : (w.alloc (.cells #[.int .i64 0, .int .i64 0, .int .i64 0, .bool false] 30)).heap[w.heap.size]? = some (.cells #[.int .i64 0, .int .i64 0, .int .i64 0, .bool false] 30 (0, 0)) := heap_alloc_new _ _
  have B0 : Below w.heap.size w (w.alloc (.cells #[.int .i64 0, .int .i64 0, .int .i64 0, .bool false] 30)) := balloc _ (Below.refl _ _)
  cases hok : tokB len F
  · have ht : Hid (tof len F x = none) := by unfold Hid tof; rw [hok]; rfl
    have hok' : Hid (tokB len F = false) := hok
    clear hok
    go_enter Try.func17, Try.ntmps17
    go_wp2_with fail
    generalize (w.alloc (.cells #[.int .i64 0, .int .i64 0, .int .i64 0, .bool false] 30)) = W0 at *
    refine (tok_lit a len cap F false _ (h.below B0) hl hok'.out).mono ?_
    rintro r w1 ⟨rfl, b1⟩
    have B1 := btrans B0 b1
    have p1 := blk_below b1 p0
    have c0 := cell_block (o := 0) p1 rfl
    have c1 := cell_block (o := 1) p1 rfl
    have c2 := cell_block (o := 2) p1 rfl
    have c3 := cell_block (o := 3) p1 rfl
    have f0 := fz_block (o := 0) p1
    have f1 := fz_block (o := 1) p1
    have f2 := fz_block (o := 2) p1
    have f3 := fz_block (o := 3) p1
    clear p0 p1 b1 B0
    go_wp2
    rw [ht.out]
    exact bodyPost_ret (v := .tuple #[fval Fc.zero, .bool false]) (by simp [results, Try.results17, go_sem, Fc.zero, c0, c1, c2, c3]) rfl ⟨rfl, set4 B1⟩
  · have ht : Hid (tof len F x = tget (seqF F len) x) := by unfold Hid tof; rw [hok]; rfl
    have hok' : Hid (tokB len F = true) := hok
    clear hok
    rw [ht.out]
    clear ht
    obtain ⟨g, hg⟩ : ∃ g, (tget (seqF F len) x).getD Fc.zero = g := ⟨_, rfl⟩
    obtain ⟨q, hq⟩ : ∃ q, (tget (seqF F len) x).isSome = q := ⟨_, rfl⟩
    rw [hg, hq]
    go_enter Try.func17, Try.ntmps17
    go_wp2_with fail
    generalize (w.alloc (.cells #[.int .i64 0, .int .i64 0, .int .i64 0, .bool false] 30)) = W0 at *
    refine (tok_lit a len cap F true _ (h.below B0) hl hok'.out).mono ?_
    rintro r w1 ⟨rfl, b1⟩
    have B1 := btrans B0 b1
    have p1 := blk_below b1 p0
    clear p0 b1 B0
    go_wp2_with fail
    refine (regOf_any a len cap F _ (h.below B1) hok'.out).mono ?_
    rintro r w2 ⟨rb, rfl, R2, b2⟩
    have B2 := btrans B1 b2
    have p2 := blk_below b2 p1
    obtain ⟨v, mb, D, h1, h2, h3, h4, h5, h6⟩ := R2
    have r1 := cell_block (o := 1) h1 rfl
    clear p1 b2 B1 h4 hok'
    have c0 := fun o => keep_alloc o (cell_block (o := 0) p2 rfl)
    have c1 := fun o => keep_alloc o (cell_block (o := 1) p2 rfl)
    have c2 := fun o => keep_alloc o (cell_block (o := 2) p2 rfl)
    have c3 := fun o => keep_alloc o (cell_block (o := 3) p2 rfl)
    have f0 := fun x => fz_block (o := 0) (block_alloc x p2)
    have f1 := fun x => fz_block (o := 1) (block_alloc x p2)
    have f2 := fun x => fz_block (o := 2) (block_alloc x p2)
    have f3 := fun x => fz_block (o := 3) (block_alloc x p2)
    go_wp2_with (at_lookup; refine wpList_lookup_fact rfl _ _ rfl mb len D (seqF F len) rfl h5 h6 x rfl hx g q hg hq ?_)
    exact bodyPost_ret (v := .tuple #[fval g, .bool q]) (by simp [results, Try.results17, go_sem, c0, c1, c2, c3]) rfl ⟨rfl, set4 (balloc _ B2)⟩
/-- where the first fact of a node lies -/
def Found (len : Nat) (F : Nat → Fc) (x r : Int) : Prop := (r = -1 ∧ ∀ k, k < len → (F k).n ≠ x) ∨ ∃ k : Nat, k < len ∧ r = k ∧ (F k).n = x ∧ ∀ j, j < k → (F j).n ≠ x
theorem find_any (a : Option Addr) (len cap : Nat) (F : Nat → Fc) (x : Int) (w : World) (h : FSl w a len F) (hl : len ≤ 1048576) :
    Calls Try.prog 28 #[.slice a len cap, .int .i64 x] w fun e w' => ∃ r, e = .returned (.int .i64 r) ∧ Found len F x r ∧ w' = w := by
  go_enter Try.func28, Try.ntmps28
  go_wp2
  go_loopw [5] (fun i wr => ∃ k : Nat, k ≤ len ∧ i = .int .i64 k ∧ wr = w ∧ ∀ j, j < k → (F j).n ≠ x) (fun i _ => len - (intOf i).toNat)
  case atStart => exact ⟨0, Nat.zero_le _, rfl, rfl, fun j hj => by omega⟩
  case round =>
    obtain ⟨k, hk, rfl, rfl, hall⟩ := hrel
    by_cases hlt : k < len
    · obtain ⟨b, off, rfl, hbl, hf⟩ := h (by omega)
      obtain ⟨c0, _, _, _⟩ := hf k hlt
      have i0 : (0 : Int) ≤ (k : Int) := by omega
      have i1 : (k : Int) < (len : Int) := by omega
      by_cases e : (F k).n = x
      · go_wp2
        go_ret
        exact ⟨_, rfl, .inr ⟨k, hlt, rfl, e, hall⟩, rfl⟩
      · go_wp2
        go_roundw
        case rel => exact ⟨k + 1, by omega, by go_num, by first | rfl | trivial, fun j hj => by
          by_cases e' : j = k
          · subst e'; exact e
          · exact hall j (by omega)⟩
        case measure => simp [intOf]; omega
    · go_wp2
      go_ret
      exact ⟨_, rfl, .inl ⟨rfl, fun j hj => hall j (by omega)⟩, rfl⟩
theorem found_none {len : Nat} {F : Nat → Fc} {x : Int} (h : ∀ k, k < len → (F k).n ≠ x) : tget (seqF F len) x = none := by
  unfold tget
  rw [List.find?_eq_none]
  intro g hg
  obtain ⟨k, hk, rfl⟩ := seqF_mem hg
  simpa using h k hk
theorem found_some {len k : Nat} {F : Nat → Fc} {x : Int} (hk : k < len) (e : (F k).n = x) (h : ∀ j, j < k → (F j).n ≠ x) : tget (seqF F len) x = some (F k) := by
  induction len with
  | zero => omega
  | succ n ih =>
    rw [seqF_succ]
    unfold tget
    rw [List.find?_append]
    rcases Nat.lt_or_ge k n with h1 | h1
    · have := ih h1
      unfold tget at this
      rw [this]
      rfl
    · obtain rfl : k = n := by omega
      have := found_none h
      unfold tget at this
      rw [this]
      simp [e]
set_option maxHeartbeats 2000000 in
theorem sof_any (a : Option Addr) (len cap : Nat) (F : Nat → Fc) (x : Int) (w : World) (h : FSl w a len F) (hl : len ≤ 1048576) :
    Calls Try.prog 16 #[.slice a len cap, .int .i64 x] w fun e w' => e = .returned (.tuple #[fval ((tof len F x).getD Fc.zero), .bool (tof len F x).isSome]) ∧ Below w.heap.size w w' := by
  have p0 : (w.alloc (.cells #[.int .i64 0, .int .i64 0, .int .i64 0, .bool false] 30)).heap[w.heap.size]? = some (.cells #[.int .i64 0, .int .i64 0, .int .i64 0, .bool false] 30 (0, 0)) := heap_alloc_new _ _
  have B0 : Below w.heap.size w (w.alloc (.cells #[.int .i64 0, .int .i64 0, .int .i64 0, .bool false] 30)) := balloc _ (Below.refl _ _)
  by_cases hs : tof len F x = none
  · rw [hs]
    have hs' : Hid (tof len F x = none) := hs
    clear hs
    go_enter Try.func16, Try.ntmps16
    go_wp2_with fail
    generalize (w.alloc (.cells #[.int .i64 0, .int .i64 0, .int .i64 0, .bool false] 30)) = W0 at *
    refine (find_any a len cap F x _ (h.below B0) hl).mono ?_
    rintro r w0 ⟨k, rfl, hF, hw⟩
    obtain rfl := hw.symm
    go_wp2_with fail
    cases hok : tokB len F
    · have hok' : Hid (tokB len F = false) := hok
      clear hok
      refine (stok_lit a len cap F false _ (h.below B0) hl hok'.out).mono ?_
      rintro r w1 ⟨rfl, b1⟩
      have B1 := btrans B0 b1
      have p1 := blk_below b1 p0
      have c0 := cell_block (o := 0) p1 rfl
      have c1 := cell_block (o := 1) p1 rfl
      have c2 := cell_block (o := 2) p1 rfl
      have c3 := cell_block (o := 3) p1 rfl
      have f0 := fz_block (o := 0) p1
      have f1 := fz_block (o := 1) p1
      have f2 := fz_block (o := 2) p1
      have f3 := fz_block (o := 3) p1
      clear p0 p1 b1 B0 hF
      go_wp2
      exact bodyPost_ret (v := .tuple #[fval Fc.zero, .bool false]) (by simp [results, Try.results16, go_sem, Fc.zero, c0, c1, c2, c3]) rfl ⟨rfl, set4 B1⟩
    · have hk : k = -1 := by
        rcases hF with ⟨hk, _⟩ | ⟨j, hj, _, e, hall⟩
        · exact hk
        · have := hs'.out
          unfold tof at this
          rw [if_pos hok, found_some hj e hall] at this
          cases this
      subst hk
      have hok' : Hid (tokB len F = true) := hok
      clear hok
      refine (stok_lit a len cap F true _ (h.below B0) hl hok'.out).mono ?_
      rintro r w1 ⟨rfl, b1⟩
      have B1 := btrans B0 b1
      have p1 := blk_below b1 p0
      have c0 := cell_block (o := 0) p1 rfl
      have c1 := cell_block (o := 1) p1 rfl
      have c2 := cell_block (o := 2) p1 rfl
      have c3 := cell_block (o := 3) p1 rfl
      have f0 := fz_block (o := 0) p1
      have f1 := fz_block (o := 1) p1
      have f2 := fz_block (o := 2) p1
      have f3 := fz_block (o := 3) p1
      clear p0 p1 b1 B0 hF
      go_wp2
      exact bodyPost_ret (v := .tuple #[fval Fc.zero, .bool false]) (by simp [results, Try.results16, go_sem, Fc.zero, c0, c1, c2, c3]) rfl ⟨rfl, set4 B1⟩
  · have hok : tokB len F = true := by
      cases hok : tokB len F
      · exact absurd (by unfold tof; rw [hok]; rfl) hs
      · rfl
    have ht : tof len F x = tget (seqF F len) x := by unfold tof; rw [hok]; rfl
    have hF0 : ∃ j, j < len ∧ (F j).n = x ∧ (∀ i, i < j → (F i).n ≠ x) ∧ tof len F x = some (F j) := by
      rw [ht] at hs ⊢
      cases hg : tget (seqF F len) x with
      | none => exact absurd hg hs
      | some g =>
        obtain ⟨hm, e⟩ := tget_mem hg
        obtain ⟨j, hj, rfl⟩ := seqF_mem hm
        obtain ⟨_, t2⟩ := tok_all hok
        have hall : ∀ i, i < j → (F i).n ≠ x := fun i hi => by have := t2 i j hi hj; omega
        rw [found_some hj e hall] at hg
        exact ⟨j, hj, e, hall, rfl⟩
    obtain ⟨j, hj, e, hall, hjs⟩ := hF0
    rw [hjs]
    have hok' : Hid (tokB len F = true) := hok
    clear hok hs ht hjs
    obtain ⟨b, off, rfl, hbl, hf⟩ := h (by omega)
    go_enter Try.func16, Try.ntmps16
    go_wp2_with fail
    generalize (w.alloc (.cells #[.int .i64 0, .int .i64 0, .int .i64 0, .bool false] 30)) = W0 at *
    refine (find_any _ len cap F x _ (h.below B0) hl).mono ?_
    rintro r w0 ⟨k, rfl, hF, hw⟩
    obtain rfl := hw.symm
    obtain rfl : k = (j : Int) := by
      rcases hF with ⟨_, hn⟩ | ⟨j', hj', rfl, e', hall'⟩
      · exact absurd e (hn j hj)
      · have h1 : ¬ j' < j := fun hh => hall j' hh e'
        have h2 : ¬ j < j' := fun hh => hall' j hh e
        omega
    go_wp2_with fail
    refine (stok_lit _ len cap F true _ (h.below B0) hl hok'.out).mono ?_
    rintro r w1 ⟨rfl, b1⟩
    have B1 := btrans B0 b1
    obtain ⟨d0, d1, d2, d3⟩ := (hf.below B1 hbl) j hj
    have i0 : (0 : Int) ≤ (j : Int) := by omega
    have i1 : (j : Int) < (len : Int) := by omega
    have i2 : ¬ ((j : Int) < 0) := by omega
    have p1 := blk_below b1 p0
    have c0 := cell_block (o := 0) p1 rfl
    have c1 := cell_block (o := 1) p1 rfl
    have c2 := cell_block (o := 2) p1 rfl
    have c3 := cell_block (o := 3) p1 rfl
    have f0 := fz_block (o := 0) p1
    have f1 := fz_block (o := 1) p1
    have f2 := fz_block (o := 2) p1
    have f3 := fz_block (o := 3) p1
    clear p0 p1 b1 B0 hF
    go_wp2
    exact bodyPost_ret (v := .tuple #[fval (F j), .bool true]) (by simp [results, Try.results16, go_sem, c0, c1, c2, c3]; exact e.symm) rfl ⟨rfl, set4 B1⟩
set_option maxHeartbeats 2000000 in
theorem exOf_walk (a : Option Addr) (len cap : Nat) (F : Nat → Fc) (x : Int) (w : World) (h : FSl w a len F) (hc : len ≤ cap) (hm : len ≤ maxLen) (hx : (Lit.int .i64 x).wf = true) :
    Calls Try.prog 5 #[.slice a len cap, .int .i64 x] w fun r w' => r = .returned (.bool true) ∧ Below w.heap.size w w' := by
  by_cases hl : 1048576 < len
  · go_enter Try.func5, Try.ntmps5
    go_wp2_with fail
    refine (szFactS_over a len cap _ hl hm).mono ?_
    rintro r w' ⟨rfl, rfl⟩
    go_wp2
    go_ret
    exact ⟨rfl, Below.refl _ _⟩
  · have hl' : len ≤ 1048576 := by omega
    obtain ⟨g, hg⟩ : ∃ g, Hid ((tof len F x).getD Fc.zero = g) := ⟨_, rfl⟩
    obtain ⟨q, hq⟩ : ∃ q, Hid ((tof len F x).isSome = q) := ⟨_, rfl⟩
    have e0 : (q != q) = false := by simp
    clear hl hm
    go_enter Try.func5, Try.ntmps5
    go_wp2_with fail
    refine (szFactS_in a len cap _ hl').mono ?_
    rintro r w' ⟨n, rfl, hw⟩
    obtain rfl := hw.symm
    have n0 : ¬ ((n : Int) < 0) := by omega
    go_wp2_with fail
    refine (toFactS_any a len cap F _ h hl' hc).mono ?_
    rintro r w1 ⟨x1, rfl, f1, _, _, b1⟩
    go_wp2_with fail
    refine (sof_any _ len len F x _ f1 hl').mono ?_
    rintro r w2 ⟨rfl, b2⟩
    rw [hg.out, hq.out]
    have B2 := btrans b1 b2
    clear f1 b1 b2
    go_wp2_with fail
    have p2 : (w2.alloc (.cells #[.int .i64 g.n, .int .i64 g.i, .int .i64 g.s, .bool g.g] 30)).heap[w2.heap.size]? = some (.cells #[.int .i64 g.n, .int .i64 g.i, .int .i64 g.s, .bool g.g] 30 (0, 0)) := heap_alloc_new _ _
    have B3 : Below w.heap.size w (w2.alloc (.cells #[.int .i64 g.n, .int .i64 g.i, .int .i64 g.s, .bool g.g] 30)) := balloc _ B2
    generalize (w2.alloc (.cells #[.int .i64 g.n, .int .i64 g.i, .int .i64 g.s, .bool g.g] 30)) = W2 at *
    refine (toFactS_any a len cap F _ (h.below B3) hl' hc).mono ?_
    rintro r w3 ⟨x3, rfl, f3, _, _, b3⟩
    have p3 := blk_below b3 p2
    have B4 := btrans B3 b3
    clear p2 b3 B3 B2
    go_wp2_with fail
    refine (of_any _ len len F x _ f3 hl' hx).mono ?_
    rintro r w4 ⟨rfl, b4⟩
    rw [hg.out, hq.out]
    have p4 := blk_below b4 p3
    have f4 := f3.below b4
    have B5 := btrans B4 b4
    clear p3 f3 b4 B4
    have c0 := fun o => keep_alloc o (cell_block (o := 0) p4 rfl)
    have c1 := fun o => keep_alloc o (cell_block (o := 1) p4 rfl)
    have c2 := fun o => keep_alloc o (cell_block (o := 2) p4 rfl)
    have c3 := fun o => keep_alloc o (cell_block (o := 3) p4 rfl)
    go_wp2_with fail
    refine (eqFact_same _ _ _ _ _).mono ?_
    rintro r w5 ⟨rfl, b5⟩
    have b5' := btrans (balloc _ (Below.refl _ _)) b5
    have f5 := f4.below b5'
    have B6 := btrans B5 b5'
    clear f4 B5 b5 b5' c0 c1 c2 c3 p4
    go_wp2_with fail
    refine (toFactS_any a len cap F _ (h.below B6) hl' hc).mono ?_
    rintro r w6 ⟨x6, rfl, f6, _, _, b6⟩
    have f7 := f5.below b6
    have B7 := btrans B6 b6
    clear f5 b6 B6
    go_wp2_with fail
    refine (eqFactS_same _ _ len len len F _ f7 f6 hl').mono ?_
    rintro r w7 ⟨rfl, b7⟩
    go_wp2
    go_ret
    exact ⟨rfl, btrans B7 b7⟩
end Go.Proofs.Ytdkjcimmgemncaa
