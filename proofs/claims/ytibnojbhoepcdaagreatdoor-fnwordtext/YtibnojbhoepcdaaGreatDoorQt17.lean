/- Texts of the proof, laid together: SRd. -/
import Derived.Test.YtibnojbhoepcdaaGreatDoorQt15
/- A word read by the model. -/
namespace Go.Proofs.YtibnojbhoepcdaaGreatDoor
open Go.ChangeShapes Go.WideShapes Go.ChangeAt Go.RowKit
attribute [local go_sem ↓] Go.wp_at_zero Go.wp_at_succ
/-- pieces lie in a block -/
structure Ps (w : World) (b : Nat) (l : List (List UInt8)) : Prop where
  lt : b < w.heap.size
  c : ∀ j p, l[j]? = some p → w.cell? ⟨b, j, none⟩ = some (.string (bs p))
theorem Ps.below {w w' : World} {b : Nat} {l : List (List UInt8)} (h : Ps w b l) (k : Below w.heap.size w w') : Ps w' b l :=
  ⟨Nat.lt_of_lt_of_le h.lt k.size, fun j p hp => keep_below k (h.c j p hp)⟩
theorem Ps.far {w : World} {b b' k : Nat} {v : Value} {l : List (List UInt8)} (h : Ps w b l) (hb : b ≠ b') : Ps (w.setCell ⟨b', k, none⟩ v) b l :=
  ⟨by simpa [World.setCell] using h.lt, fun j p hp => (cell_farP _ hb).trans (h.c j p hp)⟩
theorem snum_l (a : List UInt8) (t : ByteArray) (n : Int) (ht : bs a = t) (hn : mnum a = n) (hs : t.size ≤ 1048576) (w : World) : Calls Tryz.prog 46 #[.string t] w fun e w' => e = .returned (.int .i64 n) ∧ Below w.heap.size w w' := by
  subst ht
  subst hn
  exact snum_any (bs a) w hs
theorem sgnr_l (a : List UInt8) (t : ByteArray) (n : Int) (q : Bool) (ht : bs a = t) (hn : (msg a).1 = n) (hq : (msg a).2 = q) (hs : t.size ≤ 1048576) (w : World) : Calls Tryz.prog 47 #[.string t] w fun e w' => e = .returned (.tuple #[.int .i64 n, .bool q]) ∧ Below w.heap.size w w' := by
  subst ht
  subst hn
  subst hq
  exact l4read_any (bs a) hs w
theorem sparse_l (a : List UInt8) (t : ByteArray) (ht : bs a = t) (hs : t.size ≤ 1048576) (w : World) : Calls Tryz.prog 10 #[.string t] w fun e w' => Rd2 mt (bs a) w e w' := by
  subst ht
  exact sparse_any (bs a) hs w
/-- what is known while the model reads: the answer's box, the word's box, the pieces -/
structure Sr (w wr : World) (b5 pb : Nat) (l : List (List UInt8)) (xs : List Value) : Prop where
  b : Below w.heap.size w wr
  x2 : Ws wr w.heap.size zW
  x5 : Ws wr b5 xs
  p : Ps wr pb l
  n5 : w.heap.size < b5
  np : w.heap.size < pb
  n : pb ≠ b5
theorem Sr.below {w wr w' : World} {b5 pb : Nat} {l : List (List UInt8)} {xs : List Value} (h : Sr w wr b5 pb l xs) (k : Below wr.heap.size wr w') : Sr w w' b5 pb l xs :=
  ⟨btrans h.b k, h.x2.below k, h.x5.below k, h.p.below k, h.n5, h.np, h.n⟩
theorem Sr.set {w wr : World} {b5 pb : Nat} {l : List (List UInt8)} {xs : List Value} (h : Sr w wr b5 pb l xs) (i : Nat) (hi : i < xs.length) (v : Value) : Sr w (wr.setCell ⟨b5, i, none⟩ v) b5 pb l (xs.set i v) :=
  ⟨h.b.setCell (p := ⟨b5, i, none⟩) (Nat.le_of_lt h.n5) v, h.x2.far (by have := h.n5; omega), h.x5.set i hi v, h.p.far h.n, h.n5, h.np, h.n⟩
set_option maxRecDepth 20000 in
set_option maxHeartbeats 16000000 in
theorem sreadW_any (s : ByteArray) (w : World) (hs : s.size ≤ 1048576) :
    Calls Tryz.prog 18 #[.string s] w fun e w' => RdW s w e w' := by
  have hL : s.data.toList.length = s.size := by simp
  have b0 := balloc (.cells #[.int .i64 0, .int .i64 0, .int .i64 0, .int .i64 0, .int .i64 0, .int .i64 0, .int .i64 0, .int .i64 0, .int .i64 0, .int .i64 0, .slice none 0 0] 35) (Below.refl w.heap.size w)
  have y0 : (w.alloc (.cells #[.int .i64 0, .int .i64 0, .int .i64 0, .int .i64 0, .int .i64 0, .int .i64 0, .int .i64 0, .int .i64 0, .int .i64 0, .int .i64 0, .slice none 0 0] 35)).heap[w.heap.size]? = some (.cells #[.int .i64 0, .int .i64 0, .int .i64 0, .int .i64 0, .int .i64 0, .int .i64 0, .int .i64 0, .int .i64 0, .int .i64 0, .int .i64 0, .slice none 0 0] 35 (0, 0)) := heap_alloc_new _ _
  go_enter Tryz.func18, Tryz.ntmps18
  go_wp2_with fail
  have X0 : Ws _ w.heap.size zW := Ws.new y0
  generalize w.alloc (.cells #[.int .i64 0, .int .i64 0, .int .i64 0, .int .i64 0, .int .i64 0, .int .i64 0, .int .i64 0, .int .i64 0, .int .i64 0, .int .i64 0, .slice none 0 0] 35) = u0 at *
  refine (scut_lit s 32 32 rfl hs _).mono ?_
  rintro e w1 ⟨v, rfl, hrow, b1⟩
  have hcl := cutL_len 32 s.data.toList.length s.data.toList (Nat.le_refl _)
  obtain ⟨pb, pc, rfl, hp1, hp2, hpc, hpj⟩ := cut_at (cutL_ne 32 _) hrow
  have X1 := X0.below b1
  have B1 := btrans b0 b1
  have hP : Ps w1 pb (cutL 32 s.data.toList) := ⟨hp2, hpj⟩
  have hnp : w.heap.size < pb := Nat.lt_of_lt_of_le X0.lt hp1
  clear hrow hpj y0 X0 b0 b1 hp1
  by_cases hlen : 300 < s.size
  · have hno := nowd_long (s := s.data.toList) (by omega)
    have hi : (300 : Int) < (s.size : Int) := by omega
    have Y : Ws _ w.heap.size zW := (((((((((((X1.set 0 (by simp [zW]) (.int .i64 0)).set 1 (by simp [zW]) (.int .i64 0)).set 2 (by simp [zW]) (.int .i64 0)).set 3 (by simp [zW]) (.int .i64 0)).set 4 (by simp [zW]) (.int .i64 0)).set 5 (by simp [zW]) (.int .i64 0)).set 6 (by simp [zW]) (.int .i64 0)).set 7 (by simp [zW]) (.int .i64 0)).set 8 (by simp [zW]) (.int .i64 0)).set 9 (by simp [zW]) (.int .i64 0)).set 10 (by simp [zW]) (.slice none 0 0))
    have BY := (((((((((((B1.setCell (p := ⟨w.heap.size, 0, none⟩) (Nat.le_refl _) (.int .i64 0)).setCell (p := ⟨w.heap.size, 1, none⟩) (Nat.le_refl _) (.int .i64 0)).setCell (p := ⟨w.heap.size, 2, none⟩) (Nat.le_refl _) (.int .i64 0)).setCell (p := ⟨w.heap.size, 3, none⟩) (Nat.le_refl _) (.int .i64 0)).setCell (p := ⟨w.heap.size, 4, none⟩) (Nat.le_refl _) (.int .i64 0)).setCell (p := ⟨w.heap.size, 5, none⟩) (Nat.le_refl _) (.int .i64 0)).setCell (p := ⟨w.heap.size, 6, none⟩) (Nat.le_refl _) (.int .i64 0)).setCell (p := ⟨w.heap.size, 7, none⟩) (Nat.le_refl _) (.int .i64 0)).setCell (p := ⟨w.heap.size, 8, none⟩) (Nat.le_refl _) (.int .i64 0)).setCell (p := ⟨w.heap.size, 9, none⟩) (Nat.le_refl _) (.int .i64 0)).setCell (p := ⟨w.heap.size, 10, none⟩) (Nat.le_refl _) (.slice none 0 0))
    have d0 := X1.c 0 _ rfl
    have z0 := X1.z 0
    have d1 := X1.c 1 _ rfl
    have z1 := X1.z 1
    have d2 := X1.c 2 _ rfl
    have z2 := X1.z 2
    have d3 := X1.c 3 _ rfl
    have z3 := X1.z 3
    have d4 := X1.c 4 _ rfl
    have z4 := X1.z 4
    have d5 := X1.c 5 _ rfl
    have z5 := X1.z 5
    have d6 := X1.c 6 _ rfl
    have z6 := X1.z 6
    have d7 := X1.c 7 _ rfl
    have z7 := X1.z 7
    have d8 := X1.c 8 _ rfl
    have z8 := X1.z 8
    have d9 := X1.c 9 _ rfl
    have z9 := X1.z 9
    have d10 := X1.c 10 _ rfl
    have z10 := X1.z 10
    go_wp2
    clear d0 d1 d2 d3 d4 d5 d6 d7 d8 d9 d10
    generalize (((((((((((w1.setCell ⟨w.heap.size, 0, none⟩ (.int .i64 0)).setCell ⟨w.heap.size, 1, none⟩ (.int .i64 0)).setCell ⟨w.heap.size, 2, none⟩ (.int .i64 0)).setCell ⟨w.heap.size, 3, none⟩ (.int .i64 0)).setCell ⟨w.heap.size, 4, none⟩ (.int .i64 0)).setCell ⟨w.heap.size, 5, none⟩ (.int .i64 0)).setCell ⟨w.heap.size, 6, none⟩ (.int .i64 0)).setCell ⟨w.heap.size, 7, none⟩ (.int .i64 0)).setCell ⟨w.heap.size, 8, none⟩ (.int .i64 0)).setCell ⟨w.heap.size, 9, none⟩ (.int .i64 0)).setCell ⟨w.heap.size, 10, none⟩ (.slice none 0 0)) = w9 at *
    have d0 := Y.c 0 _ rfl
    have d1 := Y.c 1 _ rfl
    have d2 := Y.c 2 _ rfl
    have d3 := Y.c 3 _ rfl
    have d4 := Y.c 4 _ rfl
    have d5 := Y.c 5 _ rfl
    have d6 := Y.c 6 _ rfl
    have d7 := Y.c 7 _ rfl
    have d8 := Y.c 8 _ rfl
    have d9 := Y.c 9 _ rfl
    have d10 := Y.c 10 _ rfl
    exact bodyPost_ret (v := .tuple #[.agg #[.int .i64 0, .int .i64 0, .int .i64 0, .int .i64 0, .int .i64 0, .int .i64 0, .int .i64 0, .int .i64 0, .int .i64 0, .int .i64 0, .slice none 0 0], .bool false]) (by simp [results, Tryz.results18, go_sem, d0, d1, d2, d3, d4, d5, d6, d7, d8, d9, d10]) rfl ⟨Wd.zero, none, 0, false, rfl, fun h => (by cases h), fun _ => ⟨hno, rfl⟩, ⟨rfl, Or.inl ⟨rfl, rfl⟩⟩, BY⟩
  · have hi : ¬ (300 : Int) < (s.size : Int) := by omega
    by_cases h12 : (cutL 32 s.data.toList).length = 12
    · obtain ⟨a0, a1, a2, a3, a4, a5, a6, a7, a8, a9, a10, a11, hl⟩ := twelve h12
      rw [hl] at hP
      rw [h12] at hpc
      have hlH : Hid (cutL 32 s.data.toList = [a0, a1, a2, a3, a4, a5, a6, a7, a8, a9, a10, a11]) := hl
      rw [h12]
      clear hl hcl
      go_upto_region 5 with fail
      have b5 := balloc (.cells #[.int .i64 1, .int .i64 0, .int .i64 0, .int .i64 0, .int .i64 0, .int .i64 0, .int .i64 0, .int .i64 0, .int .i64 0, .int .i64 0, .slice none 0 0] 35) (Below.refl w1.heap.size w1)
      have y5 : (w1.alloc (.cells #[.int .i64 1, .int .i64 0, .int .i64 0, .int .i64 0, .int .i64 0, .int .i64 0, .int .i64 0, .int .i64 0, .int .i64 0, .int .i64 0, .slice none 0 0] 35)).heap[w1.heap.size]? = some (.cells #[.int .i64 1, .int .i64 0, .int .i64 0, .int .i64 0, .int .i64 0, .int .i64 0, .int .i64 0, .int .i64 0, .int .i64 0, .int .i64 0, .slice none 0 0] 35 (0, 0)) := heap_alloc_new _ _
      have R0 : Sr w (w1.alloc (.cells #[.int .i64 1, .int .i64 0, .int .i64 0, .int .i64 0, .int .i64 0, .int .i64 0, .int .i64 0, .int .i64 0, .int .i64 0, .int .i64 0, .slice none 0 0] 35)) w1.heap.size pb [a0, a1, a2, a3, a4, a5, a6, a7, a8, a9, a10, a11] [.int .i64 1, .int .i64 0, .int .i64 0, .int .i64 0, .int .i64 0, .int .i64 0, .int .i64 0, .int .i64 0, .int .i64 0, .int .i64 0, .slice none 0 0] := ⟨btrans B1 b5, X1.below b5, Ws.new y5, hP.below b5, X1.lt, hnp, by omega⟩
      clear b5 y5 X1 B1 hP hp2 hnp
      generalize w1.alloc (.cells #[.int .i64 1, .int .i64 0, .int .i64 0, .int .i64 0, .int .i64 0, .int .i64 0, .int .i64 0, .int .i64 0, .int .i64 0, .int .i64 0, .slice none 0 0] 35) = u1 at *
      generalize w1.heap.size = b5 at *
      have q0 := R0.p.c 0 a0 rfl
      obtain ⟨t0, ht0⟩ : ∃ t0, Hid (bs a0 = t0) := ⟨_, rfl⟩
      obtain ⟨t1, ht1⟩ : ∃ t1, Hid (bs a1 = t1) := ⟨_, rfl⟩
      rw [ht0.out] at q0
      by_cases hpl : a0 = pool2
      · skip
        have hpm : mpool a0 = 2 := by unfold mpool; rw [if_pos hpl]
        have hpe : (t0.toList == [119, 97, 110]) = true := by rw [← ht0.out, hpl, ByteArray.toList_eq]; rfl
        have d := R0.x5.c 0 _ rfl
        have z := R0.x5.z 0
        have R1 := R0.set 0 (by simp) (.int .i64 2)
        go_wp2
        clear q0 hpe hpl
        go_loopw [6] (fun i wr => ∃ k : Nat, i = .int .i64 ((k : Int) + 1) ∧ k ≤ 6 ∧ Sr w wr b5 pb [a0, a1, a2, a3, a4, a5, a6, a7, a8, a9, a10, a11] [.int .i64 2, .int .i64 (kst a1 k), .int .i64 0, .int .i64 0, .int .i64 0, .int .i64 0, .int .i64 0, .int .i64 0, .int .i64 0, .int .i64 0, .slice none 0 0]) (fun i _ => 7 - (intOf i).toNat)
        case atStart => exact ⟨0, rfl, by omega, R1⟩
        case round =>
          obtain ⟨k, rfl, hk, R2⟩ := hrel
          clear R1
          have q1 := R2.p.c 1 a1 rfl
          rw [ht1.out] at q1
          by_cases hlt : k < 6
          · have hk0 : (1 : Int) ≤ (k : Int) + 1 := by omega
            have hk1 : (k : Int) + 1 ≤ 6 := by omega
            have hws : Hid (kst a1 (k + 1) = if kindL ((k : Int) + 1) = a1 then (k : Int) + 1 else kst a1 k) := rfl
            obtain ⟨x, hx⟩ : ∃ x, Hid (bs (kindL ((k : Int) + 1)) = x) := ⟨_, rfl⟩
            by_cases he : kindL ((k : Int) + 1) = a1
            · have hxe : (x.toList == t1.toList) = true := by
                rw [← hx.out, he, ht1.out]
                simp
              have hws1 : Hid (kst a1 (k + 1) = (k : Int) + 1) := by unfold Hid; rw [hws.out, if_pos he]
              clear hws he
              go_upto_region 10 with fail
              refine wp_region_held_drew (S := fun w' => w'.cell? ⟨pb, 1, none⟩ = some (.string t1)) (by kernel_rfl) ?_ (fun hHeld => ?_)
              · (try dsimp only); ((repeat (first | with_reducible assumption | with_reducible refine keep_drew ?_ | with_reducible refine keep_below (by assumption) ?_)))
              refine tl (i := 0) (oi := { dst := some 34, op := .move (.tmp 6), type := 3, pos := "l4_word.go:130", after := #[], guard := none }) ?_
              (try simp only [pq])
              refine tl (i := 2) (oi := { dst := some 36, op := .move (.tmp 4), type := 48, pos := "l4_word.go:130", after := #[], guard := none }) ?_
              (try simp only [pq])
              refine tl (i := 3) (oi := { dst := some 37, op := .indexAddr 48 (.tmp 36) (.const (.int .i64 1)), type := 0, pos := "l4_word.go:130", after := #[{ on := 2, ground := .data }], guard := none }) ?_
              (try simp only [pq])
              refine tl (i := 4) (oi := { dst := some 38, op := .load 9 (.tmp 37), type := 9, pos := "l4_word.go:130", after := #[{ on := 3, ground := .data }], guard := none }) ?_
              (try simp only [pq])
              refine wpAnyH_ready (rs := [1]) (by kernel_rfl) (by simp) ?_
              refine AllReadyH.cons (o := { dst := some 35, op := .call { callee := .value (.func 45), args := #[.tmp 34], argTypes := #[3] }, type := 9, pos := "l4_word.go:130", after := #[{ on := 0, ground := .data }], guard := none }) rfl (fun K hK => ?_) AllReadyH.nil
              go_simp
              refine (lkind_lit ((k : Int) + 1) x hk0 hk1 hx.out _).mono ?_; rintro e w7 ⟨rfl, b7⟩
              go_wp2_with fail
              refine hK.out _ _ ?_ (fun hHeld => ?_)
              · (try dsimp only); ((repeat (first | with_reducible assumption | with_reducible refine keep_drew ?_ | with_reducible refine keep_below (by assumption) ?_)))
              clear hK K
              (try simp only [pq])
              refine tl (i := 5) (oi := { dst := some 39, op := .binOp .eql 9 (.tmp 35) (.tmp 38) 9, type := 4, pos := "l4_word.go:130", after := #[{ on := 1, ground := .data }, { on := 4, ground := .data }], guard := none }) ?_
              (try simp only [pq])
              refine wpAnyH_done (by kernel_rfl) ?_ _
              clear hHeld
              have R3 := R2.below (btrans (qd (Below.refl _ _)) b7)
              clear R2 b7 q1
              have d := R3.x5.c 1 _ rfl
              have z := R3.x5.z 1
              have R4 := R3.set 1 (by simp) (.int .i64 ((k : Int) + 1))
              go_wp2
              clear d z R3
              generalize w7.setCell ⟨b5, 1, none⟩ (.int .i64 ((k : Int) + 1)) = w8 at *
              go_roundw
              case rel => exact ⟨k + 1, by go_num, by omega, by rw [hws1.out]; exact R4⟩
              case measure => simp [intOf]; omega
            · have hxe : (x.toList == t1.toList) = false := by
                rw [Lib.bytes_beq_false_iff, ← hx.out, ← ht1.out]
                intro e
                exact he (by have := congrArg (fun z => z.data.toList) e; simpa using this)
              have hws1 : Hid (kst a1 (k + 1) = kst a1 k) := by unfold Hid; rw [hws.out, if_neg he]
              clear hws he
              go_upto_region 10 with fail
              refine wp_region_held_drew (S := fun w' => w'.cell? ⟨pb, 1, none⟩ = some (.string t1)) (by kernel_rfl) ?_ (fun hHeld => ?_)
              · (try dsimp only); ((repeat (first | with_reducible assumption | with_reducible refine keep_drew ?_ | with_reducible refine keep_below (by assumption) ?_)))
              refine tl (i := 0) (oi := { dst := some 34, op := .move (.tmp 6), type := 3, pos := "l4_word.go:130", after := #[], guard := none }) ?_
              (try simp only [pq])
              refine tl (i := 2) (oi := { dst := some 36, op := .move (.tmp 4), type := 48, pos := "l4_word.go:130", after := #[], guard := none }) ?_
              (try simp only [pq])
              refine tl (i := 3) (oi := { dst := some 37, op := .indexAddr 48 (.tmp 36) (.const (.int .i64 1)), type := 0, pos := "l4_word.go:130", after := #[{ on := 2, ground := .data }], guard := none }) ?_
              (try simp only [pq])
              refine tl (i := 4) (oi := { dst := some 38, op := .load 9 (.tmp 37), type := 9, pos := "l4_word.go:130", after := #[{ on := 3, ground := .data }], guard := none }) ?_
              (try simp only [pq])
              refine wpAnyH_ready (rs := [1]) (by kernel_rfl) (by simp) ?_
              refine AllReadyH.cons (o := { dst := some 35, op := .call { callee := .value (.func 45), args := #[.tmp 34], argTypes := #[3] }, type := 9, pos := "l4_word.go:130", after := #[{ on := 0, ground := .data }], guard := none }) rfl (fun K hK => ?_) AllReadyH.nil
              go_simp
              refine (lkind_lit ((k : Int) + 1) x hk0 hk1 hx.out _).mono ?_; rintro e w7 ⟨rfl, b7⟩
              go_wp2_with fail
              refine hK.out _ _ ?_ (fun hHeld => ?_)
              · (try dsimp only); ((repeat (first | with_reducible assumption | with_reducible refine keep_drew ?_ | with_reducible refine keep_below (by assumption) ?_)))
              clear hK K
              (try simp only [pq])
              refine tl (i := 5) (oi := { dst := some 39, op := .binOp .eql 9 (.tmp 35) (.tmp 38) 9, type := 4, pos := "l4_word.go:130", after := #[{ on := 1, ground := .data }, { on := 4, ground := .data }], guard := none }) ?_
              (try simp only [pq])
              refine wpAnyH_done (by kernel_rfl) ?_ _
              clear hHeld
              have R3 := R2.below (btrans (qd (Below.refl _ _)) b7)
              clear R2 b7 q1
              go_wp2
              go_roundw
              case rel => exact ⟨k + 1, by go_num, by omega, by rw [hws1.out]; exact R3⟩
              case measure => simp [intOf]; omega
          · obtain rfl : k = 6 := by omega
            obtain ⟨kk, hkk⟩ : ∃ kk, Hid (kst a1 6 = kk) := ⟨_, rfl⟩
            rw [hkk.out] at R2
            clear q1 hlt hk
            have hsz : ∀ a ∈ [a0, a1, a2, a3, a4, a5, a6, a7, a8, a9, a10, a11], (bs a).size ≤ 1048576 := fun a ha => by
              rw [← hlH.out] at ha
              have := cutL_mem 32 _ a ha
              show a.length ≤ _
              omega
            have hs2 := hsz a2 (by simp)
            obtain ⟨t2, ht2⟩ : ∃ t2, Hid (bs a2 = t2) := ⟨_, rfl⟩
            rw [ht2.out] at hs2
            have hs3 := hsz a3 (by simp)
            obtain ⟨t3, ht3⟩ : ∃ t3, Hid (bs a3 = t3) := ⟨_, rfl⟩
            rw [ht3.out] at hs3
            have hs4 := hsz a4 (by simp)
            obtain ⟨t4, ht4⟩ : ∃ t4, Hid (bs a4 = t4) := ⟨_, rfl⟩
            rw [ht4.out] at hs4
            have hs5 := hsz a5 (by simp)
            obtain ⟨t5, ht5⟩ : ∃ t5, Hid (bs a5 = t5) := ⟨_, rfl⟩
            rw [ht5.out] at hs5
            have hs6 := hsz a6 (by simp)
            obtain ⟨t6, ht6⟩ : ∃ t6, Hid (bs a6 = t6) := ⟨_, rfl⟩
            rw [ht6.out] at hs6
            have hs7 := hsz a7 (by simp)
            obtain ⟨t7, ht7⟩ : ∃ t7, Hid (bs a7 = t7) := ⟨_, rfl⟩
            rw [ht7.out] at hs7
            have hs8 := hsz a8 (by simp)
            obtain ⟨t8, ht8⟩ : ∃ t8, Hid (bs a8 = t8) := ⟨_, rfl⟩
            rw [ht8.out] at hs8
            have hs9 := hsz a9 (by simp)
            obtain ⟨t9, ht9⟩ : ∃ t9, Hid (bs a9 = t9) := ⟨_, rfl⟩
            rw [ht9.out] at hs9
            have hs10 := hsz a10 (by simp)
            obtain ⟨t10, ht10⟩ : ∃ t10, Hid (bs a10 = t10) := ⟨_, rfl⟩
            rw [ht10.out] at hs10
            obtain ⟨n2, hn2⟩ : ∃ n2, Hid (mnum a2 = n2) := ⟨_, rfl⟩
            obtain ⟨n3, hn3⟩ : ∃ n3, Hid (mnum a3 = n3) := ⟨_, rfl⟩
            obtain ⟨n4, hn4⟩ : ∃ n4, Hid (mnum a4 = n4) := ⟨_, rfl⟩
            obtain ⟨n5, hn5⟩ : ∃ n5, Hid (mnum a5 = n5) := ⟨_, rfl⟩
            obtain ⟨n8, hn8⟩ : ∃ n8, Hid (mnum a8 = n8) := ⟨_, rfl⟩
            obtain ⟨n9, hn9⟩ : ∃ n9, Hid (mnum a9 = n9) := ⟨_, rfl⟩
            obtain ⟨n6, hn6⟩ : ∃ n6, Hid ((msg a6).1 = n6) := ⟨_, rfl⟩
            obtain ⟨f6, hf6⟩ : ∃ f6, Hid ((msg a6).2 = f6) := ⟨_, rfl⟩
            obtain ⟨n7, hn7⟩ : ∃ n7, Hid ((msg a7).1 = n7) := ⟨_, rfl⟩
            obtain ⟨f7, hf7⟩ : ∃ f7, Hid ((msg a7).2 = f7) := ⟨_, rfl⟩
            clear hsz
            go_upto_region 12 with fail
            have q := R2.p.c 2 a2 rfl
            rw [ht2.out] at q
            go_wp2_with fail
            refine (snum_l a2 t2 n2 ht2.out hn2.out hs2 _).mono ?_
            rintro e w12 ⟨rfl, c12⟩
            have Ra := R2.below c12
            have d := Ra.x5.c 2 _ rfl
            have z := Ra.x5.z 2
            have R12 := Ra.set 2 (by simp) (.int .i64 n2)
            go_upto_region 13 with fail
            clear q d z Ra R2 c12
            generalize w12.setCell ⟨b5, 2, none⟩ (.int .i64 n2) = u12 at *
            clear w12
            have q := R12.p.c 3 a3 rfl
            rw [ht3.out] at q
            go_wp2_with fail
            refine (snum_l a3 t3 n3 ht3.out hn3.out hs3 _).mono ?_
            rintro e w13 ⟨rfl, c13⟩
            have Ra := R12.below c13
            have d := Ra.x5.c 3 _ rfl
            have z := Ra.x5.z 3
            have R13 := Ra.set 3 (by simp) (.int .i64 n3)
            go_upto_region 14 with fail
            clear q d z Ra R12 c13
            generalize w13.setCell ⟨b5, 3, none⟩ (.int .i64 n3) = u13 at *
            clear w13
            have q := R13.p.c 4 a4 rfl
            rw [ht4.out] at q
            go_wp2_with fail
            refine (snum_l a4 t4 n4 ht4.out hn4.out hs4 _).mono ?_
            rintro e w14 ⟨rfl, c14⟩
            have Ra := R13.below c14
            have d := Ra.x5.c 4 _ rfl
            have z := Ra.x5.z 4
            have R14 := Ra.set 4 (by simp) (.int .i64 n4)
            go_upto_region 15 with fail
            clear q d z Ra R13 c14
            generalize w14.setCell ⟨b5, 4, none⟩ (.int .i64 n4) = u14 at *
            clear w14
            have q := R14.p.c 5 a5 rfl
            rw [ht5.out] at q
            go_wp2_with fail
            refine (snum_l a5 t5 n5 ht5.out hn5.out hs5 _).mono ?_
            rintro e w15 ⟨rfl, c15⟩
            have Ra := R14.below c15
            have d := Ra.x5.c 5 _ rfl
            have z := Ra.x5.z 5
            have R15 := Ra.set 5 (by simp) (.int .i64 n5)
            go_upto_region 16 with fail
            clear q d z Ra R14 c15
            generalize w15.setCell ⟨b5, 5, none⟩ (.int .i64 n5) = u15 at *
            clear w15
            have q := R15.p.c 6 a6 rfl
            rw [ht6.out] at q
            go_wp2_with fail
            refine (sgnr_l a6 t6 n6 f6 ht6.out hn6.out hf6.out hs6 _).mono ?_
            rintro e w16 ⟨rfl, c16⟩
            have R16 := R15.below c16
            go_upto_region 17 with fail
            clear q R15 c16
            have q := R16.p.c 7 a7 rfl
            rw [ht7.out] at q
            go_wp2_with fail
            refine (sgnr_l a7 t7 n7 f7 ht7.out hn7.out hf7.out hs7 _).mono ?_
            rintro e w17 ⟨rfl, c17⟩
            have R17 := R16.below c17
            go_upto_region 18 with fail
            clear q R16 c17
            have q := R17.p.c 10 a10 rfl
            rw [ht10.out] at q
            go_wp2_with fail
            refine (sparse_l a10 t10 ht10.out hs10 _).mono ?_
            rintro e w18 ⟨v, T, fc, rfl, ho, hno', hTl, hmt, c18⟩
            change mt a10 = _ at hmt
            have hub := R17.x5.lt
            obtain ⟨ad, cp, rfl, -, -, -⟩ := own_facts ho
            have R18 := R17.below c18
            have hwb := R17.b.size
            have hub2 := R17.x2.lt
            generalize hubs : w17.heap.size = ub at *
            go_upto_region 19 with fail
            clear q R17 c18 hubs
            have q8 := R18.p.c 8 a8 rfl
            rw [ht8.out] at q8
            have q9 := R18.p.c 9 a9 rfl
            rw [ht9.out] at q9
            refine wp_region_held_drew (S := fun w' => w'.cell? ⟨pb, 8, none⟩ = some (.string t8) ∧ w'.cell? ⟨pb, 9, none⟩ = some (.string t9)) (by kernel_rfl) ?_ (fun hHeld => ?_)
            · (try dsimp only); (refine ⟨?_, ?_⟩ <;> (repeat (first | with_reducible assumption | with_reducible refine keep_drew ?_ | with_reducible refine keep_below (by assumption) ?_)))
            refine tl (i := 0) (oi := { dst := some 83, op := .move (.tmp 7), type := 3, pos := "l4_word.go:141", after := #[], guard := none }) ?_
            (try simp only [pq])
            refine tl (i := 1) (oi := { dst := some 84, op := .move (.tmp 9), type := 3, pos := "l4_word.go:141", after := #[], guard := none }) ?_
            (try simp only [pq])
            refine tl (i := 2) (oi := { dst := some 85, op := .move (.tmp 4), type := 48, pos := "l4_word.go:141", after := #[], guard := none }) ?_
            (try simp only [pq])
            refine tl (i := 3) (oi := { dst := some 86, op := .indexAddr 48 (.tmp 85) (.const (.int .i64 8)), type := 0, pos := "l4_word.go:141", after := #[{ on := 2, ground := .data }], guard := none }) ?_
            (try simp only [pq])
            refine tl (i := 4) (oi := { dst := some 87, op := .load 9 (.tmp 86), type := 9, pos := "l4_word.go:141", after := #[{ on := 3, ground := .data }], guard := none }) ?_
            (try simp only [pq])
            refine tl (i := 6) (oi := { dst := some 89, op := .move (.tmp 4), type := 48, pos := "l4_word.go:141", after := #[], guard := none }) ?_
            (try simp only [pq])
            refine tl (i := 7) (oi := { dst := some 90, op := .indexAddr 48 (.tmp 89) (.const (.int .i64 9)), type := 0, pos := "l4_word.go:141", after := #[{ on := 6, ground := .data }], guard := none }) ?_
            (try simp only [pq])
            refine tl (i := 8) (oi := { dst := some 91, op := .load 9 (.tmp 90), type := 9, pos := "l4_word.go:141", after := #[{ on := 7, ground := .data }], guard := none }) ?_
            (try simp only [pq])
            refine wpAnyH_ready (rs := [5]) (by kernel_rfl) (by simp) ?_
            refine AllReadyH.cons (o := { dst := some 88, op := .call { callee := .value (.func 46), args := #[.tmp 87], argTypes := #[9] }, type := 3, pos := "l4_word.go:141", after := #[{ on := 4, ground := .data }], guard := none }) rfl (fun K hK => ?_) AllReadyH.nil
            go_simp
            refine (snum_l a8 t8 n8 ht8.out hn8.out hs8 _).mono ?_; rintro e o1 ⟨rfl, e1⟩
            go_wp2_with fail
            refine hK.out _ _ ?_ (fun hHeld => ?_)
            · (try dsimp only); (refine ⟨?_, ?_⟩ <;> (repeat (first | with_reducible assumption | with_reducible refine keep_drew ?_ | with_reducible refine keep_below (by assumption) ?_)))
            clear hK K
            (try simp only [pq])
            refine wpAnyH_ready (rs := [9]) (by kernel_rfl) (by simp) ?_
            refine AllReadyH.cons (o := { dst := some 92, op := .call { callee := .value (.func 46), args := #[.tmp 91], argTypes := #[9] }, type := 3, pos := "l4_word.go:141", after := #[{ on := 8, ground := .data }, { on := 5, ground := .chain }], guard := none }) rfl (fun K hK => ?_) AllReadyH.nil
            go_simp
            refine (snum_l a9 t9 n9 ht9.out hn9.out hs9 _).mono ?_; rintro e o2 ⟨rfl, e2⟩
            go_wp2_with fail
            refine hK.out _ _ ?_ (fun hHeld => ?_)
            · (try dsimp only); (refine ⟨?_, ?_⟩ <;> (repeat (first | with_reducible assumption | with_reducible refine keep_drew ?_ | with_reducible refine keep_below (by assumption) ?_)))
            clear hK K
            (try simp only [pq])
            refine tl (i := 10) (oi := { dst := some 93, op := .build 33 #[(0, .tmp 83), (1, .tmp 84), (2, .tmp 88), (3, .tmp 92)], type := 33, pos := "l4_word.go:141", after := #[{ on := 0, ground := .data }, { on := 1, ground := .data }, { on := 5, ground := .data }, { on := 9, ground := .data }], guard := none }) ?_
            (try simp only [pq])
            refine tl (i := 11) (oi := { dst := some 94, op := .fieldAddr 35 (.tmp 5) 6, type := 0, pos := "l4_word.go:141", after := #[{ on := 0, ground := .phase }, { on := 1, ground := .phase }, { on := 2, ground := .phase }, { on := 3, ground := .phase }, { on := 4, ground := .phase }, { on := 5, ground := .phase }, { on := 6, ground := .phase }, { on := 7, ground := .phase }, { on := 8, ground := .phase }, { on := 9, ground := .phase }, { on := 10, ground := .phase }], guard := none }) ?_
            (try simp only [pq])
            have BE : Below w18.heap.size w18 o2 := btrans (btrans (qd (Below.refl _ _)) e1) e2
            have Ra := R18.below BE
            have hoa := own_below ho BE
            have d6 := Ra.x5.c 6 _ rfl
            have d7 := Ra.x5.c 7 _ rfl
            have d8 := Ra.x5.c 8 _ rfl
            have d9 := Ra.x5.c 9 _ rfl
            have z6 := Ra.x5.z 6
            have z7 := Ra.x5.z 7
            have z8 := Ra.x5.z 8
            have z9 := Ra.x5.z 9
            have R19 := ((((Ra.set 6 (by simp) (.int .i64 n6)).set 7 (by simp) (.int .i64 n7)).set 8 (by simp) (.int .i64 n8)).set 9 (by simp) (.int .i64 n9))
            have hob := (own_set (b := b5) (k := 9) (.int .i64 n9) (own_set (b := b5) (k := 8) (.int .i64 n8) (own_set (b := b5) (k := 7) (.int .i64 n7) (own_set (b := b5) (k := 6) (.int .i64 n6) hoa hub) hub) hub) hub)
            refine wpAnyH_ready (rs := [12]) (by kernel_rfl) (by simp) ?_
            refine AllReadyH.cons (o := { dst := none, op := .store 33 (.tmp 94) (.tmp 93), type := 0, pos := "l4_word.go:141", after := #[{ on := 11, ground := .data }, { on := 10, ground := .data }, { on := 9, ground := .chain }, { on := 0, ground := .phase }, { on := 1, ground := .phase }, { on := 2, ground := .phase }, { on := 3, ground := .phase }, { on := 4, ground := .phase }, { on := 5, ground := .phase }, { on := 6, ground := .phase }, { on := 7, ground := .phase }, { on := 8, ground := .phase }, { on := 9, ground := .phase }, { on := 10, ground := .phase }], guard := none }) rfl (fun K hK => ?_) AllReadyH.nil
            go_simp
            generalize ((((o2.setCell ⟨b5, 6, none⟩ (.int .i64 n6)).setCell ⟨b5, 7, none⟩ (.int .i64 n7)).setCell ⟨b5, 8, none⟩ (.int .i64 n8)).setCell ⟨b5, 9, none⟩ (.int .i64 n9)) = u19 at *
            refine hK.out _ _ ?_ (fun hHeld => ?_)
            · (try dsimp only); exact ⟨by have := R19.p.c 8 a8 rfl; rwa [ht8.out] at this, by have := R19.p.c 9 a9 rfl; rwa [ht9.out] at this⟩
            clear hK K hHeld
            (try simp only [pq])
            refine wpAnyH_done (by kernel_rfl) ?_ _
            clear d6 d7 d8 d9 z6 z7 z8 z9 q8 q9 hoa ho Ra R18 BE e1 e2
            have d := R19.x5.c 10 _ rfl
            have z := R19.x5.z 10
            have R20 := R19.set 10 (by simp) (.slice ad T.length cp)
            have ho20 := own_set (b := b5) (k := 10) (.slice ad T.length cp) hob hub
            go_upto_region 21 with fail
            clear d z R19 hob
            generalize u19.setCell ⟨b5, 10, none⟩ (.slice ad T.length cp) = u20 at *
            clear u19
            have hW : Hid (mdW a0 a1 a2 a3 a4 a5 a6 a7 a8 a9 T = ⟨2, kk, n2, n3, n4, n5, n6, n7, n8, n9, T⟩) := by
              unfold Hid mdW
              rw [hpm, hkk.out, hn2.out, hn3.out, hn4.out, hn5.out, hn6.out, hn7.out, hn8.out, hn9.out]
            cases f6
            · skip
              have hno := md_no hlH.out hmt (fun h => by rw [hf6.out] at h; exact absurd h.1 (by simp))
              have Y : Ws _ w.heap.size zW := (((((((((((R20.x2.set 0 (by simp [zW]) (.int .i64 0)).set 1 (by simp [zW]) (.int .i64 0)).set 2 (by simp [zW]) (.int .i64 0)).set 3 (by simp [zW]) (.int .i64 0)).set 4 (by simp [zW]) (.int .i64 0)).set 5 (by simp [zW]) (.int .i64 0)).set 6 (by simp [zW]) (.int .i64 0)).set 7 (by simp [zW]) (.int .i64 0)).set 8 (by simp [zW]) (.int .i64 0)).set 9 (by simp [zW]) (.int .i64 0)).set 10 (by simp [zW]) (.slice none 0 0))
              have BY := (((((((((((R20.b.setCell (p := ⟨w.heap.size, 0, none⟩) (Nat.le_refl _) (.int .i64 0)).setCell (p := ⟨w.heap.size, 1, none⟩) (Nat.le_refl _) (.int .i64 0)).setCell (p := ⟨w.heap.size, 2, none⟩) (Nat.le_refl _) (.int .i64 0)).setCell (p := ⟨w.heap.size, 3, none⟩) (Nat.le_refl _) (.int .i64 0)).setCell (p := ⟨w.heap.size, 4, none⟩) (Nat.le_refl _) (.int .i64 0)).setCell (p := ⟨w.heap.size, 5, none⟩) (Nat.le_refl _) (.int .i64 0)).setCell (p := ⟨w.heap.size, 6, none⟩) (Nat.le_refl _) (.int .i64 0)).setCell (p := ⟨w.heap.size, 7, none⟩) (Nat.le_refl _) (.int .i64 0)).setCell (p := ⟨w.heap.size, 8, none⟩) (Nat.le_refl _) (.int .i64 0)).setCell (p := ⟨w.heap.size, 9, none⟩) (Nat.le_refl _) (.int .i64 0)).setCell (p := ⟨w.heap.size, 10, none⟩) (Nat.le_refl _) (.slice none 0 0))
              have d0 := R20.x2.c 0 _ rfl
              have z0 := R20.x2.z 0
              have d1 := R20.x2.c 1 _ rfl
              have z1 := R20.x2.z 1
              have d2 := R20.x2.c 2 _ rfl
              have z2 := R20.x2.z 2
              have d3 := R20.x2.c 3 _ rfl
              have z3 := R20.x2.z 3
              have d4 := R20.x2.c 4 _ rfl
              have z4 := R20.x2.z 4
              have d5 := R20.x2.c 5 _ rfl
              have z5 := R20.x2.z 5
              have d6 := R20.x2.c 6 _ rfl
              have z6 := R20.x2.z 6
              have d7 := R20.x2.c 7 _ rfl
              have z7 := R20.x2.z 7
              have d8 := R20.x2.c 8 _ rfl
              have z8 := R20.x2.z 8
              have d9 := R20.x2.c 9 _ rfl
              have z9 := R20.x2.z 9
              have d10 := R20.x2.c 10 _ rfl
              have z10 := R20.x2.z 10
              go_wp2
              clear d0 d1 d2 d3 d4 d5 d6 d7 d8 d9 d10
              generalize (((((((((((u20.setCell ⟨w.heap.size, 0, none⟩ (.int .i64 0)).setCell ⟨w.heap.size, 1, none⟩ (.int .i64 0)).setCell ⟨w.heap.size, 2, none⟩ (.int .i64 0)).setCell ⟨w.heap.size, 3, none⟩ (.int .i64 0)).setCell ⟨w.heap.size, 4, none⟩ (.int .i64 0)).setCell ⟨w.heap.size, 5, none⟩ (.int .i64 0)).setCell ⟨w.heap.size, 6, none⟩ (.int .i64 0)).setCell ⟨w.heap.size, 7, none⟩ (.int .i64 0)).setCell ⟨w.heap.size, 8, none⟩ (.int .i64 0)).setCell ⟨w.heap.size, 9, none⟩ (.int .i64 0)).setCell ⟨w.heap.size, 10, none⟩ (.slice none 0 0)) = w9 at *
              have d0 := Y.c 0 _ rfl
              have d1 := Y.c 1 _ rfl
              have d2 := Y.c 2 _ rfl
              have d3 := Y.c 3 _ rfl
              have d4 := Y.c 4 _ rfl
              have d5 := Y.c 5 _ rfl
              have d6 := Y.c 6 _ rfl
              have d7 := Y.c 7 _ rfl
              have d8 := Y.c 8 _ rfl
              have d9 := Y.c 9 _ rfl
              have d10 := Y.c 10 _ rfl
              exact bodyPost_ret (v := .tuple #[.agg #[.int .i64 0, .int .i64 0, .int .i64 0, .int .i64 0, .int .i64 0, .int .i64 0, .int .i64 0, .int .i64 0, .int .i64 0, .int .i64 0, .slice none 0 0], .bool false]) (by simp [results, Tryz.results18, go_sem, d0, d1, d2, d3, d4, d5, d6, d7, d8, d9, d10]) rfl ⟨Wd.zero, none, 0, false, rfl, fun h => (by cases h), fun _ => ⟨hno, rfl⟩, ⟨rfl, Or.inl ⟨rfl, rfl⟩⟩, BY⟩
            · cases f7
              · skip
                have hno := md_no hlH.out hmt (fun h => by rw [hf7.out] at h; exact absurd h.2.1 (by simp))
                have Y : Ws _ w.heap.size zW := (((((((((((R20.x2.set 0 (by simp [zW]) (.int .i64 0)).set 1 (by simp [zW]) (.int .i64 0)).set 2 (by simp [zW]) (.int .i64 0)).set 3 (by simp [zW]) (.int .i64 0)).set 4 (by simp [zW]) (.int .i64 0)).set 5 (by simp [zW]) (.int .i64 0)).set 6 (by simp [zW]) (.int .i64 0)).set 7 (by simp [zW]) (.int .i64 0)).set 8 (by simp [zW]) (.int .i64 0)).set 9 (by simp [zW]) (.int .i64 0)).set 10 (by simp [zW]) (.slice none 0 0))
                have BY := (((((((((((R20.b.setCell (p := ⟨w.heap.size, 0, none⟩) (Nat.le_refl _) (.int .i64 0)).setCell (p := ⟨w.heap.size, 1, none⟩) (Nat.le_refl _) (.int .i64 0)).setCell (p := ⟨w.heap.size, 2, none⟩) (Nat.le_refl _) (.int .i64 0)).setCell (p := ⟨w.heap.size, 3, none⟩) (Nat.le_refl _) (.int .i64 0)).setCell (p := ⟨w.heap.size, 4, none⟩) (Nat.le_refl _) (.int .i64 0)).setCell (p := ⟨w.heap.size, 5, none⟩) (Nat.le_refl _) (.int .i64 0)).setCell (p := ⟨w.heap.size, 6, none⟩) (Nat.le_refl _) (.int .i64 0)).setCell (p := ⟨w.heap.size, 7, none⟩) (Nat.le_refl _) (.int .i64 0)).setCell (p := ⟨w.heap.size, 8, none⟩) (Nat.le_refl _) (.int .i64 0)).setCell (p := ⟨w.heap.size, 9, none⟩) (Nat.le_refl _) (.int .i64 0)).setCell (p := ⟨w.heap.size, 10, none⟩) (Nat.le_refl _) (.slice none 0 0))
                have d0 := R20.x2.c 0 _ rfl
                have z0 := R20.x2.z 0
                have d1 := R20.x2.c 1 _ rfl
                have z1 := R20.x2.z 1
                have d2 := R20.x2.c 2 _ rfl
                have z2 := R20.x2.z 2
                have d3 := R20.x2.c 3 _ rfl
                have z3 := R20.x2.z 3
                have d4 := R20.x2.c 4 _ rfl
                have z4 := R20.x2.z 4
                have d5 := R20.x2.c 5 _ rfl
                have z5 := R20.x2.z 5
                have d6 := R20.x2.c 6 _ rfl
                have z6 := R20.x2.z 6
                have d7 := R20.x2.c 7 _ rfl
                have z7 := R20.x2.z 7
                have d8 := R20.x2.c 8 _ rfl
                have z8 := R20.x2.z 8
                have d9 := R20.x2.c 9 _ rfl
                have z9 := R20.x2.z 9
                have d10 := R20.x2.c 10 _ rfl
                have z10 := R20.x2.z 10
                go_wp2
                clear d0 d1 d2 d3 d4 d5 d6 d7 d8 d9 d10
                generalize (((((((((((u20.setCell ⟨w.heap.size, 0, none⟩ (.int .i64 0)).setCell ⟨w.heap.size, 1, none⟩ (.int .i64 0)).setCell ⟨w.heap.size, 2, none⟩ (.int .i64 0)).setCell ⟨w.heap.size, 3, none⟩ (.int .i64 0)).setCell ⟨w.heap.size, 4, none⟩ (.int .i64 0)).setCell ⟨w.heap.size, 5, none⟩ (.int .i64 0)).setCell ⟨w.heap.size, 6, none⟩ (.int .i64 0)).setCell ⟨w.heap.size, 7, none⟩ (.int .i64 0)).setCell ⟨w.heap.size, 8, none⟩ (.int .i64 0)).setCell ⟨w.heap.size, 9, none⟩ (.int .i64 0)).setCell ⟨w.heap.size, 10, none⟩ (.slice none 0 0)) = w9 at *
                have d0 := Y.c 0 _ rfl
                have d1 := Y.c 1 _ rfl
                have d2 := Y.c 2 _ rfl
                have d3 := Y.c 3 _ rfl
                have d4 := Y.c 4 _ rfl
                have d5 := Y.c 5 _ rfl
                have d6 := Y.c 6 _ rfl
                have d7 := Y.c 7 _ rfl
                have d8 := Y.c 8 _ rfl
                have d9 := Y.c 9 _ rfl
                have d10 := Y.c 10 _ rfl
                exact bodyPost_ret (v := .tuple #[.agg #[.int .i64 0, .int .i64 0, .int .i64 0, .int .i64 0, .int .i64 0, .int .i64 0, .int .i64 0, .int .i64 0, .int .i64 0, .int .i64 0, .slice none 0 0], .bool false]) (by simp [results, Tryz.results18, go_sem, d0, d1, d2, d3, d4, d5, d6, d7, d8, d9, d10]) rfl ⟨Wd.zero, none, 0, false, rfl, fun h => (by cases h), fun _ => ⟨hno, rfl⟩, ⟨rfl, Or.inl ⟨rfl, rfl⟩⟩, BY⟩
              · cases fc
                · skip
                  have hno := md_no hlH.out hmt (fun h => absurd h.2.2.1 (by simp))
                  have Y : Ws _ w.heap.size zW := (((((((((((R20.x2.set 0 (by simp [zW]) (.int .i64 0)).set 1 (by simp [zW]) (.int .i64 0)).set 2 (by simp [zW]) (.int .i64 0)).set 3 (by simp [zW]) (.int .i64 0)).set 4 (by simp [zW]) (.int .i64 0)).set 5 (by simp [zW]) (.int .i64 0)).set 6 (by simp [zW]) (.int .i64 0)).set 7 (by simp [zW]) (.int .i64 0)).set 8 (by simp [zW]) (.int .i64 0)).set 9 (by simp [zW]) (.int .i64 0)).set 10 (by simp [zW]) (.slice none 0 0))
                  have BY := (((((((((((R20.b.setCell (p := ⟨w.heap.size, 0, none⟩) (Nat.le_refl _) (.int .i64 0)).setCell (p := ⟨w.heap.size, 1, none⟩) (Nat.le_refl _) (.int .i64 0)).setCell (p := ⟨w.heap.size, 2, none⟩) (Nat.le_refl _) (.int .i64 0)).setCell (p := ⟨w.heap.size, 3, none⟩) (Nat.le_refl _) (.int .i64 0)).setCell (p := ⟨w.heap.size, 4, none⟩) (Nat.le_refl _) (.int .i64 0)).setCell (p := ⟨w.heap.size, 5, none⟩) (Nat.le_refl _) (.int .i64 0)).setCell (p := ⟨w.heap.size, 6, none⟩) (Nat.le_refl _) (.int .i64 0)).setCell (p := ⟨w.heap.size, 7, none⟩) (Nat.le_refl _) (.int .i64 0)).setCell (p := ⟨w.heap.size, 8, none⟩) (Nat.le_refl _) (.int .i64 0)).setCell (p := ⟨w.heap.size, 9, none⟩) (Nat.le_refl _) (.int .i64 0)).setCell (p := ⟨w.heap.size, 10, none⟩) (Nat.le_refl _) (.slice none 0 0))
                  have d0 := R20.x2.c 0 _ rfl
                  have z0 := R20.x2.z 0
                  have d1 := R20.x2.c 1 _ rfl
                  have z1 := R20.x2.z 1
                  have d2 := R20.x2.c 2 _ rfl
                  have z2 := R20.x2.z 2
                  have d3 := R20.x2.c 3 _ rfl
                  have z3 := R20.x2.z 3
                  have d4 := R20.x2.c 4 _ rfl
                  have z4 := R20.x2.z 4
                  have d5 := R20.x2.c 5 _ rfl
                  have z5 := R20.x2.z 5
                  have d6 := R20.x2.c 6 _ rfl
                  have z6 := R20.x2.z 6
                  have d7 := R20.x2.c 7 _ rfl
                  have z7 := R20.x2.z 7
                  have d8 := R20.x2.c 8 _ rfl
                  have z8 := R20.x2.z 8
                  have d9 := R20.x2.c 9 _ rfl
                  have z9 := R20.x2.z 9
                  have d10 := R20.x2.c 10 _ rfl
                  have z10 := R20.x2.z 10
                  go_wp2
                  clear d0 d1 d2 d3 d4 d5 d6 d7 d8 d9 d10
                  generalize (((((((((((u20.setCell ⟨w.heap.size, 0, none⟩ (.int .i64 0)).setCell ⟨w.heap.size, 1, none⟩ (.int .i64 0)).setCell ⟨w.heap.size, 2, none⟩ (.int .i64 0)).setCell ⟨w.heap.size, 3, none⟩ (.int .i64 0)).setCell ⟨w.heap.size, 4, none⟩ (.int .i64 0)).setCell ⟨w.heap.size, 5, none⟩ (.int .i64 0)).setCell ⟨w.heap.size, 6, none⟩ (.int .i64 0)).setCell ⟨w.heap.size, 7, none⟩ (.int .i64 0)).setCell ⟨w.heap.size, 8, none⟩ (.int .i64 0)).setCell ⟨w.heap.size, 9, none⟩ (.int .i64 0)).setCell ⟨w.heap.size, 10, none⟩ (.slice none 0 0)) = w9 at *
                  have d0 := Y.c 0 _ rfl
                  have d1 := Y.c 1 _ rfl
                  have d2 := Y.c 2 _ rfl
                  have d3 := Y.c 3 _ rfl
                  have d4 := Y.c 4 _ rfl
                  have d5 := Y.c 5 _ rfl
                  have d6 := Y.c 6 _ rfl
                  have d7 := Y.c 7 _ rfl
                  have d8 := Y.c 8 _ rfl
                  have d9 := Y.c 9 _ rfl
                  have d10 := Y.c 10 _ rfl
                  exact bodyPost_ret (v := .tuple #[.agg #[.int .i64 0, .int .i64 0, .int .i64 0, .int .i64 0, .int .i64 0, .int .i64 0, .int .i64 0, .int .i64 0, .int .i64 0, .int .i64 0, .slice none 0 0], .bool false]) (by simp [results, Tryz.results18, go_sem, d0, d1, d2, d3, d4, d5, d6, d7, d8, d9, d10]) rfl ⟨Wd.zero, none, 0, false, rfl, fun h => (by cases h), fun _ => ⟨hno, rfl⟩, ⟨rfl, Or.inl ⟨rfl, rfl⟩⟩, BY⟩
                · have hFS : FSl u20 ad T.length (atF T) := by
                    obtain ⟨ad', cp', e0, -, -, hf⟩ := own_facts ho20
                    injection e0 with e0 _ _
                    subst e0
                    exact hf
                  have hLW := lwrite_any 2 kk n2 n3 n4 n5 n6 n7 n8 n9 ad T.length cp (atF T) u20 hFS hTl
                  have htx : Hid ((mdW a0 a1 a2 a3 a4 a5 a6 a7 a8 a9 T).tx = wtx 2 kk n2 n3 n4 n5 n6 n7 n8 n9 T.length (atF T)) := by unfold Hid; rw [hW.out]; rfl
                  generalize wtx 2 kk n2 n3 n4 n5 n6 n7 n8 n9 T.length (atF T) = X at *
                  have m0 := R20.x5.c 0 (.int .i64 2) rfl
                  have m1 := R20.x5.c 1 (.int .i64 kk) rfl
                  have m2 := R20.x5.c 2 (.int .i64 n2) rfl
                  have m3 := R20.x5.c 3 (.int .i64 n3) rfl
                  have m4 := R20.x5.c 4 (.int .i64 n4) rfl
                  have m5 := R20.x5.c 5 (.int .i64 n5) rfl
                  have m6 := R20.x5.c 6 (.int .i64 n6) rfl
                  have m7 := R20.x5.c 7 (.int .i64 n7) rfl
                  have m8 := R20.x5.c 8 (.int .i64 n8) rfl
                  have m9 := R20.x5.c 9 (.int .i64 n9) rfl
                  have m10 := R20.x5.c 10 (.slice ad T.length cp) rfl
                  by_cases hXs : X = s
                  · have hxe : (X.toList != s.toList) = false := by rw [hXs]; simp
                    obtain ⟨hok, hst⟩ := md_yes h12 (htx.out.trans hXs)
                    rw [hW.out] at hok hst
                    go_wp2_with fail
                    refine hLW.mono ?_
                    rintro e w21 ⟨rfl, c21⟩
                    have R21 := R20.below c21
                    have ho21 := own_below ho20 c21
                    clear hLW m0 m1 m2 m3 m4 m5 m6 m7 m8 m9 m10 R20 ho20 hFS c21
                    have m0 := R21.x5.c 0 (.int .i64 2) rfl
                    have d0 := R21.x2.c 0 _ rfl
                    have z0 := R21.x2.z 0
                    have m1 := R21.x5.c 1 (.int .i64 kk) rfl
                    have d1 := R21.x2.c 1 _ rfl
                    have z1 := R21.x2.z 1
                    have m2 := R21.x5.c 2 (.int .i64 n2) rfl
                    have d2 := R21.x2.c 2 _ rfl
                    have z2 := R21.x2.z 2
                    have m3 := R21.x5.c 3 (.int .i64 n3) rfl
                    have d3 := R21.x2.c 3 _ rfl
                    have z3 := R21.x2.z 3
                    have m4 := R21.x5.c 4 (.int .i64 n4) rfl
                    have d4 := R21.x2.c 4 _ rfl
                    have z4 := R21.x2.z 4
                    have m5 := R21.x5.c 5 (.int .i64 n5) rfl
                    have d5 := R21.x2.c 5 _ rfl
                    have z5 := R21.x2.z 5
                    have m6 := R21.x5.c 6 (.int .i64 n6) rfl
                    have d6 := R21.x2.c 6 _ rfl
                    have z6 := R21.x2.z 6
                    have m7 := R21.x5.c 7 (.int .i64 n7) rfl
                    have d7 := R21.x2.c 7 _ rfl
                    have z7 := R21.x2.z 7
                    have m8 := R21.x5.c 8 (.int .i64 n8) rfl
                    have d8 := R21.x2.c 8 _ rfl
                    have z8 := R21.x2.z 8
                    have m9 := R21.x5.c 9 (.int .i64 n9) rfl
                    have d9 := R21.x2.c 9 _ rfl
                    have z9 := R21.x2.z 9
                    have m10 := R21.x5.c 10 (.slice ad T.length cp) rfl
                    have d10 := R21.x2.c 10 _ rfl
                    have z10 := R21.x2.z 10
                    have Y : Ws _ w.heap.size [.int .i64 2, .int .i64 kk, .int .i64 n2, .int .i64 n3, .int .i64 n4, .int .i64 n5, .int .i64 n6, .int .i64 n7, .int .i64 n8, .int .i64 n9, .slice ad T.length cp] := (((((((((((R21.x2.set 0 (by simp [zW]) (.int .i64 2)).set 1 (by simp [zW]) (.int .i64 kk)).set 2 (by simp [zW]) (.int .i64 n2)).set 3 (by simp [zW]) (.int .i64 n3)).set 4 (by simp [zW]) (.int .i64 n4)).set 5 (by simp [zW]) (.int .i64 n5)).set 6 (by simp [zW]) (.int .i64 n6)).set 7 (by simp [zW]) (.int .i64 n7)).set 8 (by simp [zW]) (.int .i64 n8)).set 9 (by simp [zW]) (.int .i64 n9)).set 10 (by simp [zW]) (.slice ad T.length cp))
                    have BY := (((((((((((R21.b.setCell (p := ⟨w.heap.size, 0, none⟩) (Nat.le_refl _) (.int .i64 2)).setCell (p := ⟨w.heap.size, 1, none⟩) (Nat.le_refl _) (.int .i64 kk)).setCell (p := ⟨w.heap.size, 2, none⟩) (Nat.le_refl _) (.int .i64 n2)).setCell (p := ⟨w.heap.size, 3, none⟩) (Nat.le_refl _) (.int .i64 n3)).setCell (p := ⟨w.heap.size, 4, none⟩) (Nat.le_refl _) (.int .i64 n4)).setCell (p := ⟨w.heap.size, 5, none⟩) (Nat.le_refl _) (.int .i64 n5)).setCell (p := ⟨w.heap.size, 6, none⟩) (Nat.le_refl _) (.int .i64 n6)).setCell (p := ⟨w.heap.size, 7, none⟩) (Nat.le_refl _) (.int .i64 n7)).setCell (p := ⟨w.heap.size, 8, none⟩) (Nat.le_refl _) (.int .i64 n8)).setCell (p := ⟨w.heap.size, 9, none⟩) (Nat.le_refl _) (.int .i64 n9)).setCell (p := ⟨w.heap.size, 10, none⟩) (Nat.le_refl _) (.slice ad T.length cp))
                    have hoY := own_mono hwb (own_set (b := w.heap.size) (k := 10) (.slice ad T.length cp) (own_set (b := w.heap.size) (k := 9) (.int .i64 n9) (own_set (b := w.heap.size) (k := 8) (.int .i64 n8) (own_set (b := w.heap.size) (k := 7) (.int .i64 n7) (own_set (b := w.heap.size) (k := 6) (.int .i64 n6) (own_set (b := w.heap.size) (k := 5) (.int .i64 n5) (own_set (b := w.heap.size) (k := 4) (.int .i64 n4) (own_set (b := w.heap.size) (k := 3) (.int .i64 n3) (own_set (b := w.heap.size) (k := 2) (.int .i64 n2) (own_set (b := w.heap.size) (k := 1) (.int .i64 kk) (own_set (b := w.heap.size) (k := 0) (.int .i64 2) ho21 hub2) hub2) hub2) hub2) hub2) hub2) hub2) hub2) hub2) hub2) hub2)
                    go_wp2
                    clear d0 d1 d2 d3 d4 d5 d6 d7 d8 d9 d10
                    generalize (((((((((((w21.setCell ⟨w.heap.size, 0, none⟩ (.int .i64 2)).setCell ⟨w.heap.size, 1, none⟩ (.int .i64 kk)).setCell ⟨w.heap.size, 2, none⟩ (.int .i64 n2)).setCell ⟨w.heap.size, 3, none⟩ (.int .i64 n3)).setCell ⟨w.heap.size, 4, none⟩ (.int .i64 n4)).setCell ⟨w.heap.size, 5, none⟩ (.int .i64 n5)).setCell ⟨w.heap.size, 6, none⟩ (.int .i64 n6)).setCell ⟨w.heap.size, 7, none⟩ (.int .i64 n7)).setCell ⟨w.heap.size, 8, none⟩ (.int .i64 n8)).setCell ⟨w.heap.size, 9, none⟩ (.int .i64 n9)).setCell ⟨w.heap.size, 10, none⟩ (.slice ad T.length cp)) = w9 at *
                    have d0 := Y.c 0 (.int .i64 2) rfl
                    have d1 := Y.c 1 (.int .i64 kk) rfl
                    have d2 := Y.c 2 (.int .i64 n2) rfl
                    have d3 := Y.c 3 (.int .i64 n3) rfl
                    have d4 := Y.c 4 (.int .i64 n4) rfl
                    have d5 := Y.c 5 (.int .i64 n5) rfl
                    have d6 := Y.c 6 (.int .i64 n6) rfl
                    have d7 := Y.c 7 (.int .i64 n7) rfl
                    have d8 := Y.c 8 (.int .i64 n8) rfl
                    have d9 := Y.c 9 (.int .i64 n9) rfl
                    have d10 := Y.c 10 (.slice ad T.length cp) rfl
                    exact bodyPost_ret (v := .tuple #[.agg #[.int .i64 2, .int .i64 kk, .int .i64 n2, .int .i64 n3, .int .i64 n4, .int .i64 n5, .int .i64 n6, .int .i64 n7, .int .i64 n8, .int .i64 n9, .slice ad T.length cp], .bool true]) (by simp [results, Tryz.results18, go_sem, d0, d1, d2, d3, d4, d5, d6, d7, d8, d9, d10]) rfl ⟨⟨2, kk, n2, n3, n4, n5, n6, n7, n8, n9, T⟩, ad, cp, true, rfl, fun _ => ⟨hok, hst⟩, fun h => (by cases h), hoY, BY⟩
                  · have hxe : (X.toList != s.toList) = true := by
                      rw [bne, Bool.not_eq_true', Lib.bytes_beq_false_iff]
                      exact hXs
                    have hxb : (X.toList == s.toList) = false := (Lib.bytes_beq_false_iff X s).2 hXs
                    have hxn : ¬ X.toList = s.toList := beq_eq_false_iff_ne.1 hxb
                    have hno := md_no hlH.out hmt (fun h => hXs (htx.out.symm.trans h.2.2.2))
                    go_wp2_with fail
                    refine hLW.mono ?_
                    rintro e w21 ⟨rfl, c21⟩
                    have R21 := R20.below c21
                    clear hLW m0 m1 m2 m3 m4 m5 m6 m7 m8 m9 m10 R20 ho20 hFS c21
                    have Y : Ws _ w.heap.size zW := (((((((((((R21.x2.set 0 (by simp [zW]) (.int .i64 0)).set 1 (by simp [zW]) (.int .i64 0)).set 2 (by simp [zW]) (.int .i64 0)).set 3 (by simp [zW]) (.int .i64 0)).set 4 (by simp [zW]) (.int .i64 0)).set 5 (by simp [zW]) (.int .i64 0)).set 6 (by simp [zW]) (.int .i64 0)).set 7 (by simp [zW]) (.int .i64 0)).set 8 (by simp [zW]) (.int .i64 0)).set 9 (by simp [zW]) (.int .i64 0)).set 10 (by simp [zW]) (.slice none 0 0))
                    have BY := (((((((((((R21.b.setCell (p := ⟨w.heap.size, 0, none⟩) (Nat.le_refl _) (.int .i64 0)).setCell (p := ⟨w.heap.size, 1, none⟩) (Nat.le_refl _) (.int .i64 0)).setCell (p := ⟨w.heap.size, 2, none⟩) (Nat.le_refl _) (.int .i64 0)).setCell (p := ⟨w.heap.size, 3, none⟩) (Nat.le_refl _) (.int .i64 0)).setCell (p := ⟨w.heap.size, 4, none⟩) (Nat.le_refl _) (.int .i64 0)).setCell (p := ⟨w.heap.size, 5, none⟩) (Nat.le_refl _) (.int .i64 0)).setCell (p := ⟨w.heap.size, 6, none⟩) (Nat.le_refl _) (.int .i64 0)).setCell (p := ⟨w.heap.size, 7, none⟩) (Nat.le_refl _) (.int .i64 0)).setCell (p := ⟨w.heap.size, 8, none⟩) (Nat.le_refl _) (.int .i64 0)).setCell (p := ⟨w.heap.size, 9, none⟩) (Nat.le_refl _) (.int .i64 0)).setCell (p := ⟨w.heap.size, 10, none⟩) (Nat.le_refl _) (.slice none 0 0))
                    have d0 := R21.x2.c 0 _ rfl
                    have z0 := R21.x2.z 0
                    have d1 := R21.x2.c 1 _ rfl
                    have z1 := R21.x2.z 1
                    have d2 := R21.x2.c 2 _ rfl
                    have z2 := R21.x2.z 2
                    have d3 := R21.x2.c 3 _ rfl
                    have z3 := R21.x2.z 3
                    have d4 := R21.x2.c 4 _ rfl
                    have z4 := R21.x2.z 4
                    have d5 := R21.x2.c 5 _ rfl
                    have z5 := R21.x2.z 5
                    have d6 := R21.x2.c 6 _ rfl
                    have z6 := R21.x2.z 6
                    have d7 := R21.x2.c 7 _ rfl
                    have z7 := R21.x2.z 7
                    have d8 := R21.x2.c 8 _ rfl
                    have z8 := R21.x2.z 8
                    have d9 := R21.x2.c 9 _ rfl
                    have z9 := R21.x2.z 9
                    have d10 := R21.x2.c 10 _ rfl
                    have z10 := R21.x2.z 10
                    go_wp2
                    clear d0 d1 d2 d3 d4 d5 d6 d7 d8 d9 d10
                    generalize (((((((((((w21.setCell ⟨w.heap.size, 0, none⟩ (.int .i64 0)).setCell ⟨w.heap.size, 1, none⟩ (.int .i64 0)).setCell ⟨w.heap.size, 2, none⟩ (.int .i64 0)).setCell ⟨w.heap.size, 3, none⟩ (.int .i64 0)).setCell ⟨w.heap.size, 4, none⟩ (.int .i64 0)).setCell ⟨w.heap.size, 5, none⟩ (.int .i64 0)).setCell ⟨w.heap.size, 6, none⟩ (.int .i64 0)).setCell ⟨w.heap.size, 7, none⟩ (.int .i64 0)).setCell ⟨w.heap.size, 8, none⟩ (.int .i64 0)).setCell ⟨w.heap.size, 9, none⟩ (.int .i64 0)).setCell ⟨w.heap.size, 10, none⟩ (.slice none 0 0)) = w9 at *
                    have d0 := Y.c 0 _ rfl
                    have d1 := Y.c 1 _ rfl
                    have d2 := Y.c 2 _ rfl
                    have d3 := Y.c 3 _ rfl
                    have d4 := Y.c 4 _ rfl
                    have d5 := Y.c 5 _ rfl
                    have d6 := Y.c 6 _ rfl
                    have d7 := Y.c 7 _ rfl
                    have d8 := Y.c 8 _ rfl
                    have d9 := Y.c 9 _ rfl
                    have d10 := Y.c 10 _ rfl
                    exact bodyPost_ret (v := .tuple #[.agg #[.int .i64 0, .int .i64 0, .int .i64 0, .int .i64 0, .int .i64 0, .int .i64 0, .int .i64 0, .int .i64 0, .int .i64 0, .int .i64 0, .slice none 0 0], .bool false]) (by simp [results, Tryz.results18, go_sem, d0, d1, d2, d3, d4, d5, d6, d7, d8, d9, d10]) rfl ⟨Wd.zero, none, 0, false, rfl, fun h => (by cases h), fun _ => ⟨hno, rfl⟩, ⟨rfl, Or.inl ⟨rfl, rfl⟩⟩, BY⟩
      · skip
        have hpm : mpool a0 = 1 := by unfold mpool; rw [if_neg hpl]
        have hpe : (t0.toList == [119, 97, 110]) = false := by
          rw [beq_eq_false_iff_ne, ← ht0.out, ByteArray.toList_eq]
          exact fun e => hpl e
        have R1 := R0
        go_wp2
        clear q0 hpe hpl
        go_loopw [6] (fun i wr => ∃ k : Nat, i = .int .i64 ((k : Int) + 1) ∧ k ≤ 6 ∧ Sr w wr b5 pb [a0, a1, a2, a3, a4, a5, a6, a7, a8, a9, a10, a11] [.int .i64 1, .int .i64 (kst a1 k), .int .i64 0, .int .i64 0, .int .i64 0, .int .i64 0, .int .i64 0, .int .i64 0, .int .i64 0, .int .i64 0, .slice none 0 0]) (fun i _ => 7 - (intOf i).toNat)
        case atStart => exact ⟨0, rfl, by omega, R1⟩
        case round =>
          obtain ⟨k, rfl, hk, R2⟩ := hrel
          clear R1
          have q1 := R2.p.c 1 a1 rfl
          rw [ht1.out] at q1
          by_cases hlt : k < 6
          · have hk0 : (1 : Int) ≤ (k : Int) + 1 := by omega
            have hk1 : (k : Int) + 1 ≤ 6 := by omega
            have hws : Hid (kst a1 (k + 1) = if kindL ((k : Int) + 1) = a1 then (k : Int) + 1 else kst a1 k) := rfl
            obtain ⟨x, hx⟩ : ∃ x, Hid (bs (kindL ((k : Int) + 1)) = x) := ⟨_, rfl⟩
            by_cases he : kindL ((k : Int) + 1) = a1
            · have hxe : (x.toList == t1.toList) = true := by
                rw [← hx.out, he, ht1.out]
                simp
              have hws1 : Hid (kst a1 (k + 1) = (k : Int) + 1) := by unfold Hid; rw [hws.out, if_pos he]
              clear hws he
              go_upto_region 10 with fail
              refine wp_region_held_drew (S := fun w' => w'.cell? ⟨pb, 1, none⟩ = some (.string t1)) (by kernel_rfl) ?_ (fun hHeld => ?_)
              · (try dsimp only); ((repeat (first | with_reducible assumption | with_reducible refine keep_drew ?_ | with_reducible refine keep_below (by assumption) ?_)))
              refine tl (i := 0) (oi := { dst := some 34, op := .move (.tmp 6), type := 3, pos := "l4_word.go:130", after := #[], guard := none }) ?_
              (try simp only [pq])
              refine tl (i := 2) (oi := { dst := some 36, op := .move (.tmp 4), type := 48, pos := "l4_word.go:130", after := #[], guard := none }) ?_
              (try simp only [pq])
              refine tl (i := 3) (oi := { dst := some 37, op := .indexAddr 48 (.tmp 36) (.const (.int .i64 1)), type := 0, pos := "l4_word.go:130", after := #[{ on := 2, ground := .data }], guard := none }) ?_
              (try simp only [pq])
              refine tl (i := 4) (oi := { dst := some 38, op := .load 9 (.tmp 37), type := 9, pos := "l4_word.go:130", after := #[{ on := 3, ground := .data }], guard := none }) ?_
              (try simp only [pq])
              refine wpAnyH_ready (rs := [1]) (by kernel_rfl) (by simp) ?_
              refine AllReadyH.cons (o := { dst := some 35, op := .call { callee := .value (.func 45), args := #[.tmp 34], argTypes := #[3] }, type := 9, pos := "l4_word.go:130", after := #[{ on := 0, ground := .data }], guard := none }) rfl (fun K hK => ?_) AllReadyH.nil
              go_simp
              refine (lkind_lit ((k : Int) + 1) x hk0 hk1 hx.out _).mono ?_; rintro e w7 ⟨rfl, b7⟩
              go_wp2_with fail
              refine hK.out _ _ ?_ (fun hHeld => ?_)
              · (try dsimp only); ((repeat (first | with_reducible assumption | with_reducible refine keep_drew ?_ | with_reducible refine keep_below (by assumption) ?_)))
              clear hK K
              (try simp only [pq])
              refine tl (i := 5) (oi := { dst := some 39, op := .binOp .eql 9 (.tmp 35) (.tmp 38) 9, type := 4, pos := "l4_word.go:130", after := #[{ on := 1, ground := .data }, { on := 4, ground := .data }], guard := none }) ?_
              (try simp only [pq])
              refine wpAnyH_done (by kernel_rfl) ?_ _
              clear hHeld
              have R3 := R2.below (btrans (qd (Below.refl _ _)) b7)
              clear R2 b7 q1
              have d := R3.x5.c 1 _ rfl
              have z := R3.x5.z 1
              have R4 := R3.set 1 (by simp) (.int .i64 ((k : Int) + 1))
              go_wp2
              clear d z R3
              generalize w7.setCell ⟨b5, 1, none⟩ (.int .i64 ((k : Int) + 1)) = w8 at *
              go_roundw
              case rel => exact ⟨k + 1, by go_num, by omega, by rw [hws1.out]; exact R4⟩
              case measure => simp [intOf]; omega
            · have hxe : (x.toList == t1.toList) = false := by
                rw [Lib.bytes_beq_false_iff, ← hx.out, ← ht1.out]
                intro e
                exact he (by have := congrArg (fun z => z.data.toList) e; simpa using this)
              have hws1 : Hid (kst a1 (k + 1) = kst a1 k) := by unfold Hid; rw [hws.out, if_neg he]
              clear hws he
              go_upto_region 10 with fail
              refine wp_region_held_drew (S := fun w' => w'.cell? ⟨pb, 1, none⟩ = some (.string t1)) (by kernel_rfl) ?_ (fun hHeld => ?_)
              · (try dsimp only); ((repeat (first | with_reducible assumption | with_reducible refine keep_drew ?_ | with_reducible refine keep_below (by assumption) ?_)))
              refine tl (i := 0) (oi := { dst := some 34, op := .move (.tmp 6), type := 3, pos := "l4_word.go:130", after := #[], guard := none }) ?_
              (try simp only [pq])
              refine tl (i := 2) (oi := { dst := some 36, op := .move (.tmp 4), type := 48, pos := "l4_word.go:130", after := #[], guard := none }) ?_
              (try simp only [pq])
              refine tl (i := 3) (oi := { dst := some 37, op := .indexAddr 48 (.tmp 36) (.const (.int .i64 1)), type := 0, pos := "l4_word.go:130", after := #[{ on := 2, ground := .data }], guard := none }) ?_
              (try simp only [pq])
              refine tl (i := 4) (oi := { dst := some 38, op := .load 9 (.tmp 37), type := 9, pos := "l4_word.go:130", after := #[{ on := 3, ground := .data }], guard := none }) ?_
              (try simp only [pq])
              refine wpAnyH_ready (rs := [1]) (by kernel_rfl) (by simp) ?_
              refine AllReadyH.cons (o := { dst := some 35, op := .call { callee := .value (.func 45), args := #[.tmp 34], argTypes := #[3] }, type := 9, pos := "l4_word.go:130", after := #[{ on := 0, ground := .data }], guard := none }) rfl (fun K hK => ?_) AllReadyH.nil
              go_simp
              refine (lkind_lit ((k : Int) + 1) x hk0 hk1 hx.out _).mono ?_; rintro e w7 ⟨rfl, b7⟩
              go_wp2_with fail
              refine hK.out _ _ ?_ (fun hHeld => ?_)
              · (try dsimp only); ((repeat (first | with_reducible assumption | with_reducible refine keep_drew ?_ | with_reducible refine keep_below (by assumption) ?_)))
              clear hK K
              (try simp only [pq])
              refine tl (i := 5) (oi := { dst := some 39, op := .binOp .eql 9 (.tmp 35) (.tmp 38) 9, type := 4, pos := "l4_word.go:130", after := #[{ on := 1, ground := .data }, { on := 4, ground := .data }], guard := none }) ?_
              (try simp only [pq])
              refine wpAnyH_done (by kernel_rfl) ?_ _
              clear hHeld
              have R3 := R2.below (btrans (qd (Below.refl _ _)) b7)
              clear R2 b7 q1
              go_wp2
              go_roundw
              case rel => exact ⟨k + 1, by go_num, by omega, by rw [hws1.out]; exact R3⟩
              case measure => simp [intOf]; omega
          · obtain rfl : k = 6 := by omega
            obtain ⟨kk, hkk⟩ : ∃ kk, Hid (kst a1 6 = kk) := ⟨_, rfl⟩
            rw [hkk.out] at R2
            clear q1 hlt hk
            have hsz : ∀ a ∈ [a0, a1, a2, a3, a4, a5, a6, a7, a8, a9, a10, a11], (bs a).size ≤ 1048576 := fun a ha => by
              rw [← hlH.out] at ha
              have := cutL_mem 32 _ a ha
              show a.length ≤ _
              omega
            have hs2 := hsz a2 (by simp)
            obtain ⟨t2, ht2⟩ : ∃ t2, Hid (bs a2 = t2) := ⟨_, rfl⟩
            rw [ht2.out] at hs2
            have hs3 := hsz a3 (by simp)
            obtain ⟨t3, ht3⟩ : ∃ t3, Hid (bs a3 = t3) := ⟨_, rfl⟩
            rw [ht3.out] at hs3
            have hs4 := hsz a4 (by simp)
            obtain ⟨t4, ht4⟩ : ∃ t4, Hid (bs a4 = t4) := ⟨_, rfl⟩
            rw [ht4.out] at hs4
            have hs5 := hsz a5 (by simp)
            obtain ⟨t5, ht5⟩ : ∃ t5, Hid (bs a5 = t5) := ⟨_, rfl⟩
            rw [ht5.out] at hs5
            have hs6 := hsz a6 (by simp)
            obtain ⟨t6, ht6⟩ : ∃ t6, Hid (bs a6 = t6) := ⟨_, rfl⟩
            rw [ht6.out] at hs6
            have hs7 := hsz a7 (by simp)
            obtain ⟨t7, ht7⟩ : ∃ t7, Hid (bs a7 = t7) := ⟨_, rfl⟩
            rw [ht7.out] at hs7
            have hs8 := hsz a8 (by simp)
            obtain ⟨t8, ht8⟩ : ∃ t8, Hid (bs a8 = t8) := ⟨_, rfl⟩
            rw [ht8.out] at hs8
            have hs9 := hsz a9 (by simp)
            obtain ⟨t9, ht9⟩ : ∃ t9, Hid (bs a9 = t9) := ⟨_, rfl⟩
            rw [ht9.out] at hs9
            have hs10 := hsz a10 (by simp)
            obtain ⟨t10, ht10⟩ : ∃ t10, Hid (bs a10 = t10) := ⟨_, rfl⟩
            rw [ht10.out] at hs10
            obtain ⟨n2, hn2⟩ : ∃ n2, Hid (mnum a2 = n2) := ⟨_, rfl⟩
            obtain ⟨n3, hn3⟩ : ∃ n3, Hid (mnum a3 = n3) := ⟨_, rfl⟩
            obtain ⟨n4, hn4⟩ : ∃ n4, Hid (mnum a4 = n4) := ⟨_, rfl⟩
            obtain ⟨n5, hn5⟩ : ∃ n5, Hid (mnum a5 = n5) := ⟨_, rfl⟩
            obtain ⟨n8, hn8⟩ : ∃ n8, Hid (mnum a8 = n8) := ⟨_, rfl⟩
            obtain ⟨n9, hn9⟩ : ∃ n9, Hid (mnum a9 = n9) := ⟨_, rfl⟩
            obtain ⟨n6, hn6⟩ : ∃ n6, Hid ((msg a6).1 = n6) := ⟨_, rfl⟩
            obtain ⟨f6, hf6⟩ : ∃ f6, Hid ((msg a6).2 = f6) := ⟨_, rfl⟩
            obtain ⟨n7, hn7⟩ : ∃ n7, Hid ((msg a7).1 = n7) := ⟨_, rfl⟩
            obtain ⟨f7, hf7⟩ : ∃ f7, Hid ((msg a7).2 = f7) := ⟨_, rfl⟩
            clear hsz
            go_upto_region 12 with fail
            have q := R2.p.c 2 a2 rfl
            rw [ht2.out] at q
            go_wp2_with fail
            refine (snum_l a2 t2 n2 ht2.out hn2.out hs2 _).mono ?_
            rintro e w12 ⟨rfl, c12⟩
            have Ra := R2.below c12
            have d := Ra.x5.c 2 _ rfl
            have z := Ra.x5.z 2
            have R12 := Ra.set 2 (by simp) (.int .i64 n2)
            go_upto_region 13 with fail
            clear q d z Ra R2 c12
            generalize w12.setCell ⟨b5, 2, none⟩ (.int .i64 n2) = u12 at *
            clear w12
            have q := R12.p.c 3 a3 rfl
            rw [ht3.out] at q
            go_wp2_with fail
            refine (snum_l a3 t3 n3 ht3.out hn3.out hs3 _).mono ?_
            rintro e w13 ⟨rfl, c13⟩
            have Ra := R12.below c13
            have d := Ra.x5.c 3 _ rfl
            have z := Ra.x5.z 3
            have R13 := Ra.set 3 (by simp) (.int .i64 n3)
            go_upto_region 14 with fail
            clear q d z Ra R12 c13
            generalize w13.setCell ⟨b5, 3, none⟩ (.int .i64 n3) = u13 at *
            clear w13
            have q := R13.p.c 4 a4 rfl
            rw [ht4.out] at q
            go_wp2_with fail
            refine (snum_l a4 t4 n4 ht4.out hn4.out hs4 _).mono ?_
            rintro e w14 ⟨rfl, c14⟩
            have Ra := R13.below c14
            have d := Ra.x5.c 4 _ rfl
            have z := Ra.x5.z 4
            have R14 := Ra.set 4 (by simp) (.int .i64 n4)
            go_upto_region 15 with fail
            clear q d z Ra R13 c14
            generalize w14.setCell ⟨b5, 4, none⟩ (.int .i64 n4) = u14 at *
            clear w14
            have q := R14.p.c 5 a5 rfl
            rw [ht5.out] at q
            go_wp2_with fail
            refine (snum_l a5 t5 n5 ht5.out hn5.out hs5 _).mono ?_
            rintro e w15 ⟨rfl, c15⟩
            have Ra := R14.below c15
            have d := Ra.x5.c 5 _ rfl
            have z := Ra.x5.z 5
            have R15 := Ra.set 5 (by simp) (.int .i64 n5)
            go_upto_region 16 with fail
            clear q d z Ra R14 c15
            generalize w15.setCell ⟨b5, 5, none⟩ (.int .i64 n5) = u15 at *
            clear w15
            have q := R15.p.c 6 a6 rfl
            rw [ht6.out] at q
            go_wp2_with fail
            refine (sgnr_l a6 t6 n6 f6 ht6.out hn6.out hf6.out hs6 _).mono ?_
            rintro e w16 ⟨rfl, c16⟩
            have R16 := R15.below c16
            go_upto_region 17 with fail
            clear q R15 c16
            have q := R16.p.c 7 a7 rfl
            rw [ht7.out] at q
            go_wp2_with fail
            refine (sgnr_l a7 t7 n7 f7 ht7.out hn7.out hf7.out hs7 _).mono ?_
            rintro e w17 ⟨rfl, c17⟩
            have R17 := R16.below c17
            go_upto_region 18 with fail
            clear q R16 c17
            have q := R17.p.c 10 a10 rfl
            rw [ht10.out] at q
            go_wp2_with fail
            refine (sparse_l a10 t10 ht10.out hs10 _).mono ?_
            rintro e w18 ⟨v, T, fc, rfl, ho, hno', hTl, hmt, c18⟩
            change mt a10 = _ at hmt
            have hub := R17.x5.lt
            obtain ⟨ad, cp, rfl, -, -, -⟩ := own_facts ho
            have R18 := R17.below c18
            have hwb := R17.b.size
            have hub2 := R17.x2.lt
            generalize hubs : w17.heap.size = ub at *
            go_upto_region 19 with fail
            clear q R17 c18 hubs
            have q8 := R18.p.c 8 a8 rfl
            rw [ht8.out] at q8
            have q9 := R18.p.c 9 a9 rfl
            rw [ht9.out] at q9
            refine wp_region_held_drew (S := fun w' => w'.cell? ⟨pb, 8, none⟩ = some (.string t8) ∧ w'.cell? ⟨pb, 9, none⟩ = some (.string t9)) (by kernel_rfl) ?_ (fun hHeld => ?_)
            · (try dsimp only); (refine ⟨?_, ?_⟩ <;> (repeat (first | with_reducible assumption | with_reducible refine keep_drew ?_ | with_reducible refine keep_below (by assumption) ?_)))
            refine tl (i := 0) (oi := { dst := some 83, op := .move (.tmp 7), type := 3, pos := "l4_word.go:141", after := #[], guard := none }) ?_
            (try simp only [pq])
            refine tl (i := 1) (oi := { dst := some 84, op := .move (.tmp 9), type := 3, pos := "l4_word.go:141", after := #[], guard := none }) ?_
            (try simp only [pq])
            refine tl (i := 2) (oi := { dst := some 85, op := .move (.tmp 4), type := 48, pos := "l4_word.go:141", after := #[], guard := none }) ?_
            (try simp only [pq])
            refine tl (i := 3) (oi := { dst := some 86, op := .indexAddr 48 (.tmp 85) (.const (.int .i64 8)), type := 0, pos := "l4_word.go:141", after := #[{ on := 2, ground := .data }], guard := none }) ?_
            (try simp only [pq])
            refine tl (i := 4) (oi := { dst := some 87, op := .load 9 (.tmp 86), type := 9, pos := "l4_word.go:141", after := #[{ on := 3, ground := .data }], guard := none }) ?_
            (try simp only [pq])
            refine tl (i := 6) (oi := { dst := some 89, op := .move (.tmp 4), type := 48, pos := "l4_word.go:141", after := #[], guard := none }) ?_
            (try simp only [pq])
            refine tl (i := 7) (oi := { dst := some 90, op := .indexAddr 48 (.tmp 89) (.const (.int .i64 9)), type := 0, pos := "l4_word.go:141", after := #[{ on := 6, ground := .data }], guard := none }) ?_
            (try simp only [pq])
            refine tl (i := 8) (oi := { dst := some 91, op := .load 9 (.tmp 90), type := 9, pos := "l4_word.go:141", after := #[{ on := 7, ground := .data }], guard := none }) ?_
            (try simp only [pq])
            refine wpAnyH_ready (rs := [5]) (by kernel_rfl) (by simp) ?_
            refine AllReadyH.cons (o := { dst := some 88, op := .call { callee := .value (.func 46), args := #[.tmp 87], argTypes := #[9] }, type := 3, pos := "l4_word.go:141", after := #[{ on := 4, ground := .data }], guard := none }) rfl (fun K hK => ?_) AllReadyH.nil
            go_simp
            refine (snum_l a8 t8 n8 ht8.out hn8.out hs8 _).mono ?_; rintro e o1 ⟨rfl, e1⟩
            go_wp2_with fail
            refine hK.out _ _ ?_ (fun hHeld => ?_)
            · (try dsimp only); (refine ⟨?_, ?_⟩ <;> (repeat (first | with_reducible assumption | with_reducible refine keep_drew ?_ | with_reducible refine keep_below (by assumption) ?_)))
            clear hK K
            (try simp only [pq])
            refine wpAnyH_ready (rs := [9]) (by kernel_rfl) (by simp) ?_
            refine AllReadyH.cons (o := { dst := some 92, op := .call { callee := .value (.func 46), args := #[.tmp 91], argTypes := #[9] }, type := 3, pos := "l4_word.go:141", after := #[{ on := 8, ground := .data }, { on := 5, ground := .chain }], guard := none }) rfl (fun K hK => ?_) AllReadyH.nil
            go_simp
            refine (snum_l a9 t9 n9 ht9.out hn9.out hs9 _).mono ?_; rintro e o2 ⟨rfl, e2⟩
            go_wp2_with fail
            refine hK.out _ _ ?_ (fun hHeld => ?_)
            · (try dsimp only); (refine ⟨?_, ?_⟩ <;> (repeat (first | with_reducible assumption | with_reducible refine keep_drew ?_ | with_reducible refine keep_below (by assumption) ?_)))
            clear hK K
            (try simp only [pq])
            refine tl (i := 10) (oi := { dst := some 93, op := .build 33 #[(0, .tmp 83), (1, .tmp 84), (2, .tmp 88), (3, .tmp 92)], type := 33, pos := "l4_word.go:141", after := #[{ on := 0, ground := .data }, { on := 1, ground := .data }, { on := 5, ground := .data }, { on := 9, ground := .data }], guard := none }) ?_
            (try simp only [pq])
            refine tl (i := 11) (oi := { dst := some 94, op := .fieldAddr 35 (.tmp 5) 6, type := 0, pos := "l4_word.go:141", after := #[{ on := 0, ground := .phase }, { on := 1, ground := .phase }, { on := 2, ground := .phase }, { on := 3, ground := .phase }, { on := 4, ground := .phase }, { on := 5, ground := .phase }, { on := 6, ground := .phase }, { on := 7, ground := .phase }, { on := 8, ground := .phase }, { on := 9, ground := .phase }, { on := 10, ground := .phase }], guard := none }) ?_
            (try simp only [pq])
            have BE : Below w18.heap.size w18 o2 := btrans (btrans (qd (Below.refl _ _)) e1) e2
            have Ra := R18.below BE
            have hoa := own_below ho BE
            have d6 := Ra.x5.c 6 _ rfl
            have d7 := Ra.x5.c 7 _ rfl
            have d8 := Ra.x5.c 8 _ rfl
            have d9 := Ra.x5.c 9 _ rfl
            have z6 := Ra.x5.z 6
            have z7 := Ra.x5.z 7
            have z8 := Ra.x5.z 8
            have z9 := Ra.x5.z 9
            have R19 := ((((Ra.set 6 (by simp) (.int .i64 n6)).set 7 (by simp) (.int .i64 n7)).set 8 (by simp) (.int .i64 n8)).set 9 (by simp) (.int .i64 n9))
            have hob := (own_set (b := b5) (k := 9) (.int .i64 n9) (own_set (b := b5) (k := 8) (.int .i64 n8) (own_set (b := b5) (k := 7) (.int .i64 n7) (own_set (b := b5) (k := 6) (.int .i64 n6) hoa hub) hub) hub) hub)
            refine wpAnyH_ready (rs := [12]) (by kernel_rfl) (by simp) ?_
            refine AllReadyH.cons (o := { dst := none, op := .store 33 (.tmp 94) (.tmp 93), type := 0, pos := "l4_word.go:141", after := #[{ on := 11, ground := .data }, { on := 10, ground := .data }, { on := 9, ground := .chain }, { on := 0, ground := .phase }, { on := 1, ground := .phase }, { on := 2, ground := .phase }, { on := 3, ground := .phase }, { on := 4, ground := .phase }, { on := 5, ground := .phase }, { on := 6, ground := .phase }, { on := 7, ground := .phase }, { on := 8, ground := .phase }, { on := 9, ground := .phase }, { on := 10, ground := .phase }], guard := none }) rfl (fun K hK => ?_) AllReadyH.nil
            go_simp
            generalize ((((o2.setCell ⟨b5, 6, none⟩ (.int .i64 n6)).setCell ⟨b5, 7, none⟩ (.int .i64 n7)).setCell ⟨b5, 8, none⟩ (.int .i64 n8)).setCell ⟨b5, 9, none⟩ (.int .i64 n9)) = u19 at *
            refine hK.out _ _ ?_ (fun hHeld => ?_)
            · (try dsimp only); exact ⟨by have := R19.p.c 8 a8 rfl; rwa [ht8.out] at this, by have := R19.p.c 9 a9 rfl; rwa [ht9.out] at this⟩
            clear hK K hHeld
            (try simp only [pq])
            refine wpAnyH_done (by kernel_rfl) ?_ _
            clear d6 d7 d8 d9 z6 z7 z8 z9 q8 q9 hoa ho Ra R18 BE e1 e2
            have d := R19.x5.c 10 _ rfl
            have z := R19.x5.z 10
            have R20 := R19.set 10 (by simp) (.slice ad T.length cp)
            have ho20 := own_set (b := b5) (k := 10) (.slice ad T.length cp) hob hub
            go_upto_region 21 with fail
            clear d z R19 hob
            generalize u19.setCell ⟨b5, 10, none⟩ (.slice ad T.length cp) = u20 at *
            clear u19
            have hW : Hid (mdW a0 a1 a2 a3 a4 a5 a6 a7 a8 a9 T = ⟨1, kk, n2, n3, n4, n5, n6, n7, n8, n9, T⟩) := by
              unfold Hid mdW
              rw [hpm, hkk.out, hn2.out, hn3.out, hn4.out, hn5.out, hn6.out, hn7.out, hn8.out, hn9.out]
            cases f6
            · skip
              have hno := md_no hlH.out hmt (fun h => by rw [hf6.out] at h; exact absurd h.1 (by simp))
              have Y : Ws _ w.heap.size zW := (((((((((((R20.x2.set 0 (by simp [zW]) (.int .i64 0)).set 1 (by simp [zW]) (.int .i64 0)).set 2 (by simp [zW]) (.int .i64 0)).set 3 (by simp [zW]) (.int .i64 0)).set 4 (by simp [zW]) (.int .i64 0)).set 5 (by simp [zW]) (.int .i64 0)).set 6 (by simp [zW]) (.int .i64 0)).set 7 (by simp [zW]) (.int .i64 0)).set 8 (by simp [zW]) (.int .i64 0)).set 9 (by simp [zW]) (.int .i64 0)).set 10 (by simp [zW]) (.slice none 0 0))
              have BY := (((((((((((R20.b.setCell (p := ⟨w.heap.size, 0, none⟩) (Nat.le_refl _) (.int .i64 0)).setCell (p := ⟨w.heap.size, 1, none⟩) (Nat.le_refl _) (.int .i64 0)).setCell (p := ⟨w.heap.size, 2, none⟩) (Nat.le_refl _) (.int .i64 0)).setCell (p := ⟨w.heap.size, 3, none⟩) (Nat.le_refl _) (.int .i64 0)).setCell (p := ⟨w.heap.size, 4, none⟩) (Nat.le_refl _) (.int .i64 0)).setCell (p := ⟨w.heap.size, 5, none⟩) (Nat.le_refl _) (.int .i64 0)).setCell (p := ⟨w.heap.size, 6, none⟩) (Nat.le_refl _) (.int .i64 0)).setCell (p := ⟨w.heap.size, 7, none⟩) (Nat.le_refl _) (.int .i64 0)).setCell (p := ⟨w.heap.size, 8, none⟩) (Nat.le_refl _) (.int .i64 0)).setCell (p := ⟨w.heap.size, 9, none⟩) (Nat.le_refl _) (.int .i64 0)).setCell (p := ⟨w.heap.size, 10, none⟩) (Nat.le_refl _) (.slice none 0 0))
              have d0 := R20.x2.c 0 _ rfl
              have z0 := R20.x2.z 0
              have d1 := R20.x2.c 1 _ rfl
              have z1 := R20.x2.z 1
              have d2 := R20.x2.c 2 _ rfl
              have z2 := R20.x2.z 2
              have d3 := R20.x2.c 3 _ rfl
              have z3 := R20.x2.z 3
              have d4 := R20.x2.c 4 _ rfl
              have z4 := R20.x2.z 4
              have d5 := R20.x2.c 5 _ rfl
              have z5 := R20.x2.z 5
              have d6 := R20.x2.c 6 _ rfl
              have z6 := R20.x2.z 6
              have d7 := R20.x2.c 7 _ rfl
              have z7 := R20.x2.z 7
              have d8 := R20.x2.c 8 _ rfl
              have z8 := R20.x2.z 8
              have d9 := R20.x2.c 9 _ rfl
              have z9 := R20.x2.z 9
              have d10 := R20.x2.c 10 _ rfl
              have z10 := R20.x2.z 10
              go_wp2
              clear d0 d1 d2 d3 d4 d5 d6 d7 d8 d9 d10
              generalize (((((((((((u20.setCell ⟨w.heap.size, 0, none⟩ (.int .i64 0)).setCell ⟨w.heap.size, 1, none⟩ (.int .i64 0)).setCell ⟨w.heap.size, 2, none⟩ (.int .i64 0)).setCell ⟨w.heap.size, 3, none⟩ (.int .i64 0)).setCell ⟨w.heap.size, 4, none⟩ (.int .i64 0)).setCell ⟨w.heap.size, 5, none⟩ (.int .i64 0)).setCell ⟨w.heap.size, 6, none⟩ (.int .i64 0)).setCell ⟨w.heap.size, 7, none⟩ (.int .i64 0)).setCell ⟨w.heap.size, 8, none⟩ (.int .i64 0)).setCell ⟨w.heap.size, 9, none⟩ (.int .i64 0)).setCell ⟨w.heap.size, 10, none⟩ (.slice none 0 0)) = w9 at *
              have d0 := Y.c 0 _ rfl
              have d1 := Y.c 1 _ rfl
              have d2 := Y.c 2 _ rfl
              have d3 := Y.c 3 _ rfl
              have d4 := Y.c 4 _ rfl
              have d5 := Y.c 5 _ rfl
              have d6 := Y.c 6 _ rfl
              have d7 := Y.c 7 _ rfl
              have d8 := Y.c 8 _ rfl
              have d9 := Y.c 9 _ rfl
              have d10 := Y.c 10 _ rfl
              exact bodyPost_ret (v := .tuple #[.agg #[.int .i64 0, .int .i64 0, .int .i64 0, .int .i64 0, .int .i64 0, .int .i64 0, .int .i64 0, .int .i64 0, .int .i64 0, .int .i64 0, .slice none 0 0], .bool false]) (by simp [results, Tryz.results18, go_sem, d0, d1, d2, d3, d4, d5, d6, d7, d8, d9, d10]) rfl ⟨Wd.zero, none, 0, false, rfl, fun h => (by cases h), fun _ => ⟨hno, rfl⟩, ⟨rfl, Or.inl ⟨rfl, rfl⟩⟩, BY⟩
            · cases f7
              · skip
                have hno := md_no hlH.out hmt (fun h => by rw [hf7.out] at h; exact absurd h.2.1 (by simp))
                have Y : Ws _ w.heap.size zW := (((((((((((R20.x2.set 0 (by simp [zW]) (.int .i64 0)).set 1 (by simp [zW]) (.int .i64 0)).set 2 (by simp [zW]) (.int .i64 0)).set 3 (by simp [zW]) (.int .i64 0)).set 4 (by simp [zW]) (.int .i64 0)).set 5 (by simp [zW]) (.int .i64 0)).set 6 (by simp [zW]) (.int .i64 0)).set 7 (by simp [zW]) (.int .i64 0)).set 8 (by simp [zW]) (.int .i64 0)).set 9 (by simp [zW]) (.int .i64 0)).set 10 (by simp [zW]) (.slice none 0 0))
                have BY := (((((((((((R20.b.setCell (p := ⟨w.heap.size, 0, none⟩) (Nat.le_refl _) (.int .i64 0)).setCell (p := ⟨w.heap.size, 1, none⟩) (Nat.le_refl _) (.int .i64 0)).setCell (p := ⟨w.heap.size, 2, none⟩) (Nat.le_refl _) (.int .i64 0)).setCell (p := ⟨w.heap.size, 3, none⟩) (Nat.le_refl _) (.int .i64 0)).setCell (p := ⟨w.heap.size, 4, none⟩) (Nat.le_refl _) (.int .i64 0)).setCell (p := ⟨w.heap.size, 5, none⟩) (Nat.le_refl _) (.int .i64 0)).setCell (p := ⟨w.heap.size, 6, none⟩) (Nat.le_refl _) (.int .i64 0)).setCell (p := ⟨w.heap.size, 7, none⟩) (Nat.le_refl _) (.int .i64 0)).setCell (p := ⟨w.heap.size, 8, none⟩) (Nat.le_refl _) (.int .i64 0)).setCell (p := ⟨w.heap.size, 9, none⟩) (Nat.le_refl _) (.int .i64 0)).setCell (p := ⟨w.heap.size, 10, none⟩) (Nat.le_refl _) (.slice none 0 0))
                have d0 := R20.x2.c 0 _ rfl
                have z0 := R20.x2.z 0
                have d1 := R20.x2.c 1 _ rfl
                have z1 := R20.x2.z 1
                have d2 := R20.x2.c 2 _ rfl
                have z2 := R20.x2.z 2
                have d3 := R20.x2.c 3 _ rfl
                have z3 := R20.x2.z 3
                have d4 := R20.x2.c 4 _ rfl
                have z4 := R20.x2.z 4
                have d5 := R20.x2.c 5 _ rfl
                have z5 := R20.x2.z 5
                have d6 := R20.x2.c 6 _ rfl
                have z6 := R20.x2.z 6
                have d7 := R20.x2.c 7 _ rfl
                have z7 := R20.x2.z 7
                have d8 := R20.x2.c 8 _ rfl
                have z8 := R20.x2.z 8
                have d9 := R20.x2.c 9 _ rfl
                have z9 := R20.x2.z 9
                have d10 := R20.x2.c 10 _ rfl
                have z10 := R20.x2.z 10
                go_wp2
                clear d0 d1 d2 d3 d4 d5 d6 d7 d8 d9 d10
                generalize (((((((((((u20.setCell ⟨w.heap.size, 0, none⟩ (.int .i64 0)).setCell ⟨w.heap.size, 1, none⟩ (.int .i64 0)).setCell ⟨w.heap.size, 2, none⟩ (.int .i64 0)).setCell ⟨w.heap.size, 3, none⟩ (.int .i64 0)).setCell ⟨w.heap.size, 4, none⟩ (.int .i64 0)).setCell ⟨w.heap.size, 5, none⟩ (.int .i64 0)).setCell ⟨w.heap.size, 6, none⟩ (.int .i64 0)).setCell ⟨w.heap.size, 7, none⟩ (.int .i64 0)).setCell ⟨w.heap.size, 8, none⟩ (.int .i64 0)).setCell ⟨w.heap.size, 9, none⟩ (.int .i64 0)).setCell ⟨w.heap.size, 10, none⟩ (.slice none 0 0)) = w9 at *
                have d0 := Y.c 0 _ rfl
                have d1 := Y.c 1 _ rfl
                have d2 := Y.c 2 _ rfl
                have d3 := Y.c 3 _ rfl
                have d4 := Y.c 4 _ rfl
                have d5 := Y.c 5 _ rfl
                have d6 := Y.c 6 _ rfl
                have d7 := Y.c 7 _ rfl
                have d8 := Y.c 8 _ rfl
                have d9 := Y.c 9 _ rfl
                have d10 := Y.c 10 _ rfl
                exact bodyPost_ret (v := .tuple #[.agg #[.int .i64 0, .int .i64 0, .int .i64 0, .int .i64 0, .int .i64 0, .int .i64 0, .int .i64 0, .int .i64 0, .int .i64 0, .int .i64 0, .slice none 0 0], .bool false]) (by simp [results, Tryz.results18, go_sem, d0, d1, d2, d3, d4, d5, d6, d7, d8, d9, d10]) rfl ⟨Wd.zero, none, 0, false, rfl, fun h => (by cases h), fun _ => ⟨hno, rfl⟩, ⟨rfl, Or.inl ⟨rfl, rfl⟩⟩, BY⟩
              · cases fc
                · skip
                  have hno := md_no hlH.out hmt (fun h => absurd h.2.2.1 (by simp))
                  have Y : Ws _ w.heap.size zW := (((((((((((R20.x2.set 0 (by simp [zW]) (.int .i64 0)).set 1 (by simp [zW]) (.int .i64 0)).set 2 (by simp [zW]) (.int .i64 0)).set 3 (by simp [zW]) (.int .i64 0)).set 4 (by simp [zW]) (.int .i64 0)).set 5 (by simp [zW]) (.int .i64 0)).set 6 (by simp [zW]) (.int .i64 0)).set 7 (by simp [zW]) (.int .i64 0)).set 8 (by simp [zW]) (.int .i64 0)).set 9 (by simp [zW]) (.int .i64 0)).set 10 (by simp [zW]) (.slice none 0 0))
                  have BY := (((((((((((R20.b.setCell (p := ⟨w.heap.size, 0, none⟩) (Nat.le_refl _) (.int .i64 0)).setCell (p := ⟨w.heap.size, 1, none⟩) (Nat.le_refl _) (.int .i64 0)).setCell (p := ⟨w.heap.size, 2, none⟩) (Nat.le_refl _) (.int .i64 0)).setCell (p := ⟨w.heap.size, 3, none⟩) (Nat.le_refl _) (.int .i64 0)).setCell (p := ⟨w.heap.size, 4, none⟩) (Nat.le_refl _) (.int .i64 0)).setCell (p := ⟨w.heap.size, 5, none⟩) (Nat.le_refl _) (.int .i64 0)).setCell (p := ⟨w.heap.size, 6, none⟩) (Nat.le_refl _) (.int .i64 0)).setCell (p := ⟨w.heap.size, 7, none⟩) (Nat.le_refl _) (.int .i64 0)).setCell (p := ⟨w.heap.size, 8, none⟩) (Nat.le_refl _) (.int .i64 0)).setCell (p := ⟨w.heap.size, 9, none⟩) (Nat.le_refl _) (.int .i64 0)).setCell (p := ⟨w.heap.size, 10, none⟩) (Nat.le_refl _) (.slice none 0 0))
                  have d0 := R20.x2.c 0 _ rfl
                  have z0 := R20.x2.z 0
                  have d1 := R20.x2.c 1 _ rfl
                  have z1 := R20.x2.z 1
                  have d2 := R20.x2.c 2 _ rfl
                  have z2 := R20.x2.z 2
                  have d3 := R20.x2.c 3 _ rfl
                  have z3 := R20.x2.z 3
                  have d4 := R20.x2.c 4 _ rfl
                  have z4 := R20.x2.z 4
                  have d5 := R20.x2.c 5 _ rfl
                  have z5 := R20.x2.z 5
                  have d6 := R20.x2.c 6 _ rfl
                  have z6 := R20.x2.z 6
                  have d7 := R20.x2.c 7 _ rfl
                  have z7 := R20.x2.z 7
                  have d8 := R20.x2.c 8 _ rfl
                  have z8 := R20.x2.z 8
                  have d9 := R20.x2.c 9 _ rfl
                  have z9 := R20.x2.z 9
                  have d10 := R20.x2.c 10 _ rfl
                  have z10 := R20.x2.z 10
                  go_wp2
                  clear d0 d1 d2 d3 d4 d5 d6 d7 d8 d9 d10
                  generalize (((((((((((u20.setCell ⟨w.heap.size, 0, none⟩ (.int .i64 0)).setCell ⟨w.heap.size, 1, none⟩ (.int .i64 0)).setCell ⟨w.heap.size, 2, none⟩ (.int .i64 0)).setCell ⟨w.heap.size, 3, none⟩ (.int .i64 0)).setCell ⟨w.heap.size, 4, none⟩ (.int .i64 0)).setCell ⟨w.heap.size, 5, none⟩ (.int .i64 0)).setCell ⟨w.heap.size, 6, none⟩ (.int .i64 0)).setCell ⟨w.heap.size, 7, none⟩ (.int .i64 0)).setCell ⟨w.heap.size, 8, none⟩ (.int .i64 0)).setCell ⟨w.heap.size, 9, none⟩ (.int .i64 0)).setCell ⟨w.heap.size, 10, none⟩ (.slice none 0 0)) = w9 at *
                  have d0 := Y.c 0 _ rfl
                  have d1 := Y.c 1 _ rfl
                  have d2 := Y.c 2 _ rfl
                  have d3 := Y.c 3 _ rfl
                  have d4 := Y.c 4 _ rfl
                  have d5 := Y.c 5 _ rfl
                  have d6 := Y.c 6 _ rfl
                  have d7 := Y.c 7 _ rfl
                  have d8 := Y.c 8 _ rfl
                  have d9 := Y.c 9 _ rfl
                  have d10 := Y.c 10 _ rfl
                  exact bodyPost_ret (v := .tuple #[.agg #[.int .i64 0, .int .i64 0, .int .i64 0, .int .i64 0, .int .i64 0, .int .i64 0, .int .i64 0, .int .i64 0, .int .i64 0, .int .i64 0, .slice none 0 0], .bool false]) (by simp [results, Tryz.results18, go_sem, d0, d1, d2, d3, d4, d5, d6, d7, d8, d9, d10]) rfl ⟨Wd.zero, none, 0, false, rfl, fun h => (by cases h), fun _ => ⟨hno, rfl⟩, ⟨rfl, Or.inl ⟨rfl, rfl⟩⟩, BY⟩
                · have hFS : FSl u20 ad T.length (atF T) := by
                    obtain ⟨ad', cp', e0, -, -, hf⟩ := own_facts ho20
                    injection e0 with e0 _ _
                    subst e0
                    exact hf
                  have hLW := lwrite_any 1 kk n2 n3 n4 n5 n6 n7 n8 n9 ad T.length cp (atF T) u20 hFS hTl
                  have htx : Hid ((mdW a0 a1 a2 a3 a4 a5 a6 a7 a8 a9 T).tx = wtx 1 kk n2 n3 n4 n5 n6 n7 n8 n9 T.length (atF T)) := by unfold Hid; rw [hW.out]; rfl
                  generalize wtx 1 kk n2 n3 n4 n5 n6 n7 n8 n9 T.length (atF T) = X at *
                  have m0 := R20.x5.c 0 (.int .i64 1) rfl
                  have m1 := R20.x5.c 1 (.int .i64 kk) rfl
                  have m2 := R20.x5.c 2 (.int .i64 n2) rfl
                  have m3 := R20.x5.c 3 (.int .i64 n3) rfl
                  have m4 := R20.x5.c 4 (.int .i64 n4) rfl
                  have m5 := R20.x5.c 5 (.int .i64 n5) rfl
                  have m6 := R20.x5.c 6 (.int .i64 n6) rfl
                  have m7 := R20.x5.c 7 (.int .i64 n7) rfl
                  have m8 := R20.x5.c 8 (.int .i64 n8) rfl
                  have m9 := R20.x5.c 9 (.int .i64 n9) rfl
                  have m10 := R20.x5.c 10 (.slice ad T.length cp) rfl
                  by_cases hXs : X = s
                  · have hxe : (X.toList != s.toList) = false := by rw [hXs]; simp
                    obtain ⟨hok, hst⟩ := md_yes h12 (htx.out.trans hXs)
                    rw [hW.out] at hok hst
                    go_wp2_with fail
                    refine hLW.mono ?_
                    rintro e w21 ⟨rfl, c21⟩
                    have R21 := R20.below c21
                    have ho21 := own_below ho20 c21
                    clear hLW m0 m1 m2 m3 m4 m5 m6 m7 m8 m9 m10 R20 ho20 hFS c21
                    have m0 := R21.x5.c 0 (.int .i64 1) rfl
                    have d0 := R21.x2.c 0 _ rfl
                    have z0 := R21.x2.z 0
                    have m1 := R21.x5.c 1 (.int .i64 kk) rfl
                    have d1 := R21.x2.c 1 _ rfl
                    have z1 := R21.x2.z 1
                    have m2 := R21.x5.c 2 (.int .i64 n2) rfl
                    have d2 := R21.x2.c 2 _ rfl
                    have z2 := R21.x2.z 2
                    have m3 := R21.x5.c 3 (.int .i64 n3) rfl
                    have d3 := R21.x2.c 3 _ rfl
                    have z3 := R21.x2.z 3
                    have m4 := R21.x5.c 4 (.int .i64 n4) rfl
                    have d4 := R21.x2.c 4 _ rfl
                    have z4 := R21.x2.z 4
                    have m5 := R21.x5.c 5 (.int .i64 n5) rfl
                    have d5 := R21.x2.c 5 _ rfl
                    have z5 := R21.x2.z 5
                    have m6 := R21.x5.c 6 (.int .i64 n6) rfl
                    have d6 := R21.x2.c 6 _ rfl
                    have z6 := R21.x2.z 6
                    have m7 := R21.x5.c 7 (.int .i64 n7) rfl
                    have d7 := R21.x2.c 7 _ rfl
                    have z7 := R21.x2.z 7
                    have m8 := R21.x5.c 8 (.int .i64 n8) rfl
                    have d8 := R21.x2.c 8 _ rfl
                    have z8 := R21.x2.z 8
                    have m9 := R21.x5.c 9 (.int .i64 n9) rfl
                    have d9 := R21.x2.c 9 _ rfl
                    have z9 := R21.x2.z 9
                    have m10 := R21.x5.c 10 (.slice ad T.length cp) rfl
                    have d10 := R21.x2.c 10 _ rfl
                    have z10 := R21.x2.z 10
                    have Y : Ws _ w.heap.size [.int .i64 1, .int .i64 kk, .int .i64 n2, .int .i64 n3, .int .i64 n4, .int .i64 n5, .int .i64 n6, .int .i64 n7, .int .i64 n8, .int .i64 n9, .slice ad T.length cp] := (((((((((((R21.x2.set 0 (by simp [zW]) (.int .i64 1)).set 1 (by simp [zW]) (.int .i64 kk)).set 2 (by simp [zW]) (.int .i64 n2)).set 3 (by simp [zW]) (.int .i64 n3)).set 4 (by simp [zW]) (.int .i64 n4)).set 5 (by simp [zW]) (.int .i64 n5)).set 6 (by simp [zW]) (.int .i64 n6)).set 7 (by simp [zW]) (.int .i64 n7)).set 8 (by simp [zW]) (.int .i64 n8)).set 9 (by simp [zW]) (.int .i64 n9)).set 10 (by simp [zW]) (.slice ad T.length cp))
                    have BY := (((((((((((R21.b.setCell (p := ⟨w.heap.size, 0, none⟩) (Nat.le_refl _) (.int .i64 1)).setCell (p := ⟨w.heap.size, 1, none⟩) (Nat.le_refl _) (.int .i64 kk)).setCell (p := ⟨w.heap.size, 2, none⟩) (Nat.le_refl _) (.int .i64 n2)).setCell (p := ⟨w.heap.size, 3, none⟩) (Nat.le_refl _) (.int .i64 n3)).setCell (p := ⟨w.heap.size, 4, none⟩) (Nat.le_refl _) (.int .i64 n4)).setCell (p := ⟨w.heap.size, 5, none⟩) (Nat.le_refl _) (.int .i64 n5)).setCell (p := ⟨w.heap.size, 6, none⟩) (Nat.le_refl _) (.int .i64 n6)).setCell (p := ⟨w.heap.size, 7, none⟩) (Nat.le_refl _) (.int .i64 n7)).setCell (p := ⟨w.heap.size, 8, none⟩) (Nat.le_refl _) (.int .i64 n8)).setCell (p := ⟨w.heap.size, 9, none⟩) (Nat.le_refl _) (.int .i64 n9)).setCell (p := ⟨w.heap.size, 10, none⟩) (Nat.le_refl _) (.slice ad T.length cp))
                    have hoY := own_mono hwb (own_set (b := w.heap.size) (k := 10) (.slice ad T.length cp) (own_set (b := w.heap.size) (k := 9) (.int .i64 n9) (own_set (b := w.heap.size) (k := 8) (.int .i64 n8) (own_set (b := w.heap.size) (k := 7) (.int .i64 n7) (own_set (b := w.heap.size) (k := 6) (.int .i64 n6) (own_set (b := w.heap.size) (k := 5) (.int .i64 n5) (own_set (b := w.heap.size) (k := 4) (.int .i64 n4) (own_set (b := w.heap.size) (k := 3) (.int .i64 n3) (own_set (b := w.heap.size) (k := 2) (.int .i64 n2) (own_set (b := w.heap.size) (k := 1) (.int .i64 kk) (own_set (b := w.heap.size) (k := 0) (.int .i64 1) ho21 hub2) hub2) hub2) hub2) hub2) hub2) hub2) hub2) hub2) hub2) hub2)
                    go_wp2
                    clear d0 d1 d2 d3 d4 d5 d6 d7 d8 d9 d10
                    generalize (((((((((((w21.setCell ⟨w.heap.size, 0, none⟩ (.int .i64 1)).setCell ⟨w.heap.size, 1, none⟩ (.int .i64 kk)).setCell ⟨w.heap.size, 2, none⟩ (.int .i64 n2)).setCell ⟨w.heap.size, 3, none⟩ (.int .i64 n3)).setCell ⟨w.heap.size, 4, none⟩ (.int .i64 n4)).setCell ⟨w.heap.size, 5, none⟩ (.int .i64 n5)).setCell ⟨w.heap.size, 6, none⟩ (.int .i64 n6)).setCell ⟨w.heap.size, 7, none⟩ (.int .i64 n7)).setCell ⟨w.heap.size, 8, none⟩ (.int .i64 n8)).setCell ⟨w.heap.size, 9, none⟩ (.int .i64 n9)).setCell ⟨w.heap.size, 10, none⟩ (.slice ad T.length cp)) = w9 at *
                    have d0 := Y.c 0 (.int .i64 1) rfl
                    have d1 := Y.c 1 (.int .i64 kk) rfl
                    have d2 := Y.c 2 (.int .i64 n2) rfl
                    have d3 := Y.c 3 (.int .i64 n3) rfl
                    have d4 := Y.c 4 (.int .i64 n4) rfl
                    have d5 := Y.c 5 (.int .i64 n5) rfl
                    have d6 := Y.c 6 (.int .i64 n6) rfl
                    have d7 := Y.c 7 (.int .i64 n7) rfl
                    have d8 := Y.c 8 (.int .i64 n8) rfl
                    have d9 := Y.c 9 (.int .i64 n9) rfl
                    have d10 := Y.c 10 (.slice ad T.length cp) rfl
                    exact bodyPost_ret (v := .tuple #[.agg #[.int .i64 1, .int .i64 kk, .int .i64 n2, .int .i64 n3, .int .i64 n4, .int .i64 n5, .int .i64 n6, .int .i64 n7, .int .i64 n8, .int .i64 n9, .slice ad T.length cp], .bool true]) (by simp [results, Tryz.results18, go_sem, d0, d1, d2, d3, d4, d5, d6, d7, d8, d9, d10]) rfl ⟨⟨1, kk, n2, n3, n4, n5, n6, n7, n8, n9, T⟩, ad, cp, true, rfl, fun _ => ⟨hok, hst⟩, fun h => (by cases h), hoY, BY⟩
                  · have hxe : (X.toList != s.toList) = true := by
                      rw [bne, Bool.not_eq_true', Lib.bytes_beq_false_iff]
                      exact hXs
                    have hxb : (X.toList == s.toList) = false := (Lib.bytes_beq_false_iff X s).2 hXs
                    have hxn : ¬ X.toList = s.toList := beq_eq_false_iff_ne.1 hxb
                    have hno := md_no hlH.out hmt (fun h => hXs (htx.out.symm.trans h.2.2.2))
                    go_wp2_with fail
                    refine hLW.mono ?_
                    rintro e w21 ⟨rfl, c21⟩
                    have R21 := R20.below c21
                    clear hLW m0 m1 m2 m3 m4 m5 m6 m7 m8 m9 m10 R20 ho20 hFS c21
                    have Y : Ws _ w.heap.size zW := (((((((((((R21.x2.set 0 (by simp [zW]) (.int .i64 0)).set 1 (by simp [zW]) (.int .i64 0)).set 2 (by simp [zW]) (.int .i64 0)).set 3 (by simp [zW]) (.int .i64 0)).set 4 (by simp [zW]) (.int .i64 0)).set 5 (by simp [zW]) (.int .i64 0)).set 6 (by simp [zW]) (.int .i64 0)).set 7 (by simp [zW]) (.int .i64 0)).set 8 (by simp [zW]) (.int .i64 0)).set 9 (by simp [zW]) (.int .i64 0)).set 10 (by simp [zW]) (.slice none 0 0))
                    have BY := (((((((((((R21.b.setCell (p := ⟨w.heap.size, 0, none⟩) (Nat.le_refl _) (.int .i64 0)).setCell (p := ⟨w.heap.size, 1, none⟩) (Nat.le_refl _) (.int .i64 0)).setCell (p := ⟨w.heap.size, 2, none⟩) (Nat.le_refl _) (.int .i64 0)).setCell (p := ⟨w.heap.size, 3, none⟩) (Nat.le_refl _) (.int .i64 0)).setCell (p := ⟨w.heap.size, 4, none⟩) (Nat.le_refl _) (.int .i64 0)).setCell (p := ⟨w.heap.size, 5, none⟩) (Nat.le_refl _) (.int .i64 0)).setCell (p := ⟨w.heap.size, 6, none⟩) (Nat.le_refl _) (.int .i64 0)).setCell (p := ⟨w.heap.size, 7, none⟩) (Nat.le_refl _) (.int .i64 0)).setCell (p := ⟨w.heap.size, 8, none⟩) (Nat.le_refl _) (.int .i64 0)).setCell (p := ⟨w.heap.size, 9, none⟩) (Nat.le_refl _) (.int .i64 0)).setCell (p := ⟨w.heap.size, 10, none⟩) (Nat.le_refl _) (.slice none 0 0))
                    have d0 := R21.x2.c 0 _ rfl
                    have z0 := R21.x2.z 0
                    have d1 := R21.x2.c 1 _ rfl
                    have z1 := R21.x2.z 1
                    have d2 := R21.x2.c 2 _ rfl
                    have z2 := R21.x2.z 2
                    have d3 := R21.x2.c 3 _ rfl
                    have z3 := R21.x2.z 3
                    have d4 := R21.x2.c 4 _ rfl
                    have z4 := R21.x2.z 4
                    have d5 := R21.x2.c 5 _ rfl
                    have z5 := R21.x2.z 5
                    have d6 := R21.x2.c 6 _ rfl
                    have z6 := R21.x2.z 6
                    have d7 := R21.x2.c 7 _ rfl
                    have z7 := R21.x2.z 7
                    have d8 := R21.x2.c 8 _ rfl
                    have z8 := R21.x2.z 8
                    have d9 := R21.x2.c 9 _ rfl
                    have z9 := R21.x2.z 9
                    have d10 := R21.x2.c 10 _ rfl
                    have z10 := R21.x2.z 10
                    go_wp2
                    clear d0 d1 d2 d3 d4 d5 d6 d7 d8 d9 d10
                    generalize (((((((((((w21.setCell ⟨w.heap.size, 0, none⟩ (.int .i64 0)).setCell ⟨w.heap.size, 1, none⟩ (.int .i64 0)).setCell ⟨w.heap.size, 2, none⟩ (.int .i64 0)).setCell ⟨w.heap.size, 3, none⟩ (.int .i64 0)).setCell ⟨w.heap.size, 4, none⟩ (.int .i64 0)).setCell ⟨w.heap.size, 5, none⟩ (.int .i64 0)).setCell ⟨w.heap.size, 6, none⟩ (.int .i64 0)).setCell ⟨w.heap.size, 7, none⟩ (.int .i64 0)).setCell ⟨w.heap.size, 8, none⟩ (.int .i64 0)).setCell ⟨w.heap.size, 9, none⟩ (.int .i64 0)).setCell ⟨w.heap.size, 10, none⟩ (.slice none 0 0)) = w9 at *
                    have d0 := Y.c 0 _ rfl
                    have d1 := Y.c 1 _ rfl
                    have d2 := Y.c 2 _ rfl
                    have d3 := Y.c 3 _ rfl
                    have d4 := Y.c 4 _ rfl
                    have d5 := Y.c 5 _ rfl
                    have d6 := Y.c 6 _ rfl
                    have d7 := Y.c 7 _ rfl
                    have d8 := Y.c 8 _ rfl
                    have d9 := Y.c 9 _ rfl
                    have d10 := Y.c 10 _ rfl
                    exact bodyPost_ret (v := .tuple #[.agg #[.int .i64 0, .int .i64 0, .int .i64 0, .int .i64 0, .int .i64 0, .int .i64 0, .int .i64 0, .int .i64 0, .int .i64 0, .int .i64 0, .slice none 0 0], .bool false]) (by simp [results, Tryz.results18, go_sem, d0, d1, d2, d3, d4, d5, d6, d7, d8, d9, d10]) rfl ⟨Wd.zero, none, 0, false, rfl, fun h => (by cases h), fun _ => ⟨hno, rfl⟩, ⟨rfl, Or.inl ⟨rfl, rfl⟩⟩, BY⟩
    · have h12' : ¬ ((cutL 32 s.data.toList).length : Int) = 12 := by omega
      have h12b : (((cutL 32 s.data.toList).length : Int) != 12) = true := by rw [bne_iff_ne]; exact h12'
      have hno := nowd_short h12
      generalize (cutL 32 s.data.toList).length = ll at *
      clear hP
      have Y : Ws _ w.heap.size zW := (((((((((((X1.set 0 (by simp [zW]) (.int .i64 0)).set 1 (by simp [zW]) (.int .i64 0)).set 2 (by simp [zW]) (.int .i64 0)).set 3 (by simp [zW]) (.int .i64 0)).set 4 (by simp [zW]) (.int .i64 0)).set 5 (by simp [zW]) (.int .i64 0)).set 6 (by simp [zW]) (.int .i64 0)).set 7 (by simp [zW]) (.int .i64 0)).set 8 (by simp [zW]) (.int .i64 0)).set 9 (by simp [zW]) (.int .i64 0)).set 10 (by simp [zW]) (.slice none 0 0))
      have BY := (((((((((((B1.setCell (p := ⟨w.heap.size, 0, none⟩) (Nat.le_refl _) (.int .i64 0)).setCell (p := ⟨w.heap.size, 1, none⟩) (Nat.le_refl _) (.int .i64 0)).setCell (p := ⟨w.heap.size, 2, none⟩) (Nat.le_refl _) (.int .i64 0)).setCell (p := ⟨w.heap.size, 3, none⟩) (Nat.le_refl _) (.int .i64 0)).setCell (p := ⟨w.heap.size, 4, none⟩) (Nat.le_refl _) (.int .i64 0)).setCell (p := ⟨w.heap.size, 5, none⟩) (Nat.le_refl _) (.int .i64 0)).setCell (p := ⟨w.heap.size, 6, none⟩) (Nat.le_refl _) (.int .i64 0)).setCell (p := ⟨w.heap.size, 7, none⟩) (Nat.le_refl _) (.int .i64 0)).setCell (p := ⟨w.heap.size, 8, none⟩) (Nat.le_refl _) (.int .i64 0)).setCell (p := ⟨w.heap.size, 9, none⟩) (Nat.le_refl _) (.int .i64 0)).setCell (p := ⟨w.heap.size, 10, none⟩) (Nat.le_refl _) (.slice none 0 0))
      have d0 := X1.c 0 _ rfl
      have z0 := X1.z 0
      have d1 := X1.c 1 _ rfl
      have z1 := X1.z 1
      have d2 := X1.c 2 _ rfl
      have z2 := X1.z 2
      have d3 := X1.c 3 _ rfl
      have z3 := X1.z 3
      have d4 := X1.c 4 _ rfl
      have z4 := X1.z 4
      have d5 := X1.c 5 _ rfl
      have z5 := X1.z 5
      have d6 := X1.c 6 _ rfl
      have z6 := X1.z 6
      have d7 := X1.c 7 _ rfl
      have z7 := X1.z 7
      have d8 := X1.c 8 _ rfl
      have z8 := X1.z 8
      have d9 := X1.c 9 _ rfl
      have z9 := X1.z 9
      have d10 := X1.c 10 _ rfl
      have z10 := X1.z 10
      go_wp2
      clear d0 d1 d2 d3 d4 d5 d6 d7 d8 d9 d10
      generalize (((((((((((w1.setCell ⟨w.heap.size, 0, none⟩ (.int .i64 0)).setCell ⟨w.heap.size, 1, none⟩ (.int .i64 0)).setCell ⟨w.heap.size, 2, none⟩ (.int .i64 0)).setCell ⟨w.heap.size, 3, none⟩ (.int .i64 0)).setCell ⟨w.heap.size, 4, none⟩ (.int .i64 0)).setCell ⟨w.heap.size, 5, none⟩ (.int .i64 0)).setCell ⟨w.heap.size, 6, none⟩ (.int .i64 0)).setCell ⟨w.heap.size, 7, none⟩ (.int .i64 0)).setCell ⟨w.heap.size, 8, none⟩ (.int .i64 0)).setCell ⟨w.heap.size, 9, none⟩ (.int .i64 0)).setCell ⟨w.heap.size, 10, none⟩ (.slice none 0 0)) = w9 at *
      have d0 := Y.c 0 _ rfl
      have d1 := Y.c 1 _ rfl
      have d2 := Y.c 2 _ rfl
      have d3 := Y.c 3 _ rfl
      have d4 := Y.c 4 _ rfl
      have d5 := Y.c 5 _ rfl
      have d6 := Y.c 6 _ rfl
      have d7 := Y.c 7 _ rfl
      have d8 := Y.c 8 _ rfl
      have d9 := Y.c 9 _ rfl
      have d10 := Y.c 10 _ rfl
      exact bodyPost_ret (v := .tuple #[.agg #[.int .i64 0, .int .i64 0, .int .i64 0, .int .i64 0, .int .i64 0, .int .i64 0, .int .i64 0, .int .i64 0, .int .i64 0, .int .i64 0, .slice none 0 0], .bool false]) (by simp [results, Tryz.results18, go_sem, d0, d1, d2, d3, d4, d5, d6, d7, d8, d9, d10]) rfl ⟨Wd.zero, none, 0, false, rfl, fun h => (by cases h), fun _ => ⟨hno, rfl⟩, ⟨rfl, Or.inl ⟨rfl, rfl⟩⟩, BY⟩
end Go.Proofs.YtibnojbhoepcdaaGreatDoor
