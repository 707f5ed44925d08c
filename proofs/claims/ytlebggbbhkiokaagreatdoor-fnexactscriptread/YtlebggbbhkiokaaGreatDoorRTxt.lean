/- How events are written: numbers, words and the lines of events; the program's way and the model's. -/
import Derived.Test.YtlebggbbhkiokaaGreatDoorShelf
import Derived.Test.YtlebggbbhkiokaaGreatDoorREv
import Derived.Laws.IdiomStrings
namespace Go.Proofs.YtlebggbbhkiokaaGreatDoor
open Go.ChangeShapes Go.WideShapes Go.ChangeAt Go.RowKit
attribute [local go_sem ↓] Go.wp_at_zero Go.wp_at_succ
/-- the two tables that the library reads -/
structure Tabs (w : World) : Prop where
  p : Lib.TabIs Tryz.prog w "internal/strconv.uint64pow10" .u64 Lib.pow10Tab
  s : Lib.TabIs Tryz.prog w "strings.asciiSpace" .u8 Lib.asciiSpaceTab
theorem tabIs_below {n : String} {g : Nat} {k : IntKind} {zs : List Int} {w w' : World} (hg : Tryz.prog.globalNamed n = some g) (h : Lib.TabIs Tryz.prog w n k zs) (hb : Below w.heap.size w w') : Lib.TabIs Tryz.prog w' n k zs := by
  unfold Lib.TabIs World.var? at h ⊢
  rw [hg] at h ⊢
  simp only [Option.bind_some] at h ⊢
  have hlt : g < w.heap.size := by
    rcases Nat.lt_or_ge g w.heap.size with h' | h'
    · exact h'
    · rw [Array.getElem?_eq_none h'] at h
      cases h
  rw [hb.block g hlt]
  exact h
theorem gPow : ∃ g, Tryz.prog.globalNamed "internal/strconv.uint64pow10" = some g := Option.isSome_iff_exists.1 (by kernel_rfl)
theorem gSpace : ∃ g, Tryz.prog.globalNamed "strings.asciiSpace" = some g := Option.isSome_iff_exists.1 (by kernel_rfl)
theorem Tabs.below {w w' : World} (h : Tabs w) (hb : Below w.heap.size w w') : Tabs w' := by
  obtain ⟨g, hg⟩ := gPow
  obtain ⟨g', hg'⟩ := gSpace
  exact ⟨tabIs_below hg h.p hb, tabIs_below hg' h.s hb⟩
theorem qd {a w : World} {B : Nat} (h : Below B a w) : Below B a w.drew := ⟨h.os, h.tape, h.output, h.size, h.block⟩
theorem below_grow {w : World} (k : Nat) (os : Array Obj) : Below w.heap.size w (Go.Sort.grow (w.drewN k) os) :=
  ⟨rfl, rfl, rfl, by simp [Go.Sort.grow], fun i hi => by simp [Go.Sort.grow, Array.getElem?_append, hi]⟩
/-- bytes -/
abbrev bs (l : List UInt8) : ByteArray := ⟨l.toArray⟩
theorem bs_append (a b : List UInt8) : bs a ++ bs b = bs (a ++ b) := by
  apply ByteArray.ext
  simp [ByteArray.data_append]
theorem itoa_len {n : Int} (h0 : 0 ≤ n) (h1 : n ≤ 999999) : (bs (Lib.itoa n)).size ≤ 6 := by
  rw [itoa_dec n h0]
  simpa [ByteArray.size] using dd_len 5 n.toNat (by omega)
theorem itoa_lit (n : Int) (x : ByteArray) (h0 : 0 ≤ n) (h1 : n ≤ 999999) (hx : bs (Lib.itoa n) = x) (w : World) (ht : Tabs w) :
    Calls Tryz.prog 40 #[.int .i64 n] w fun e w' => e = .returned (.string x) ∧ Below w.heap.size w w' :=
  hx ▸ (Tryz.strconv_Itoa n (by omega) (by omega) w ht.p).mono (by rintro e w' ⟨rfl, k, os, rfl⟩; exact ⟨rfl, below_grow k os⟩)
def namesL : List UInt8 := [116, 105, 99, 107, 32, 98, 114, 105, 110, 103, 32, 108, 111, 115, 101, 32, 115, 112, 111, 105, 108, 32, 115, 105, 100, 101, 32, 102, 97, 108, 108, 32, 114, 105, 115, 101, 32, 108, 101, 97, 118, 101, 32, 106, 111, 105, 110]
theorem names_ascii : ∀ b ∈ namesL, b.toNat < 128 := by decide
theorem fields_names : Lib.fields namesL = [wk1, wk2, wk3, wk4, wk5, wk6, wk7, wk8, wk9] := by decide
theorem word_len (s : Int) : (bs (wordK s)).size ≤ 5 := by
  unfold wordK
  rcases Nat.lt_or_ge s.toNat 10 with h | h
  · have : ∀ k, k < 10 → (bs (kindsL.getD k [])).size ≤ 5 := by decide
    exact this _ h
  · rw [List.getD_eq_getElem?_getD, List.getElem?_eq_none (by simpa [kindsL] using h)]
    decide
theorem names_any (w : World) (ht : Tabs w) :
    Calls Tryz.prog 44 #[.string (bs [116, 105, 99, 107, 32, 98, 114, 105, 110, 103, 32, 108, 111, 115, 101, 32, 115, 112, 111, 105, 108, 32, 115, 105, 100, 101, 32, 102, 97, 108, 108, 32, 114, 105, 115, 101, 32, 108, 101, 97, 118, 101, 32, 106, 111, 105, 110])] w fun e w' => e = .returned (.slice (some ⟨w.heap.size, 0, none⟩) 9 9) ∧ w' = w.alloc (.cells #[.string (bs wk1), .string (bs wk2), .string (bs wk3), .string (bs wk4), .string (bs wk5), .string (bs wk6), .string (bs wk7), .string (bs wk8), .string (bs wk9)] 9) := by
  have hf := Tryz.strings_Fields (bs namesL) w (by decide) (fun j b hb => names_ascii b (List.mem_of_getElem? hb)) ht.s
  have e1 : Lib.fields (bs namesL).data.toList = [wk1, wk2, wk3, wk4, wk5, wk6, wk7, wk8, wk9] := fields_names
  rw [e1] at hf
  go_enter Tryz.func44, Tryz.ntmps44
  go_wp2_with fail
  refine hf.mono ?_
  rintro e w' ⟨rfl, rfl⟩
  go_wp2
  go_ret
  exact ⟨rfl, rfl⟩
theorem cell_block {w : World} {b o t : Nat} {cs : Array Value} {fr : Nat × Nat} {v : Value} (h : w.heap[b]? = some (.cells cs t fr)) (hv : cs[o]? = some v) : w.cell? ⟨b, o, none⟩ = some v := by
  unfold World.cell?
  simp only [h]
  exact hv
theorem of_name (s : Int) (h1 : 1 ≤ s) (h9 : s ≤ 9) (w : World) (ht : Tabs w) :
    Calls Tryz.prog 39 #[.string (bs [116, 105, 99, 107, 32, 98, 114, 105, 110, 103, 32, 108, 111, 115, 101, 32, 115, 112, 111, 105, 108, 32, 115, 105, 100, 101, 32, 102, 97, 108, 108, 32, 114, 105, 115, 101, 32, 108, 101, 97, 118, 101, 32, 106, 111, 105, 110]), .int .i64 s] w fun e w' => e = .returned (.string (bs (wordK s))) ∧ Below w.heap.size w w' := by
  have b1 : Below w.heap.size w (w.alloc (.cells #[.string (bs wk1), .string (bs wk2), .string (bs wk3), .string (bs wk4), .string (bs wk5), .string (bs wk6), .string (bs wk7), .string (bs wk8), .string (bs wk9)] 9)) := balloc _ (Below.refl _ _)
  have p1 : (w.alloc (.cells #[.string (bs wk1), .string (bs wk2), .string (bs wk3), .string (bs wk4), .string (bs wk5), .string (bs wk6), .string (bs wk7), .string (bs wk8), .string (bs wk9)] 9)).heap[w.heap.size]? = some (.cells #[.string (bs wk1), .string (bs wk2), .string (bs wk3), .string (bs wk4), .string (bs wk5), .string (bs wk6), .string (bs wk7), .string (bs wk8), .string (bs wk9)] 9 (0, 0)) := heap_alloc_new _ _
  have c0 := cell_block (o := 0) (v := .string (bs wk1)) p1 rfl
  have c1 := cell_block (o := 1) (v := .string (bs wk2)) p1 rfl
  have c2 := cell_block (o := 2) (v := .string (bs wk3)) p1 rfl
  have c3 := cell_block (o := 3) (v := .string (bs wk4)) p1 rfl
  have c4 := cell_block (o := 4) (v := .string (bs wk5)) p1 rfl
  have c5 := cell_block (o := 5) (v := .string (bs wk6)) p1 rfl
  have c6 := cell_block (o := 6) (v := .string (bs wk7)) p1 rfl
  have c7 := cell_block (o := 7) (v := .string (bs wk8)) p1 rfl
  have c8 := cell_block (o := 8) (v := .string (bs wk9)) p1 rfl
  have hs : s = 1 ∨ s = 2 ∨ s = 3 ∨ s = 4 ∨ s = 5 ∨ s = 6 ∨ s = 7 ∨ s = 8 ∨ s = 9 := by omega
  clear h1 h9
  rcases hs with rfl | rfl | rfl | rfl | rfl | rfl | rfl | rfl | rfl
  all_goals
    go_enter Tryz.func39, Tryz.ntmps39
    go_wp2_with fail
    refine (names_any w ht).mono ?_
    rintro e w' ⟨rfl, rfl⟩
    go_wp2
    go_ret
    exact ⟨rfl, b1⟩
theorem ofn_lit (s : Int) (x : ByteArray) (h1 : 1 ≤ s) (h4 : s ≤ 9) (hx : bs (wordK s) = x) (w : World) (ht : Tabs w) :
    Calls Tryz.prog 39 #[.string (bs [116, 105, 99, 107, 32, 98, 114, 105, 110, 103, 32, 108, 111, 115, 101, 32, 115, 112, 111, 105, 108, 32, 115, 105, 100, 101, 32, 102, 97, 108, 108, 32, 114, 105, 115, 101, 32, 108, 101, 97, 118, 101, 32, 106, 111, 105, 110]), .int .i64 s] w fun e w' => e = .returned (.string x) ∧ Below w.heap.size w w' := hx ▸ of_name s h1 h4 w ht
theorem kinds_any (w : World) :
    Calls Tryz.prog 16 #[] w fun e w' => e = .returned (.slice (some ⟨w.heap.size, 0, none⟩) 10 10) ∧ Below w.heap.size w w' ∧ ∀ (k : Nat) (x : ByteArray), Hid (k < 10 ∧ bs (kindsL.getD k []) = x) → w'.cell? ⟨w.heap.size, k, none⟩ = some (.string x) := by
  go_enter Tryz.func16, Tryz.ntmps16
  go_wp2
  go_ret
  refine ⟨rfl, balloc _ (Below.refl _ _), ?_⟩
  rintro k x ⟨hk, rfl⟩
  have p1 : (w.alloc (.cells #[.string (bs []), .string (bs wk1), .string (bs wk2), .string (bs wk3), .string (bs wk4), .string (bs wk5), .string (bs wk6), .string (bs wk7), .string (bs wk8), .string (bs wk9)] 9)).heap[w.heap.size]? = some (.cells #[.string (bs []), .string (bs wk1), .string (bs wk2), .string (bs wk3), .string (bs wk4), .string (bs wk5), .string (bs wk6), .string (bs wk7), .string (bs wk8), .string (bs wk9)] 9 (0, 0)) := heap_alloc_new _ _
  refine cell_block p1 ?_
  have : ∀ k, k < 10 → (#[.string (bs []), .string (bs wk1), .string (bs wk2), .string (bs wk3), .string (bs wk4), .string (bs wk5), .string (bs wk6), .string (bs wk7), .string (bs wk8), .string (bs wk9)] : Array Value)[k]? = some (.string (bs (kindsL.getD k []))) := by
    intro k hk
    have : k = 0 ∨ k = 1 ∨ k = 2 ∨ k = 3 ∨ k = 4 ∨ k = 5 ∨ k = 6 ∨ k = 7 ∨ k = 8 ∨ k = 9 := by omega
    rcases this with rfl | rfl | rfl | rfl | rfl | rfl | rfl | rfl | rfl | rfl <;> rfl
  exact this k hk
theorem conv_one (W : World) (b c d : Nat) (y : UInt8) (hd : d < 10) (hy : UInt8.ofNat (48 + d) = y) (hc : W.cell? ⟨b, 0, none⟩ = some (.int .u8 (48 + (d : Int)))) :
    (convert 64 9 (.slice (some ⟨b, 0, none⟩) 1 c)).run Tryz.prog W = .ok (.string (bs [y])) W := by
  subst hy
  refine run_convert_bytes_back W 64 9 5 ⟨b, 0, none⟩ c [UInt8.ofNat (48 + d)] Tryz.underlying64 Tryz.underlying5 Tryz.underlying9 (fun j hj => ?_)
  simp at hj
  subst hj
  have e : ((UInt8.ofNat (48 + d)).toNat : Int) = 48 + (d : Int) := by
    rw [UInt8.toNat_ofNat']
    omega
  simp only [List.getElem_cons_zero, e]
  exact hc
set_option maxRecDepth 20000 in
set_option maxHeartbeats 2000000 in
theorem dec_any : ∀ (m n : Nat), n < m → n < 1000000 → ∀ (w : World), Calls Tryz.prog 17 #[.int .i64 (n : Int)] w fun e w' => e = .returned (.string (bs (Lib.decDigits n))) ∧ Below w.heap.size w w'
  | 0, _, h, _, _ => absurd h (by omega)
  | m + 1, n, h, h9, w => by
    have i0 : ¬ (n : Int) < -9223372036854775807 := by omega
    have i1 : ¬ (n : Int) < 0 := by omega
    by_cases hn : n < 10
    · have i2 : (n : Int) < 10 := by omega
      have b1 : Below w.heap.size w (w.alloc (.cells #[.int .u8 (48 + (n : Int))] 5)) := balloc _ (Below.refl _ _)
      have cv := conv_one (w.alloc (.cells #[.int .u8 (48 + (n : Int))] 5)) w.heap.size 1 n _ hn rfl (by simp)
      rw [Lib.decDigits, dif_pos hn]
      go_enter Tryz.func17, Tryz.ntmps17
      go_wp2
      go_ret
      exact ⟨rfl, b1⟩
    · have i2 : ¬ (n : Int) < 10 := by omega
      have ih := dec_any m (n / 10) (by omega) (by omega)
      have hl := dd_len 5 (n / 10) (by omega)
      rw [Lib.decDigits, dif_neg hn]
      obtain ⟨x, hx⟩ : ∃ x, Hid (bs (Lib.decDigits (n / 10)) = x) := ⟨_, rfl⟩
      have z1 : x.size ≤ 6 := by rw [← hx.out]; simpa [ByteArray.size] using hl
      have ih' : Hid (∀ w, Calls Tryz.prog 17 #[.int .i64 ((n / 10 : Nat) : Int)] w fun e w' => e = .returned (.string x) ∧ Below w.heap.size w w') := by rw [hx.out] at ih; exact ih
      obtain ⟨y, hy⟩ : ∃ y, Hid (UInt8.ofNat (48 + n % 10) = y) := ⟨_, rfl⟩
      have e1 : Hid (bs (Lib.decDigits (n / 10) ++ [UInt8.ofNat (48 + n % 10)]) = x ++ bs [y]) := by
        unfold Hid
        rw [← hx.out, ← hy.out, bs_append]
      have q1 : Int.tdiv (n : Int) 10 = ((n / 10 : Nat) : Int) := by rw [Int.tdiv_eq_ediv_of_nonneg (by omega)]; omega
      have q2 : Int.tmod (n : Int) 10 = ((n % 10 : Nat) : Int) := by rw [Int.tmod_eq_emod_of_nonneg (by omega)]; omega
      have hd : n % 10 < 10 := by omega
      have k1 : ¬ 9223372036854775807 < x.size + 1 := by omega
      have r1 : IntKind.i64.wrap ((n / 10 : Nat) : Int) = ((n / 10 : Nat) : Int) := by rw [IntKind.wrap_i64]; omega
      have r2 : IntKind.i64.wrap (48 + ((n % 10 : Nat) : Int)) = 48 + ((n % 10 : Nat) : Int) := by rw [IntKind.wrap_i64]; omega
      have r3 : IntKind.u8.wrap (48 + ((n % 10 : Nat) : Int)) = 48 + ((n % 10 : Nat) : Int) := by rw [IntKind.wrap_u8]; omega
      clear ih hx hl
      generalize n / 10 = u at *
      generalize n % 10 = d at *
      go_enter Tryz.func17, Tryz.ntmps17
      go_wp2_with fail
      refine wp_region_held_drew (S := fun _ => True) (by kernel_rfl) trivial (fun hHeld => ?_)
      refine wpAnyH_take (i := 0) (oi := { dst := some 18, op := Go.Op.move (Go.Operand.tmp 0), type := 3, pos := "l1_fix.go:20", after := #[], guard := none }) (v := ?_) rfl (by kernel_rfl) (by kernel_rfl) (by kernel_rfl) (fun _ _ _ h => h) (Or.inl ⟨by rfl, ?_⟩) (by assumption) ?_
      rotate_left 1
      · (intro w hSw; (try dsimp only at hSw); go_simp; try with_reducible rfl)
      (try simp only [Act.put, List.setIfInBounds_toArray, List.set_cons_zero, List.set_cons_succ])
      refine wpAnyH_take (i := 1) (oi := { dst := some 19, op := Go.Op.binOp Go.BinOp.quo 3 (Go.Operand.tmp 18) (Go.Operand.const (Go.Value.int Go.IntKind.i64 10)) 3, type := 3, pos := "l1_fix.go:20", after := #[{ on := 0, ground := Go.Ground.data }], guard := none }) (v := ?_) rfl (by kernel_rfl) (by kernel_rfl) (by kernel_rfl) (fun _ _ _ h => h) (Or.inl ⟨by rfl, ?_⟩) (by assumption) ?_
      rotate_left 1
      · (intro w hSw; (try dsimp only at hSw); go_simp; try with_reducible rfl)
      (try simp only [Act.put, List.setIfInBounds_toArray, List.set_cons_zero, List.set_cons_succ])
      refine wpAnyH_take (i := 3) (oi := { dst := some 21, op := Go.Op.move (Go.Operand.tmp 0), type := 3, pos := "l1_fix.go:20", after := #[], guard := none }) (v := ?_) rfl (by kernel_rfl) (by kernel_rfl) (by kernel_rfl) (fun _ _ _ h => h) (Or.inl ⟨by rfl, ?_⟩) (by assumption) ?_
      rotate_left 1
      · (intro w hSw; (try dsimp only at hSw); go_simp; try with_reducible rfl)
      (try simp only [Act.put, List.setIfInBounds_toArray, List.set_cons_zero, List.set_cons_succ])
      refine wpAnyH_take (i := 4) (oi := { dst := some 22, op := Go.Op.binOp Go.BinOp.rem 3 (Go.Operand.tmp 21) (Go.Operand.const (Go.Value.int Go.IntKind.i64 10)) 3, type := 3, pos := "l1_fix.go:20", after := #[{ on := 3, ground := Go.Ground.data }], guard := none }) (v := ?_) rfl (by kernel_rfl) (by kernel_rfl) (by kernel_rfl) (fun _ _ _ h => h) (Or.inl ⟨by rfl, ?_⟩) (by assumption) ?_
      rotate_left 1
      · (intro w hSw; (try dsimp only at hSw); go_simp; try with_reducible rfl)
      (try simp only [Act.put, List.setIfInBounds_toArray, List.set_cons_zero, List.set_cons_succ])
      refine wpAnyH_take (i := 5) (oi := { dst := some 23, op := Go.Op.binOp Go.BinOp.add 3 (Go.Operand.const (Go.Value.int Go.IntKind.i64 48)) (Go.Operand.tmp 22) 3, type := 3, pos := "l1_fix.go:20", after := #[{ on := 4, ground := Go.Ground.data }], guard := none }) (v := ?_) rfl (by kernel_rfl) (by kernel_rfl) (by kernel_rfl) (fun _ _ _ h => h) (Or.inl ⟨by rfl, ?_⟩) (by assumption) ?_
      rotate_left 1
      · (intro w hSw; (try dsimp only at hSw); go_simp; try with_reducible rfl)
      (try simp only [Act.put, List.setIfInBounds_toArray, List.set_cons_zero, List.set_cons_succ])
      refine wpAnyH_take (i := 6) (oi := { dst := some 24, op := Go.Op.convert 3 5 (Go.Operand.tmp 23), type := 5, pos := "l1_fix.go:20", after := #[{ on := 5, ground := Go.Ground.data }], guard := none }) (v := ?_) rfl (by kernel_rfl) (by kernel_rfl) (by kernel_rfl) (fun _ _ _ h => h) (Or.inl ⟨by rfl, ?_⟩) (by assumption) ?_
      rotate_left 1
      · (intro w hSw; (try dsimp only at hSw); go_simp; try with_reducible rfl)
      (try simp only [Act.put, List.setIfInBounds_toArray, List.set_cons_zero, List.set_cons_succ])
      refine wpAnyH_ready (rs := [2, 7]) (by kernel_rfl) (by simp) ?_
      refine AllReadyH.cons (o := { dst := some 20, op := Go.Op.call { callee := Go.Callee.value (Go.Operand.func 17), args := #[Go.Operand.tmp 19], argTypes := #[3] }, type := 9, pos := "l1_fix.go:20", after := #[{ on := 1, ground := Go.Ground.data }], guard := none }) rfl (fun K hK => ?_) (AllReadyH.cons (o := { dst := some 25, op := Go.Op.buildSlice 64 1 #[(0, Go.Operand.tmp 24)], type := 64, pos := "l1_fix.go:20", after := #[{ on := 6, ground := Go.Ground.data }], guard := none }) rfl (fun K hK => ?_) AllReadyH.nil)
      · go_simp
        refine (ih'.out _).mono ?_
        rintro e w1 ⟨rfl, b1⟩
        go_wp2_with fail
        refine hK.out _ _ trivial (fun hHeld => ?_)
        clear hK K
        (try simp only [Act.put, List.setIfInBounds_toArray, List.set_cons_zero, List.set_cons_succ])
        refine wpAnyH_ready (rs := [7]) (by kernel_rfl) (by simp) ?_
        refine AllReadyH.cons (o := { dst := some 25, op := Go.Op.buildSlice 64 1 #[(0, Go.Operand.tmp 24)], type := 64, pos := "l1_fix.go:20", after := #[{ on := 6, ground := Go.Ground.data }], guard := none }) rfl (fun K hK => ?_) AllReadyH.nil
        go_simp
        refine hK.out _ _ trivial (fun hHeld => ?_)
        clear hK K
        (try simp only [Act.put, List.setIfInBounds_toArray, List.set_cons_zero, List.set_cons_succ])
        refine wpAnyH_ready (rs := [8]) (by kernel_rfl) (by simp) ?_
        refine AllReadyH.cons (o := { dst := some 26, op := Go.Op.convert 64 9 (Go.Operand.tmp 25), type := 9, pos := "l1_fix.go:20", after := #[{ on := 7, ground := Go.Ground.data }], guard := none }) rfl (fun K hK => ?_) AllReadyH.nil
        have cv := conv_one (w1.alloc (.cells #[.int .u8 (48 + (d : Int))] 5)) w1.heap.size 1 d y hd hy.out (by simp)
        go_simp
        refine hK.out _ _ trivial (fun hHeld => ?_)
        clear hK K cv
        (try simp only [Act.put, List.setIfInBounds_toArray, List.set_cons_zero, List.set_cons_succ])
        refine wpAnyH_take (i := 9) (oi := { dst := some 27, op := Go.Op.binOp Go.BinOp.add 9 (Go.Operand.tmp 20) (Go.Operand.tmp 26) 9, type := 9, pos := "l1_fix.go:20", after := #[{ on := 2, ground := Go.Ground.data }, { on := 8, ground := Go.Ground.data }], guard := none }) (v := ?_) rfl (by kernel_rfl) (by kernel_rfl) (by kernel_rfl) (fun _ _ _ h => h) (Or.inl ⟨by rfl, ?_⟩) (by assumption) ?_
        rotate_left 1
        · (intro w hSw; (try dsimp only at hSw); go_simp; try with_reducible rfl)
        (try simp only [Act.put, List.setIfInBounds_toArray, List.set_cons_zero, List.set_cons_succ])
        refine wpAnyH_take (i := 10) (oi := { dst := some 2, op := Go.Op.assign (Go.Operand.tmp 27), type := 9, pos := "l1_fix.go:20", after := #[{ on := 9, ground := Go.Ground.data }, { on := 2, ground := Go.Ground.chain }, { on := 0, ground := Go.Ground.phase }, { on := 1, ground := Go.Ground.phase }, { on := 2, ground := Go.Ground.phase }, { on := 3, ground := Go.Ground.phase }, { on := 4, ground := Go.Ground.phase }, { on := 5, ground := Go.Ground.phase }, { on := 6, ground := Go.Ground.phase }, { on := 7, ground := Go.Ground.phase }, { on := 8, ground := Go.Ground.phase }, { on := 9, ground := Go.Ground.phase }], guard := none }) (v := ?_) rfl (by kernel_rfl) (by kernel_rfl) (by kernel_rfl) (fun _ _ _ h => h) (Or.inl ⟨by rfl, ?_⟩) (by assumption) ?_
        rotate_left 1
        · (intro w hSw; (try dsimp only at hSw); go_simp; try with_reducible rfl)
        (try simp only [Act.put, List.setIfInBounds_toArray, List.set_cons_zero, List.set_cons_succ])
        refine wpAnyH_done (by kernel_rfl) ?_ _
        have BB : Below w.heap.size w (w1.alloc (.cells #[.int .u8 (48 + (d : Int))] 5)) := balloc _ (btrans (qd (Below.refl _ _)) b1)
        go_wp2
        go_ret
        exact ⟨by rw [e1.out]; rfl, BB⟩
      · go_simp
        refine hK.out _ _ trivial (fun hHeld => ?_)
        clear hK K
        (try simp only [Act.put, List.setIfInBounds_toArray, List.set_cons_zero, List.set_cons_succ])
        have b0 : Below w.heap.size w (w.alloc (.cells #[.int .u8 (48 + (d : Int))] 5)).drew := qd (balloc _ (Below.refl _ _))
        have c0 : (w.alloc (.cells #[.int .u8 (48 + (d : Int))] 5)).drew.cell? ⟨w.heap.size, 0, none⟩ = some (.int .u8 (48 + (d : Int))) := by simp
        generalize (w.alloc (.cells #[.int .u8 (48 + (d : Int))] 5)).drew = w0 at *
        obtain ⟨bb, hbb⟩ : ∃ bb, w.heap.size = bb := ⟨_, rfl⟩
        rw [hbb] at c0 ⊢
        refine wpAnyH_ready (rs := [2, 8]) (by kernel_rfl) (by simp) ?_
        refine AllReadyH.cons (o := { dst := some 20, op := Go.Op.call { callee := Go.Callee.value (Go.Operand.func 17), args := #[Go.Operand.tmp 19], argTypes := #[3] }, type := 9, pos := "l1_fix.go:20", after := #[{ on := 1, ground := Go.Ground.data }], guard := none }) rfl (fun K hK => ?_) (AllReadyH.cons (o := { dst := some 26, op := Go.Op.convert 64 9 (Go.Operand.tmp 25), type := 9, pos := "l1_fix.go:20", after := #[{ on := 7, ground := Go.Ground.data }], guard := none }) rfl (fun K hK => ?_) AllReadyH.nil)
        · go_simp
          refine (ih'.out _).mono ?_
          rintro e w1 ⟨rfl, b1⟩
          go_wp2_with fail
          refine hK.out _ _ trivial (fun hHeld => ?_)
          clear hK K
          (try simp only [Act.put, List.setIfInBounds_toArray, List.set_cons_zero, List.set_cons_succ])
          refine wpAnyH_ready (rs := [8]) (by kernel_rfl) (by simp) ?_
          refine AllReadyH.cons (o := { dst := some 26, op := Go.Op.convert 64 9 (Go.Operand.tmp 25), type := 9, pos := "l1_fix.go:20", after := #[{ on := 7, ground := Go.Ground.data }], guard := none }) rfl (fun K hK => ?_) AllReadyH.nil
          have cv := conv_one w1 bb 1 d y hd hy.out (keep_below b1 c0)
          go_simp
          refine hK.out _ _ trivial (fun hHeld => ?_)
          clear hK K cv
          (try simp only [Act.put, List.setIfInBounds_toArray, List.set_cons_zero, List.set_cons_succ])
          refine wpAnyH_take (i := 9) (oi := { dst := some 27, op := Go.Op.binOp Go.BinOp.add 9 (Go.Operand.tmp 20) (Go.Operand.tmp 26) 9, type := 9, pos := "l1_fix.go:20", after := #[{ on := 2, ground := Go.Ground.data }, { on := 8, ground := Go.Ground.data }], guard := none }) (v := ?_) rfl (by kernel_rfl) (by kernel_rfl) (by kernel_rfl) (fun _ _ _ h => h) (Or.inl ⟨by rfl, ?_⟩) (by assumption) ?_
          rotate_left 1
          · (intro w hSw; (try dsimp only at hSw); go_simp; try with_reducible rfl)
          (try simp only [Act.put, List.setIfInBounds_toArray, List.set_cons_zero, List.set_cons_succ])
          refine wpAnyH_take (i := 10) (oi := { dst := some 2, op := Go.Op.assign (Go.Operand.tmp 27), type := 9, pos := "l1_fix.go:20", after := #[{ on := 9, ground := Go.Ground.data }, { on := 2, ground := Go.Ground.chain }, { on := 0, ground := Go.Ground.phase }, { on := 1, ground := Go.Ground.phase }, { on := 2, ground := Go.Ground.phase }, { on := 3, ground := Go.Ground.phase }, { on := 4, ground := Go.Ground.phase }, { on := 5, ground := Go.Ground.phase }, { on := 6, ground := Go.Ground.phase }, { on := 7, ground := Go.Ground.phase }, { on := 8, ground := Go.Ground.phase }, { on := 9, ground := Go.Ground.phase }], guard := none }) (v := ?_) rfl (by kernel_rfl) (by kernel_rfl) (by kernel_rfl) (fun _ _ _ h => h) (Or.inl ⟨by rfl, ?_⟩) (by assumption) ?_
          rotate_left 1
          · (intro w hSw; (try dsimp only at hSw); go_simp; try with_reducible rfl)
          (try simp only [Act.put, List.setIfInBounds_toArray, List.set_cons_zero, List.set_cons_succ])
          refine wpAnyH_done (by kernel_rfl) ?_ _
          have BB : Below w.heap.size w w1 := btrans b0 b1
          go_wp2
          go_ret
          exact ⟨by rw [e1.out]; rfl, BB⟩
        · have cv := conv_one w0 bb 1 d y hd hy.out c0
          go_simp
          refine hK.out _ _ trivial (fun hHeld => ?_)
          clear hK K cv
          (try simp only [Act.put, List.setIfInBounds_toArray, List.set_cons_zero, List.set_cons_succ])
          refine wpAnyH_ready (rs := [2]) (by kernel_rfl) (by simp) ?_
          refine AllReadyH.cons (o := { dst := some 20, op := Go.Op.call { callee := Go.Callee.value (Go.Operand.func 17), args := #[Go.Operand.tmp 19], argTypes := #[3] }, type := 9, pos := "l1_fix.go:20", after := #[{ on := 1, ground := Go.Ground.data }], guard := none }) rfl (fun K hK => ?_) AllReadyH.nil
          go_simp
          refine (ih'.out _).mono ?_
          rintro e w1 ⟨rfl, b1⟩
          go_wp2_with fail
          refine hK.out _ _ trivial (fun hHeld => ?_)
          clear hK K
          (try simp only [Act.put, List.setIfInBounds_toArray, List.set_cons_zero, List.set_cons_succ])
          refine wpAnyH_take (i := 9) (oi := { dst := some 27, op := Go.Op.binOp Go.BinOp.add 9 (Go.Operand.tmp 20) (Go.Operand.tmp 26) 9, type := 9, pos := "l1_fix.go:20", after := #[{ on := 2, ground := Go.Ground.data }, { on := 8, ground := Go.Ground.data }], guard := none }) (v := ?_) rfl (by kernel_rfl) (by kernel_rfl) (by kernel_rfl) (fun _ _ _ h => h) (Or.inl ⟨by rfl, ?_⟩) (by assumption) ?_
          rotate_left 1
          · (intro w hSw; (try dsimp only at hSw); go_simp; try with_reducible rfl)
          (try simp only [Act.put, List.setIfInBounds_toArray, List.set_cons_zero, List.set_cons_succ])
          refine wpAnyH_take (i := 10) (oi := { dst := some 2, op := Go.Op.assign (Go.Operand.tmp 27), type := 9, pos := "l1_fix.go:20", after := #[{ on := 9, ground := Go.Ground.data }, { on := 2, ground := Go.Ground.chain }, { on := 0, ground := Go.Ground.phase }, { on := 1, ground := Go.Ground.phase }, { on := 2, ground := Go.Ground.phase }, { on := 3, ground := Go.Ground.phase }, { on := 4, ground := Go.Ground.phase }, { on := 5, ground := Go.Ground.phase }, { on := 6, ground := Go.Ground.phase }, { on := 7, ground := Go.Ground.phase }, { on := 8, ground := Go.Ground.phase }, { on := 9, ground := Go.Ground.phase }], guard := none }) (v := ?_) rfl (by kernel_rfl) (by kernel_rfl) (by kernel_rfl) (fun _ _ _ h => h) (Or.inl ⟨by rfl, ?_⟩) (by assumption) ?_
          rotate_left 1
          · (intro w hSw; (try dsimp only at hSw); go_simp; try with_reducible rfl)
          (try simp only [Act.put, List.setIfInBounds_toArray, List.set_cons_zero, List.set_cons_succ])
          refine wpAnyH_done (by kernel_rfl) ?_ _
          have BB : Below w.heap.size w w1 := btrans b0 b1
          go_wp2
          go_ret
          exact ⟨by rw [e1.out]; rfl, BB⟩

theorem eline_len {f : Fc} (h : eok f = true) : (eline f).length ≤ 20 := by
  obtain ⟨n0, n7, i0, i9, s1, s4⟩ := eok_all h
  have a1 := itoa_len i0 i9
  have a2 := itoa_len s1 s4
  have a3 := word_len f.n
  simp only [ByteArray.size, List.size_toArray] at a1 a2 a3
  unfold eline
  simp only [List.length_append, List.length_cons, List.length_nil]
  split
  · simp; omega
  · split <;> simp <;> omega
set_option maxRecDepth 20000 in
set_option maxHeartbeats 4000000 in
theorem sline_any (f : Fc) (hf : eok f = true) (w : World) (ht : Tabs w) :
    Calls Tryz.prog 29 #[.agg #[.int .i64 f.n, .int .i64 f.i, .int .i64 f.s, .bool f.g]] w fun e w' => e = .returned (.string (bs (eline f))) ∧ Below w.heap.size w w' := by
  obtain ⟨s1, s4, i0, i9, d0, d9⟩ := eok_all hf
  have b0 : Below w.heap.size w (w.alloc (.cells #[.int .i64 f.n, .int .i64 f.i, .int .i64 f.s, .bool f.g] 31)) := balloc _ (Below.refl _ _)
  have p0 : (w.alloc (.cells #[.int .i64 f.n, .int .i64 f.i, .int .i64 f.s, .bool f.g] 31)).heap[w.heap.size]? = some (.cells #[.int .i64 f.n, .int .i64 f.i, .int .i64 f.s, .bool f.g] 31 (0, 0)) := heap_alloc_new _ _
  have t0 := ht.below b0
  go_enter Tryz.func29, Tryz.ntmps29
  go_wp2_with fail
  generalize (w.alloc (.cells #[.int .i64 f.n, .int .i64 f.i, .int .i64 f.s, .bool f.g] 31)) = W0 at *
  have c0 := cell_block (o := 0) (v := .int .i64 f.n) p0 rfl
  have c1 := cell_block (o := 1) (v := .int .i64 f.i) p0 rfl
  have c2 := cell_block (o := 2) (v := .int .i64 f.s) p0 rfl
  have c3 := cell_block (o := 3) (v := .bool f.g) p0 rfl
  obtain ⟨x1, hx1⟩ : ∃ x, Hid (bs (Lib.itoa f.i) = x) := ⟨_, rfl⟩
  obtain ⟨x2, hx2⟩ : ∃ x, Hid (bs (Lib.itoa f.s) = x) := ⟨_, rfl⟩
  obtain ⟨x3, hx3⟩ : ∃ x, Hid (bs (wordK f.n) = x) := ⟨_, rfl⟩
  have z1 := itoa_len i0 i9
  have z2 := itoa_len d0 d9
  have z3 := word_len f.n
  rw [hx1.out] at z1
  rw [hx2.out] at z2
  rw [hx3.out] at z3
  have k1 : ¬ 9223372036854775807 < x3.size + 1 := by omega
  have k2 : ¬ 9223372036854775807 < x3.size + 1 + x1.size := by omega
  have k3 : ¬ 9223372036854775807 < x3.size + 1 + x1.size + 5 := by omega
  have k4 : ¬ 9223372036854775807 < x3.size + 1 + x1.size + 1 := by omega
  have k5 : ¬ 9223372036854775807 < x3.size + 1 + x1.size + 1 + x2.size := by omega
  have tD : Tabs W0.drew := t0.below (qd (Below.refl _ _))
  have b0d := qd b0
  obtain ⟨b0, hb0⟩ : ∃ b, w.heap.size = b := ⟨_, rfl⟩
  rw [hb0] at c0 c1 c2 c3 ⊢
  clear p0 t0
  refine wp_region_held_drew (S := fun w' => w'.cell? ⟨b0, 0, none⟩ = some (.int .i64 f.n) ∧ w'.cell? ⟨b0, 1, none⟩ = some (.int .i64 f.i) ∧ w'.cell? ⟨b0, 2, none⟩ = some (.int .i64 f.s) ∧ w'.cell? ⟨b0, 3, none⟩ = some (.bool f.g)) (by kernel_rfl) ?_ (fun hHeld => ?_)
  · (try dsimp only); (refine ⟨?_, ?_, ?_, ?_⟩ <;> (repeat (first | with_reducible assumption | with_reducible refine keep_drew ?_ | with_reducible refine keep_below (by assumption) ?_)))
  refine wpAnyH_take (i := 0) (oi := { dst := some 4, op := Go.Op.fieldAddr 31 (Go.Operand.tmp 1) 0, type := 0, pos := "l54_script.go:47", after := #[], guard := none }) (v := ?_) rfl (by kernel_rfl) (by kernel_rfl) (by kernel_rfl) (fun _ _ _ h => h) (Or.inl ⟨by rfl, ?_⟩) (by assumption) ?_
  rotate_left 1
  · (intro w hSw; (try dsimp only at hSw); go_simp; try with_reducible rfl)
  (try simp only [Act.put, List.setIfInBounds_toArray, List.set_cons_zero, List.set_cons_succ])
  refine wpAnyH_take (i := 1) (oi := { dst := some 5, op := Go.Op.load 3 (Go.Operand.tmp 4), type := 3, pos := "l54_script.go:47", after := #[{ on := 0, ground := Go.Ground.data }], guard := none }) (v := ?_) rfl (by kernel_rfl) (by kernel_rfl) (by kernel_rfl) (fun _ _ _ h => h) (Or.inl ⟨by rfl, ?_⟩) (by assumption) ?_
  rotate_left 1
  · (intro w hSw; (try dsimp only at hSw); go_simp; try with_reducible rfl)
  (try simp only [Act.put, List.setIfInBounds_toArray, List.set_cons_zero, List.set_cons_succ])
  refine wpAnyH_take (i := 4) (oi := { dst := some 8, op := Go.Op.fieldAddr 31 (Go.Operand.tmp 1) 1, type := 0, pos := "l54_script.go:47", after := #[], guard := none }) (v := ?_) rfl (by kernel_rfl) (by kernel_rfl) (by kernel_rfl) (fun _ _ _ h => h) (Or.inl ⟨by rfl, ?_⟩) (by assumption) ?_
  rotate_left 1
  · (intro w hSw; (try dsimp only at hSw); go_simp; try with_reducible rfl)
  (try simp only [Act.put, List.setIfInBounds_toArray, List.set_cons_zero, List.set_cons_succ])
  refine wpAnyH_take (i := 5) (oi := { dst := some 9, op := Go.Op.load 3 (Go.Operand.tmp 8), type := 3, pos := "l54_script.go:47", after := #[{ on := 4, ground := Go.Ground.data }], guard := none }) (v := ?_) rfl (by kernel_rfl) (by kernel_rfl) (by kernel_rfl) (fun _ _ _ h => h) (Or.inl ⟨by rfl, ?_⟩) (by assumption) ?_
  rotate_left 1
  · (intro w hSw; (try dsimp only at hSw); go_simp; try with_reducible rfl)
  (try simp only [Act.put, List.setIfInBounds_toArray, List.set_cons_zero, List.set_cons_succ])
  refine wpAnyH_ready (rs := [2]) (by kernel_rfl) (by simp) ?_
  refine AllReadyH.cons (o := { dst := some 6, op := Go.Op.call { callee := Go.Callee.value (Go.Operand.func 39), args := #[Go.Operand.const (Go.Value.string { data := #[116, 105, 99, 107, 32, 98, 114, 105, 110, 103, 32, 108, 111, 115, 101, 32, 115, 112, 111, 105, 108, 32, 115, 105, 100, 101, 32, 102, 97, 108, 108, 32, 114, 105, 115, 101, 32, 108, 101, 97, 118, 101, 32, 106, 111, 105, 110] }), Go.Operand.tmp 5], argTypes := #[86, 3] }, type := 9, pos := "l54_script.go:47", after := #[{ on := 1, ground := Go.Ground.data }], guard := none }) rfl (fun K hK => ?_) AllReadyH.nil
  go_simp
  refine (ofn_lit f.n _ s1 s4 hx3.out _ tD).mono ?_; rintro e w1 ⟨rfl, b1⟩; have t1 := tD.below b1
  go_wp2_with fail
  refine hK.out _ _ ?_ (fun hHeld => ?_)
  · (try dsimp only); (refine ⟨?_, ?_, ?_, ?_⟩ <;> (repeat (first | with_reducible assumption | with_reducible refine keep_drew ?_ | with_reducible refine keep_below (by assumption) ?_)))
  clear hK K
  (try simp only [Act.put, List.setIfInBounds_toArray, List.set_cons_zero, List.set_cons_succ])
  refine wpAnyH_take (i := 3) (oi := { dst := some 7, op := Go.Op.binOp Go.BinOp.add 9 (Go.Operand.tmp 6) (Go.Operand.const (Go.Value.string { data := #[32] })) 9, type := 9, pos := "l54_script.go:47", after := #[{ on := 2, ground := Go.Ground.data }], guard := none }) (v := ?_) rfl (by kernel_rfl) (by kernel_rfl) (by kernel_rfl) (fun _ _ _ h => h) (Or.inl ⟨by rfl, ?_⟩) (by assumption) ?_
  rotate_left 1
  · (intro w hSw; (try dsimp only at hSw); go_simp; try with_reducible rfl)
  (try simp only [Act.put, List.setIfInBounds_toArray, List.set_cons_zero, List.set_cons_succ])
  refine wpAnyH_ready (rs := [6]) (by kernel_rfl) (by simp) ?_
  refine AllReadyH.cons (o := { dst := some 10, op := Go.Op.call { callee := Go.Callee.value (Go.Operand.func 40), args := #[Go.Operand.tmp 9], argTypes := #[3] }, type := 9, pos := "l54_script.go:47", after := #[{ on := 5, ground := Go.Ground.data }, { on := 2, ground := Go.Ground.chain }], guard := none }) rfl (fun K hK => ?_) AllReadyH.nil
  go_simp
  refine (itoa_lit f.i _ i0 i9 hx1.out _ t1).mono ?_; rintro e w2 ⟨rfl, b2⟩
  go_wp2_with fail
  refine hK.out _ _ ?_ (fun hHeld => ?_)
  · (try dsimp only); (refine ⟨?_, ?_, ?_, ?_⟩ <;> (repeat (first | with_reducible assumption | with_reducible refine keep_drew ?_ | with_reducible refine keep_below (by assumption) ?_)))
  clear hK K
  (try simp only [Act.put, List.setIfInBounds_toArray, List.set_cons_zero, List.set_cons_succ])
  refine wpAnyH_take (i := 7) (oi := { dst := some 11, op := Go.Op.binOp Go.BinOp.add 9 (Go.Operand.tmp 7) (Go.Operand.tmp 10) 9, type := 9, pos := "l54_script.go:47", after := #[{ on := 3, ground := Go.Ground.data }, { on := 6, ground := Go.Ground.data }], guard := none }) (v := ?_) rfl (by kernel_rfl) (by kernel_rfl) (by kernel_rfl) (fun _ _ _ h => h) (Or.inl ⟨by rfl, ?_⟩) (by assumption) ?_
  rotate_left 1
  · (intro w hSw; (try dsimp only at hSw); go_simp; try with_reducible rfl)
  (try simp only [Act.put, List.setIfInBounds_toArray, List.set_cons_zero, List.set_cons_succ])
  refine wpAnyH_take (i := 8) (oi := { dst := some 3, op := Go.Op.assign (Go.Operand.tmp 11), type := 9, pos := "l54_script.go:47", after := #[{ on := 7, ground := Go.Ground.data }, { on := 6, ground := Go.Ground.chain }, { on := 0, ground := Go.Ground.phase }, { on := 1, ground := Go.Ground.phase }, { on := 2, ground := Go.Ground.phase }, { on := 3, ground := Go.Ground.phase }, { on := 4, ground := Go.Ground.phase }, { on := 5, ground := Go.Ground.phase }, { on := 6, ground := Go.Ground.phase }, { on := 7, ground := Go.Ground.phase }], guard := none }) (v := ?_) rfl (by kernel_rfl) (by kernel_rfl) (by kernel_rfl) (fun _ _ _ h => h) (Or.inl ⟨by rfl, ?_⟩) (by assumption) ?_
  rotate_left 1
  · (intro w hSw; (try dsimp only at hSw); go_simp; try with_reducible rfl)
  (try simp only [Act.put, List.setIfInBounds_toArray, List.set_cons_zero, List.set_cons_succ])
  refine wpAnyH_done (by kernel_rfl) ?_ _
  have B2 : Below w.heap.size w w2 := btrans (btrans b0d b1) b2
  have T2 : Tabs w2 := t1.below b2
  have d2 := keep_below b2 (keep_below b1 (keep_drew c2))
  have d3 := keep_below b2 (keep_below b1 (keep_drew c3))
  clear hHeld b1 b2 b0d c0 c1 c2 c3 t1 tD
  cases hg : f.g
  · by_cases hs : f.s = 0
    · have e1 : bs (eline f) = x3 ++ bs [32] ++ x1 := by
        rw [← hx1.out, ← hx3.out, bs_append, bs_append]
        unfold eline
        rw [hg, hs]
        simp
      have e2 : Hid _ := e1
      rw [hg] at d3
      rw [hs] at d2
      clear hx1 hx2 hx3 e1 hg hs
      go_wp2
      go_ret
      exact ⟨by rw [e2.out]; rfl, B2⟩
    · have e1 : bs (eline f) = x3 ++ bs [32] ++ x1 ++ bs [32] ++ x2 := by
        rw [← hx1.out, ← hx2.out, ← hx3.out, bs_append, bs_append, bs_append, bs_append]
        unfold eline
        rw [hg, if_neg (by simp), if_pos (by omega)]
        simp
      have e2 : Hid _ := e1
      rw [hg] at d3
      clear hx1 hx3 e1 hg
      go_wp2_with fail
      refine (itoa_lit f.s _ d0 d9 hx2.out _ T2).mono ?_
      rintro e w3 ⟨rfl, b3⟩
      have B3 := btrans B2 b3
      clear b3 B2 d2 d3
      go_wp2
      go_ret
      exact ⟨by rw [e2.out]; rfl, B3⟩
  · have e1 : bs (eline f) = x3 ++ bs [32] ++ x1 ++ bs [32, 107, 101, 101, 112] := by
      rw [← hx1.out, ← hx3.out, bs_append, bs_append, bs_append]
      unfold eline
      rw [hg]
      simp
    have e2 : Hid _ := e1
    rw [hg] at d3
    clear hx1 hx2 hx3 e1 hg
    go_wp2
    go_ret
    exact ⟨by rw [e2.out]; rfl, B2⟩
end Go.Proofs.YtlebggbbhkiokaaGreatDoor
