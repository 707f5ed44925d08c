/- Numbers and words read: the program's way. -/
import Derived.Test.YtlebggbbhkiokaaGreatDoorRTxl
import Derived.Test.YtlebggbbhkiokaaGreatDoorRCut
import Derived.Lib.SlicesS
import Derived.Lib.AtoiErrMem
namespace Go.Proofs.YtlebggbbhkiokaaGreatDoor
open Go.ChangeShapes Go.WideShapes Go.ChangeAt Go.RowKit
attribute [local go_sem ↓] Go.wp_at_zero Go.wp_at_succ
/-- what the readers ask of the world: the library's tables and errors -/
structure Pst (w : World) : Prop where
  t : Tabs w
  s : ∃ tp p, w.var? Tryz.prog "strconv.ErrSyntax" = some #[.iface tp p]
  r : ∃ tp p, w.var? Tryz.prog "strconv.ErrRange" = some #[.iface tp p]
  m : ∃ m : Int, w.cell? ⟨2, 0, none⟩ = some (.int .i64 m)
  l : ∃ p, w.cell? ⟨0, 0, none⟩ = some (.iface 157 (.pointer (some p)))
  e : w.cell? ⟨1, 0, none⟩ = some (.iface 71 (.agg #[.pointer (some ⟨13, 36, none⟩)]))
theorem var_below {n : String} {w w' : World} {cs : Array Value} (h : w.var? Tryz.prog n = some cs) (hb : Below w.heap.size w w') : w'.var? Tryz.prog n = some cs := by
  unfold World.var? at h ⊢
  cases hg : Tryz.prog.globalNamed n with
  | none => rw [hg] at h; cases h
  | some g =>
    rw [hg] at h
    simp only [Option.bind_some] at h ⊢
    have hlt : g < w.heap.size := by
      rcases Nat.lt_or_ge g w.heap.size with h' | h'
      · exact h'
      · rw [Array.getElem?_eq_none h'] at h
        cases h
    rw [hb.block g hlt]
    exact h
theorem Pst.below {w w' : World} (h : Pst w) (hb : Below w.heap.size w w') : Pst w' := by
  obtain ⟨t, ⟨a, b, s⟩, ⟨c, d, r⟩, ⟨m, hm⟩, ⟨p, hl⟩, he⟩ := h
  exact ⟨t.below hb, ⟨a, b, var_below s hb⟩, ⟨c, d, var_below r hb⟩, ⟨m, keep_below hb hm⟩, ⟨p, keep_below hb hl⟩, keep_below hb he⟩
theorem atoi_bound {l : List UInt8} {v : Int} (h : Lib.atoiAll l = .ok v) : -9223372036854775808 ≤ v ∧ v ≤ 9223372036854775807 := by
  unfold Lib.atoiAll at h
  split at h
  · cases h
  · simp only at h
    split at h
    · cases h
    · cases h
    · split at h
      · cases h
      · split at h
        · cases h
        · injection h with h
          split at h <;> omega
theorem atoi_any (s : ByteArray) (hs : s.size ≤ 1048576) (v : Int) (h : Lib.atoiAll s.data.toList = .ok v) (w : World) :
    Calls Tryz.prog 56 #[.string s] w fun e w' => e = .returned (.tuple #[.int .i64 v, .nilIface]) ∧ Below w.heap.size w w' := by
  refine (Tryz.strconv_Atoi_ok s (by omega) v h w).mono ?_
  rintro e w' ⟨rfl, rfl | ⟨t, rfl⟩⟩
  · exact ⟨rfl, Below.refl _ _⟩
  · exact ⟨rfl, Lib.bytesWorld_below _ _ _⟩
theorem itoa_all (n : Int) (h0 : -9223372036854775808 ≤ n) (h1 : n ≤ 9223372036854775807) (x : ByteArray) (hx : bs (Lib.itoa n) = x) (w : World) (ht : Tabs w) :
    Calls Tryz.prog 40 #[.int .i64 n] w fun e w' => e = .returned (.string x) ∧ Below w.heap.size w w' := by
  subst hx
  refine (Tryz.strconv_Itoa n h0 h1 w ht.p).mono ?_
  rintro e w' ⟨rfl, k, os, rfl⟩
  exact ⟨rfl, below_grow k os⟩
set_option maxRecDepth 20000 in
set_option maxHeartbeats 4000000 in
theorem number_any (s : ByteArray) (hs : s.size ≤ 1048576) (w : World) (hp : Pst w) :
    Calls Tryz.prog 45 #[.string s] w fun e w' => e = .returned (.tuple #[.int .i64 (pnum s.data.toList).1, .bool (pnum s.data.toList).2]) ∧ Below w.heap.size w w' := by
  cases hat : Lib.atoiAll s.data.toList with
  | ok v =>
    obtain ⟨v0, v1⟩ := atoi_bound hat
    have hpn : pnum s.data.toList = (v, Lib.itoa v == s.data.toList) := by unfold pnum; rw [hat]
    rw [hpn]
    obtain ⟨q, hq⟩ : ∃ q, Hid ((Lib.itoa v == s.data.toList) = q) := ⟨_, rfl⟩
    obtain ⟨x, hx⟩ : ∃ x, Hid (bs (Lib.itoa v) = x) := ⟨_, rfl⟩
    have hxq : (x.toList == s.toList) = q := by
      rw [← hq.out, ← hx.out, ByteArray.toList_eq, ByteArray.toList_eq]
    rw [hq.out]
    clear hpn
    go_enter Tryz.func45, Tryz.ntmps45
    go_wp2_with fail
    refine (atoi_any s hs v hat _).mono ?_
    rintro e w1 ⟨rfl, b1⟩
    go_wp2_with fail
    refine (itoa_all v v0 v1 x hx.out _ (hp.below b1).t).mono ?_
    rintro e w2 ⟨rfl, b2⟩
    have B2 := btrans b1 b2
    clear b1 b2
    go_wp2
    go_ret2
    exact ⟨rfl, B2⟩
  | «syntax» =>
    have hpn : pnum s.data.toList = (0, false) := by unfold pnum; rw [hat]
    rw [hpn]
    obtain ⟨tp, pv, hv⟩ := hp.s
    go_enter Tryz.func45, Tryz.ntmps45
    go_wp2_with fail
    refine (Tryz.strconv_Atoi_syntax_var s (by omega) hat tp pv _ hv).mono ?_
    rintro e w1 ⟨N, rfl, -, -, b1⟩
    clear hv
    go_wp2
    go_ret2
    exact ⟨rfl, b1⟩
  | range =>
    have hpn : pnum s.data.toList = (Lib.atoiSat s.data.toList, false) := by unfold pnum; rw [hat]
    rw [hpn]
    generalize hsat : Lib.atoiSat s.data.toList = z
    obtain ⟨tp, pv, hv⟩ := hp.r
    have hC := Tryz.strconv_Atoi_range_var s (by omega) hat tp pv w hv
    rw [hsat] at hC
    clear hv
    go_enter Tryz.func45, Tryz.ntmps45
    go_wp2_with fail
    refine hC.mono ?_
    rintro e w1 ⟨N, rfl, -, -, b1⟩
    clear hC
    go_wp2
    go_ret2
    exact ⟨rfl, b1⟩
/-- the number of a word; 0 of any other -/
def numK (x : List UInt8) : Int := Lib.idxOfS [bs wk1, bs wk2, bs wk3, bs wk4, bs wk5, bs wk6, bs wk7, bs wk8, bs wk9] (bs x) + 1
theorem numK_range (x : List UInt8) : 0 ≤ numK x ∧ numK x ≤ 9 := by
  unfold numK Lib.idxOfS
  simp only [Lib.idxFromS]
  repeat' split
  all_goals omega
theorem numK_word (n : Int) (h1 : 1 ≤ n) (h9 : n ≤ 9) : numK (wordK n) = n := by
  have : n = 1 ∨ n = 2 ∨ n = 3 ∨ n = 4 ∨ n = 5 ∨ n = 6 ∨ n = 7 ∨ n = 8 ∨ n = 9 := by omega
  rcases this with rfl | rfl | rfl | rfl | rfl | rfl | rfl | rfl | rfl <;> decide
set_option maxRecDepth 20000 in
set_option maxHeartbeats 4000000 in
theorem numberOf_any (x : List UInt8) (w : World) (ht : Tabs w) :
    Calls Tryz.prog 36 #[.string (bs [116, 105, 99, 107, 32, 98, 114, 105, 110, 103, 32, 108, 111, 115, 101, 32, 115, 112, 111, 105, 108, 32, 115, 105, 100, 101, 32, 102, 97, 108, 108, 32, 114, 105, 115, 101, 32, 108, 101, 97, 118, 101, 32, 106, 111, 105, 110]), .string (bs x)] w fun e w' => e = .returned (.tuple #[.int .i64 (numK x), .bool (decide (numK x ≠ 0))]) ∧ Below w.heap.size w w' := by
  obtain ⟨r0, r4⟩ := numK_range x
  have hw : Lib.idxOfS [bs wk1, bs wk2, bs wk3, bs wk4, bs wk5, bs wk6, bs wk7, bs wk8, bs wk9] (bs x) = numK x - 1 := by unfold numK; omega
  generalize numK x = z at *
  go_enter Tryz.func36, Tryz.ntmps36
  go_wp2_with fail
  refine (names_any _ ht).mono ?_
  rintro e w1 ⟨rfl, rfl⟩
  have hI := Tryz.slices_Index_string w.heap.size 0 9 9 [bs wk1, bs wk2, bs wk3, bs wk4, bs wk5, bs wk6, bs wk7, bs wk8, bs wk9] (bs x) (w.alloc (.cells #[.string (bs wk1), .string (bs wk2), .string (bs wk3), .string (bs wk4), .string (bs wk5), .string (bs wk6), .string (bs wk7), .string (bs wk8), .string (bs wk9)] 9)) (Nat.le_refl _) (by omega) (fun j hj => by
    match j, hj with
    | 0, _ => simp
    | 1, _ => simp
    | 2, _ => simp
    | 3, _ => simp
    | 4, _ => simp
    | 5, _ => simp
    | 6, _ => simp
    | 7, _ => simp
    | 8, _ => simp)
  rw [show List.take 9 [bs wk1, bs wk2, bs wk3, bs wk4, bs wk5, bs wk6, bs wk7, bs wk8, bs wk9] = [bs wk1, bs wk2, bs wk3, bs wk4, bs wk5, bs wk6, bs wk7, bs wk8, bs wk9] from rfl, hw] at hI
  clear hw
  have b1 : Below w.heap.size w (w.alloc (.cells #[.string (bs wk1), .string (bs wk2), .string (bs wk3), .string (bs wk4), .string (bs wk5), .string (bs wk6), .string (bs wk7), .string (bs wk8), .string (bs wk9)] 9)) := balloc _ (Below.refl _ _)
  generalize w.alloc (.cells #[.string (bs wk1), .string (bs wk2), .string (bs wk3), .string (bs wk4), .string (bs wk5), .string (bs wk6), .string (bs wk7), .string (bs wk8), .string (bs wk9)] 9) = w2 at *
  go_wp2_with fail
  refine hI.mono ?_
  rintro e w3 ⟨rfl, rfl⟩
  clear hI
  by_cases hz : z = 0
  · subst hz
    go_wp2
    go_ret2
    exact ⟨rfl, b1⟩
  · have hge : (0 : Int) ≤ z - 1 := by omega
    go_wp2
    go_ret2
    exact ⟨by simp [hz]; omega, b1⟩
/-- a number of at most six figures, and whether it is one -/
def fnum (s : List UInt8) : Int × Bool := ((pnum s).1, (pnum s).2 && inb (pnum s).1 0 999999)
theorem inb_lit (n lo hi : Int) (q : Bool) (h : inb n lo hi = q) (w : World) : Calls Tryz.prog 35 #[.int .i64 n, .int .i64 lo, .int .i64 hi] w fun e w' => e = .returned (.bool q) ∧ w' = w := h ▸ within_any n lo hi w
theorem number_lit (s : ByteArray) (n : Int) (q : Bool) (hs : s.size ≤ 1048576) (hn : pnum s.data.toList = (n, q)) (w : World) (hp : Pst w) :
    Calls Tryz.prog 45 #[.string s] w fun e w' => e = .returned (.tuple #[.int .i64 n, .bool q]) ∧ Below w.heap.size w w' := by
  have := number_any s hs w hp
  rw [hn] at this
  exact this
set_option maxRecDepth 20000 in
theorem figures_any (s : ByteArray) (hs : s.size ≤ 1048576) (w : World) (hp : Pst w) :
    Calls Tryz.prog 37 #[.string s, .int .i64 999999] w fun e w' => e = .returned (.tuple #[.int .i64 (fnum s.data.toList).1, .bool (fnum s.data.toList).2]) ∧ Below w.heap.size w w' := by
  obtain ⟨n, hn⟩ : ∃ n, (pnum s.data.toList).1 = n := ⟨_, rfl⟩
  obtain ⟨q, hq⟩ : ∃ q, (pnum s.data.toList).2 = q := ⟨_, rfl⟩
  obtain ⟨v, hv⟩ : ∃ v, Hid (inb n 0 999999 = v) := ⟨inb n 0 999999, Eq.refl _⟩
  have hN : Hid (pnum s.data.toList = (n, q)) := by unfold Hid; rw [← hn, ← hq]
  have e1 : fnum s.data.toList = (n, q && v) := by unfold fnum; rw [hn, hq, hv.out]
  rw [e1]
  clear hn hq e1
  cases q
  · go_enter Tryz.func37, Tryz.ntmps37
    go_wp2_with fail
    refine (number_lit s n false hs hN.out _ hp).mono ?_
    rintro e w1 ⟨rfl, b1⟩
    go_wp2
    go_ret2
    exact ⟨rfl, b1⟩
  · go_enter Tryz.func37, Tryz.ntmps37
    go_wp2_with fail
    refine (number_lit s n true hs hN.out _ hp).mono ?_
    rintro e w1 ⟨rfl, b1⟩
    go_wp2_with fail
    refine (inb_lit n 0 999999 v hv.out _).mono ?_
    rintro e w2 ⟨rfl, rfl⟩
    go_wp2
    go_ret2
    exact ⟨by simp, b1⟩
theorem fnum_dec (n : Int) (h0 : 0 ≤ n) (h6 : n ≤ 999999) : fnum (Lib.itoa n) = (n, true) := by
  have := pnum_dec n.toNat (by omega)
  rw [← itoa_dec n h0, Int.toNat_of_nonneg h0] at this
  unfold fnum inb
  rw [this]
  simp [h0, h6]
theorem fnum_in {s : List UInt8} (h : (fnum s).2 = true) : 0 ≤ (fnum s).1 ∧ (fnum s).1 ≤ 999999 := by
  unfold fnum inb at h ⊢
  simp at h
  exact ⟨h.2.1, h.2.2⟩
end Go.Proofs.YtlebggbbhkiokaaGreatDoor
