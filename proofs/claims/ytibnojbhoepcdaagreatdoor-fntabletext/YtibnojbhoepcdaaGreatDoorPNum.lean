/- Numbers and words read: the program's way. -/
import Derived.Test.YtibnojbhoepcdaaGreatDoorPMath
import Derived.Lib.SlicesS
import Derived.Lib.AtoiErrMem
namespace Go.Proofs.YtibnojbhoepcdaaGreatDoor
open Go.ChangeShapes Go.WideShapes Go.ChangeAt Go.RowKit
/-- what the readers ask of the world: the library's tables and errors -/
structure Pst (w : World) : Prop where
  t : Tabs w
  s : ∃ tp p, w.var? Tryz.prog "strconv.ErrSyntax" = some #[.iface tp p]
  r : ∃ tp p, w.var? Tryz.prog "strconv.ErrRange" = some #[.iface tp p]
  m : ∃ m : Int, w.cell? ⟨1, 0, none⟩ = some (.int .i64 m)
theorem var_below {n : String} {w w' : World} {cs : Array Value} (h : w.var? Tryz.prog n = some cs) (hb : Below w.heap.size w w') : w'.var? Tryz.prog n = some cs := by
  unfold World.var? at h ⊢
  cases hg : Tryz.prog.globalNamed n with
  | none => rw [hg] at h; cases h
  | some g =>
    rw [hg] at h
    simp only [Option.bind_some] at h ⊢
    have hlt : g < w.heap.size := by
      rcases Nat.lt_or_ge g w.heap.size with h' | h'
      · exact h'
      · rw [Array.getElem?_eq_none h'] at h
        cases h
    rw [hb.block g hlt]
    exact h
theorem Pst.below {w w' : World} (h : Pst w) (hb : Below w.heap.size w w') : Pst w' := by
  obtain ⟨t, ⟨a, b, s⟩, ⟨c, d, r⟩, ⟨m, hm⟩⟩ := h
  exact ⟨t.below hb, ⟨a, b, var_below s hb⟩, ⟨c, d, var_below r hb⟩, ⟨m, keep_below hb hm⟩⟩
theorem atoi_bound {l : List UInt8} {v : Int} (h : Lib.atoiAll l = .ok v) : -9223372036854775808 ≤ v ∧ v ≤ 9223372036854775807 := by
  unfold Lib.atoiAll at h
  split at h
  · cases h
  · simp only at h
    split at h
    · cases h
    · cases h
    · split at h
      · cases h
      · split at h
        · cases h
        · injection h with h
          split at h <;> omega
theorem atoi_any (s : ByteArray) (hs : s.size ≤ 1048576) (v : Int) (h : Lib.atoiAll s.data.toList = .ok v) (w : World) :
    Calls Tryz.prog 107 #[.string s] w fun e w' => e = .returned (.tuple #[.int .i64 v, .nilIface]) ∧ Below w.heap.size w w' := by
  refine (Tryz.strconv_Atoi_ok s (by omega) v h w).mono ?_
  rintro e w' ⟨rfl, rfl | ⟨t, rfl⟩⟩
  · exact ⟨rfl, Below.refl _ _⟩
  · exact ⟨rfl, Lib.bytesWorld_below _ _ _⟩
theorem itoa_all (n : Int) (h0 : -9223372036854775808 ≤ n) (h1 : n ≤ 9223372036854775807) (x : ByteArray) (hx : bs (Lib.itoa n) = x) (w : World) (ht : Tabs w) :
    Calls Tryz.prog 49 #[.int .i64 n] w fun e w' => e = .returned (.string x) ∧ Below w.heap.size w w' := by
  subst hx
  refine (Tryz.strconv_Itoa n h0 h1 w ht.p).mono ?_
  rintro e w' ⟨rfl, k, os, rfl⟩
  exact ⟨rfl, below_grow k os⟩
set_option maxRecDepth 20000 in
set_option maxHeartbeats 4000000 in
theorem number_any (s : ByteArray) (hs : s.size ≤ 1048576) (w : World) (hp : Pst w) :
    Calls Tryz.prog 72 #[.string s] w fun e w' => e = .returned (.tuple #[.int .i64 (pnum s.data.toList).1, .bool (pnum s.data.toList).2]) ∧ Below w.heap.size w w' := by
  cases hat : Lib.atoiAll s.data.toList with
  | ok v =>
    obtain ⟨v0, v1⟩ := atoi_bound hat
    have hpn : pnum s.data.toList = (v, Lib.itoa v == s.data.toList) := by unfold pnum; rw [hat]
    rw [hpn]
    obtain ⟨q, hq⟩ : ∃ q, Hid ((Lib.itoa v == s.data.toList) = q) := ⟨_, rfl⟩
    obtain ⟨x, hx⟩ : ∃ x, Hid (bs (Lib.itoa v) = x) := ⟨_, rfl⟩
    have hxq : (x.toList == s.toList) = q := by
      rw [← hq.out, ← hx.out, ByteArray.toList_eq, ByteArray.toList_eq]
    rw [hq.out]
    clear hpn
    go_enter Tryz.func72, Tryz.ntmps72
    go_wp2_with fail
    refine (atoi_any s hs v hat _).mono ?_
    rintro e w1 ⟨rfl, b1⟩
    go_wp2_with fail
    refine (itoa_all v v0 v1 x hx.out _ (hp.below b1).t).mono ?_
    rintro e w2 ⟨rfl, b2⟩
    have B2 := btrans b1 b2
    clear b1 b2
    go_wp2
    go_ret2
    exact ⟨rfl, B2⟩
  | «syntax» =>
    have hpn : pnum s.data.toList = (0, false) := by unfold pnum; rw [hat]
    rw [hpn]
    obtain ⟨tp, pv, hv⟩ := hp.s
    go_enter Tryz.func72, Tryz.ntmps72
    go_wp2_with fail
    refine (Tryz.strconv_Atoi_syntax_var s (by omega) hat tp pv _ hv).mono ?_
    rintro e w1 ⟨N, rfl, -, -, b1⟩
    clear hv
    go_wp2
    go_ret2
    exact ⟨rfl, b1⟩
  | range =>
    have hpn : pnum s.data.toList = (Lib.atoiSat s.data.toList, false) := by unfold pnum; rw [hat]
    rw [hpn]
    generalize hsat : Lib.atoiSat s.data.toList = z
    obtain ⟨tp, pv, hv⟩ := hp.r
    have hC := Tryz.strconv_Atoi_range_var s (by omega) hat tp pv w hv
    rw [hsat] at hC
    clear hv
    go_enter Tryz.func72, Tryz.ntmps72
    go_wp2_with fail
    refine hC.mono ?_
    rintro e w1 ⟨N, rfl, -, -, b1⟩
    clear hC
    go_wp2
    go_ret2
    exact ⟨rfl, b1⟩
theorem idx_wnum (x : List UInt8) : Lib.idxOfS [bs wa1, bs wa2, bs wa3, bs wa4] (bs x) = wnum x - 1 := by
  have e : ∀ a : List UInt8, (bs a = bs x) ↔ x = a := fun a => ⟨fun h => by have := congrArg (fun z => z.data.toList) h; simpa using this.symm, fun h => by rw [h]⟩
  unfold Lib.idxOfS wnum
  simp only [Lib.idxFromS, e]
  split
  · rfl
  · split
    · rfl
    · split
      · rfl
      · split
        · rfl
        · rfl
theorem wnum_range (x : List UInt8) : 0 ≤ wnum x ∧ wnum x ≤ 4 := by
  unfold wnum
  split
  · omega
  · split
    · omega
    · split
      · omega
      · split <;> omega
set_option maxRecDepth 20000 in
set_option maxHeartbeats 4000000 in
theorem numberOf_any (x : List UInt8) (w : World) (ht : Tabs w) :
    Calls Tryz.prog 73 #[.string (bs [97, 108, 105, 118, 101, 32, 115, 117, 115, 112, 101, 99, 116, 32, 100, 101, 97, 100, 32, 108, 101, 102, 116]), .string (bs x)] w fun e w' => e = .returned (.tuple #[.int .i64 (wnum x), .bool (decide (wnum x ≠ 0))]) ∧ Below w.heap.size w w' := by
  obtain ⟨r0, r4⟩ := wnum_range x
  have hw := idx_wnum x
  generalize wnum x = z at *
  go_enter Tryz.func73, Tryz.ntmps73
  go_wp2_with fail
  refine (names_any _ ht).mono ?_
  rintro e w1 ⟨rfl, rfl⟩
  have hI := Tryz.slices_Index_string w.heap.size 0 4 4 [bs wa1, bs wa2, bs wa3, bs wa4] (bs x) (w.alloc (.cells #[.string (bs wa1), .string (bs wa2), .string (bs wa3), .string (bs wa4)] 9)) (Nat.le_refl _) (by omega) (fun j hj => by
    match j, hj with
    | 0, _ => simp
    | 1, _ => simp
    | 2, _ => simp
    | 3, _ => simp)
  rw [show List.take 4 [bs wa1, bs wa2, bs wa3, bs wa4] = [bs wa1, bs wa2, bs wa3, bs wa4] from rfl, hw] at hI
  clear hw
  have b1 : Below w.heap.size w (w.alloc (.cells #[.string (bs wa1), .string (bs wa2), .string (bs wa3), .string (bs wa4)] 9)) := balloc _ (Below.refl _ _)
  generalize w.alloc (.cells #[.string (bs wa1), .string (bs wa2), .string (bs wa3), .string (bs wa4)] 9) = w2 at *
  go_wp2_with fail
  refine hI.mono ?_
  rintro e w3 ⟨rfl, rfl⟩
  clear hI
  by_cases hz : z = 0
  · subst hz
    go_wp2
    go_ret2
    exact ⟨rfl, b1⟩
  · have hge : (0 : Int) ≤ z - 1 := by omega
    go_wp2
    go_ret2
    exact ⟨by simp [hz]; omega, b1⟩
end Go.Proofs.YtibnojbhoepcdaaGreatDoor
