/- Texts of the proof, laid together: PNum, Laid, Laid2, Pick, Draw, Frame, Site, Word. -/
import Derived.Test.YtibnojbhoepcdaaGreatDoorQt2
import Derived.Lib.SlicesS
import Derived.Lib.AtoiErrMem
import Derived.Test.YtibnojbhoepcdaaGreatDoorRows
import Derived.WalkKit
import Derived.ProofKit
import Derived.OpenShut
import Derived.Lib.LaidTab
import Derived.Lay
import Derived.Stop.LaidErr
import Derived.Deep.DeepHandedRow
import Derived.Deep.DeepWitnessRowRef
import Derived.Test.YtibnojbhoepcdaaGreatDoorProg
import Derived.LoopTactic
import Derived.Deep.QuietTactic
import Derived.BigQuiet
import Derived.Laws.Bits64
import Derived.Below
import Derived.Test.YtibnojbhoepcdaaGreatDoorQt1
import Derived.WalkLawsBesides
import Derived.ShutString
import Derived.ChangeOld
/- Numbers and words read: the program's way. -/
namespace Go.Proofs.YtibnojbhoepcdaaGreatDoor
open Go.ChangeShapes Go.WideShapes Go.ChangeAt Go.RowKit
/-- what the readers ask of the world: the library's tables and errors -/
structure Pst (w : World) : Prop where
  t : Tabs w
  s : ∃ tp p, w.var? Tryz.prog "strconv.ErrSyntax" = some #[.iface tp p]
  r : ∃ tp p, w.var? Tryz.prog "strconv.ErrRange" = some #[.iface tp p]
  m : ∃ m : Int, w.cell? ⟨1, 0, none⟩ = some (.int .i64 m)
theorem var_below {n : String} {w w' : World} {cs : Array Value} (h : w.var? Tryz.prog n = some cs) (hb : Below w.heap.size w w') : w'.var? Tryz.prog n = some cs := by
  unfold World.var? at h ⊢
  cases hg : Tryz.prog.globalNamed n with
  | none => rw [hg] at h; cases h
  | some g =>
    rw [hg] at h
    simp only [Option.bind_some] at h ⊢
    have hlt : g < w.heap.size := by
      rcases Nat.lt_or_ge g w.heap.size with h' | h'
      · exact h'
      · rw [Array.getElem?_eq_none h'] at h
        cases h
    rw [hb.block g hlt]
    exact h
theorem Pst.below {w w' : World} (h : Pst w) (hb : Below w.heap.size w w') : Pst w' := by
  obtain ⟨t, ⟨a, b, s⟩, ⟨c, d, r⟩, ⟨m, hm⟩⟩ := h
  exact ⟨t.below hb, ⟨a, b, var_below s hb⟩, ⟨c, d, var_below r hb⟩, ⟨m, keep_below hb hm⟩⟩
theorem atoi_bound {l : List UInt8} {v : Int} (h : Lib.atoiAll l = .ok v) : -9223372036854775808 ≤ v ∧ v ≤ 9223372036854775807 := by
  unfold Lib.atoiAll at h
  split at h
  · cases h
  · simp only at h
    split at h
    · cases h
    · cases h
    · split at h
      · cases h
      · split at h
        · cases h
        · injection h with h
          split at h <;> omega
theorem atoi_any (s : ByteArray) (hs : s.size ≤ 1048576) (v : Int) (h : Lib.atoiAll s.data.toList = .ok v) (w : World) :
    Calls Tryz.prog 107 #[.string s] w fun e w' => e = .returned (.tuple #[.int .i64 v, .nilIface]) ∧ Below w.heap.size w w' := by
  refine (Tryz.strconv_Atoi_ok s (by omega) v h w).mono ?_
  rintro e w' ⟨rfl, rfl | ⟨t, rfl⟩⟩
  · exact ⟨rfl, Below.refl _ _⟩
  · exact ⟨rfl, Lib.bytesWorld_below _ _ _⟩
theorem itoa_all (n : Int) (h0 : -9223372036854775808 ≤ n) (h1 : n ≤ 9223372036854775807) (x : ByteArray) (hx : bs (Lib.itoa n) = x) (w : World) (ht : Tabs w) :
    Calls Tryz.prog 49 #[.int .i64 n] w fun e w' => e = .returned (.string x) ∧ Below w.heap.size w w' := by
  subst hx
  refine (Tryz.strconv_Itoa n h0 h1 w ht.p).mono ?_
  rintro e w' ⟨rfl, k, os, rfl⟩
  exact ⟨rfl, below_grow k os⟩
set_option maxRecDepth 20000 in
set_option maxHeartbeats 4000000 in
theorem number_any (s : ByteArray) (hs : s.size ≤ 1048576) (w : World) (hp : Pst w) :
    Calls Tryz.prog 72 #[.string s] w fun e w' => e = .returned (.tuple #[.int .i64 (pnum s.data.toList).1, .bool (pnum s.data.toList).2]) ∧ Below w.heap.size w w' := by
  cases hat : Lib.atoiAll s.data.toList with
  | ok v =>
    obtain ⟨v0, v1⟩ := atoi_bound hat
    have hpn : pnum s.data.toList = (v, Lib.itoa v == s.data.toList) := by unfold pnum; rw [hat]
    rw [hpn]
    obtain ⟨q, hq⟩ : ∃ q, Hid ((Lib.itoa v == s.data.toList) = q) := ⟨_, rfl⟩
    obtain ⟨x, hx⟩ : ∃ x, Hid (bs (Lib.itoa v) = x) := ⟨_, rfl⟩
    have hxq : (x.toList == s.toList) = q := by
      rw [← hq.out, ← hx.out, ByteArray.toList_eq, ByteArray.toList_eq]
    rw [hq.out]
    clear hpn
    go_enter Tryz.func72, Tryz.ntmps72
    go_wp2_with fail
    refine (atoi_any s hs v hat _).mono ?_
    rintro e w1 ⟨rfl, b1⟩
    go_wp2_with fail
    refine (itoa_all v v0 v1 x hx.out _ (hp.below b1).t).mono ?_
    rintro e w2 ⟨rfl, b2⟩
    have B2 := btrans b1 b2
    clear b1 b2
    go_wp2
    go_ret2
    exact ⟨rfl, B2⟩
  | «syntax» =>
    have hpn : pnum s.data.toList = (0, false) := by unfold pnum; rw [hat]
    rw [hpn]
    obtain ⟨tp, pv, hv⟩ := hp.s
    go_enter Tryz.func72, Tryz.ntmps72
    go_wp2_with fail
    refine (Tryz.strconv_Atoi_syntax_var s (by omega) hat tp pv _ hv).mono ?_
    rintro e w1 ⟨N, rfl, -, -, b1⟩
    clear hv
    go_wp2
    go_ret2
    exact ⟨rfl, b1⟩
  | range =>
    have hpn : pnum s.data.toList = (Lib.atoiSat s.data.toList, false) := by unfold pnum; rw [hat]
    rw [hpn]
    generalize hsat : Lib.atoiSat s.data.toList = z
    obtain ⟨tp, pv, hv⟩ := hp.r
    have hC := Tryz.strconv_Atoi_range_var s (by omega) hat tp pv w hv
    rw [hsat] at hC
    clear hv
    go_enter Tryz.func72, Tryz.ntmps72
    go_wp2_with fail
    refine hC.mono ?_
    rintro e w1 ⟨N, rfl, -, -, b1⟩
    clear hC
    go_wp2
    go_ret2
    exact ⟨rfl, b1⟩
theorem idx_wnum (x : List UInt8) : Lib.idxOfS [bs wa1, bs wa2, bs wa3, bs wa4] (bs x) = wnum x - 1 := by
  have e : ∀ a : List UInt8, (bs a = bs x) ↔ x = a := fun a => ⟨fun h => by have := congrArg (fun z => z.data.toList) h; simpa using this.symm, fun h => by rw [h]⟩
  unfold Lib.idxOfS wnum
  simp only [Lib.idxFromS, e]
  split
  · rfl
  · split
    · rfl
    · split
      · rfl
      · split
        · rfl
        · rfl
theorem wnum_range (x : List UInt8) : 0 ≤ wnum x ∧ wnum x ≤ 4 := by
  unfold wnum
  split
  · omega
  · split
    · omega
    · split
      · omega
      · split <;> omega
set_option maxRecDepth 20000 in
set_option maxHeartbeats 4000000 in
theorem numberOf_any (x : List UInt8) (w : World) (ht : Tabs w) :
    Calls Tryz.prog 73 #[.string (bs [97, 108, 105, 118, 101, 32, 115, 117, 115, 112, 101, 99, 116, 32, 100, 101, 97, 100, 32, 108, 101, 102, 116]), .string (bs x)] w fun e w' => e = .returned (.tuple #[.int .i64 (wnum x), .bool (decide (wnum x ≠ 0))]) ∧ Below w.heap.size w w' := by
  obtain ⟨r0, r4⟩ := wnum_range x
  have hw := idx_wnum x
  generalize wnum x = z at *
  go_enter Tryz.func73, Tryz.ntmps73
  go_wp2_with fail
  refine (names_any _ ht).mono ?_
  rintro e w1 ⟨rfl, rfl⟩
  have hI := Tryz.slices_Index_string w.heap.size 0 4 4 [bs wa1, bs wa2, bs wa3, bs wa4] (bs x) (w.alloc (.cells #[.string (bs wa1), .string (bs wa2), .string (bs wa3), .string (bs wa4)] 9)) (Nat.le_refl _) (by omega) (fun j hj => by
    match j, hj with
    | 0, _ => simp
    | 1, _ => simp
    | 2, _ => simp
    | 3, _ => simp)
  rw [show List.take 4 [bs wa1, bs wa2, bs wa3, bs wa4] = [bs wa1, bs wa2, bs wa3, bs wa4] from rfl, hw] at hI
  clear hw
  have b1 : Below w.heap.size w (w.alloc (.cells #[.string (bs wa1), .string (bs wa2), .string (bs wa3), .string (bs wa4)] 9)) := balloc _ (Below.refl _ _)
  generalize w.alloc (.cells #[.string (bs wa1), .string (bs wa2), .string (bs wa3), .string (bs wa4)] 9) = w2 at *
  go_wp2_with fail
  refine hI.mono ?_
  rintro e w3 ⟨rfl, rfl⟩
  clear hI
  by_cases hz : z = 0
  · subst hz
    go_wp2
    go_ret2
    exact ⟨rfl, b1⟩
  · have hge : (0 : Int) ≤ z - 1 := by omega
    go_wp2
    go_ret2
    exact ⟨by simp [hz]; omega, b1⟩
end Go.Proofs.YtibnojbhoepcdaaGreatDoor
/- The library's variables that the rows list: what they give the walks; a world in which they are laid. -/
namespace Go.Proofs.YtibnojbhoepcdaaGreatDoor
open Go.ChangeShapes Go.WideShapes Go.ChangeAt Go.RowKit
/-- what the rows list -/
abbrev laidL : List (String × DataW Unit) := [("math/bits.deBruijn32tab", Rows.laid_math_bits_deBruijn32tab), ("math/bits.deBruijn64tab", Rows.laid_math_bits_deBruijn64tab), ("internal/strconv.uint64pow10", Rows.laid_internal_strconv_uint64pow10), ("unicode/utf8.acceptRanges", Rows.laid_unicode_utf8_acceptRanges), ("strconv.ErrRange", Rows.laid_strconv_ErrRange), ("strconv.ErrSyntax", Rows.laid_strconv_ErrSyntax), ("unicode.White_Space", Rows.laid_unicode_White_Space), ("strings.asciiSpace", Rows.laid_strings_asciiSpace), ("unicode/utf8.first", Rows.laid_unicode_utf8_first)]
theorem gPow' : Tryz.prog.globalNamed "internal/strconv.uint64pow10" = some 3 := by kernel_rfl
theorem gSpace' : Tryz.prog.globalNamed "strings.asciiSpace" = some 0 := by kernel_rfl
theorem tPow : (Tryz.prog.globals[3]?).map (·.type) = some 170 := by kernel_rfl
theorem tSpace : (Tryz.prog.globals[0]?).map (·.type) = some 142 := by kernel_rfl
theorem pow_eq : (Rows.laid_internal_strconv_uint64pow10 : DataW Unit) = Lib.tabData .u64 Lib.pow10Tab := by kernel_rfl
theorem space_eq : (Rows.laid_strings_asciiSpace : DataW Unit) = Lib.tabData .u8 Lib.asciiSpaceTab := by kernel_rfl
theorem laid_tabs {W : World} (h0 : laidMetH Tryz.prog laidL W) : Tabs W := by
  have h : laidMet Tryz.prog laidL W := h0
  have h3 := h.tail.tail
  have h5 := h.tail.tail.tail.tail.tail.tail.tail
  rw [pow_eq] at h3
  rw [space_eq] at h5
  exact ⟨Lib.tabIs_of_head gPow' tPow Tryz.underlying170 Tryz.underlying146 (by kernel_rfl) (by kernel_rfl) h3, Lib.tabIs_of_head gSpace' tSpace Tryz.underlying142 Tryz.underlying5 (by kernel_rfl) (by kernel_rfl) h5⟩
theorem gSyn : Tryz.prog.globalNamed "strconv.ErrSyntax" = some 6 := by kernel_rfl
theorem gRan : Tryz.prog.globalNamed "strconv.ErrRange" = some 7 := by kernel_rfl
theorem tSyn : (Tryz.prog.globals[6]?).map (·.type) = some 85 := by kernel_rfl
theorem tRan : (Tryz.prog.globals[7]?).map (·.type) = some 85 := by kernel_rfl
theorem starErr : "*" ++ "errors.errorString" = "*errors.errorString" := by decide
theorem rowErr (u : TypeId) (h : Tryz.prog.typeName? 3 u = some "*errors.errorString") : u = 198 :=
  typeName_ptr_named (nm := "errors.errorString") (by rw [starErr]; kernel_rfl) (by kernel_rfl) (by decide) u (by rw [starErr]; exact h)
/-- what the walks ask of the world, out of what is laid and of the shape of bytealg.MaxLen -/
theorem laid_pst {W : World} (h0 : laidMetH Tryz.prog laidL W) (hS : W.ShapedOpen Tryz.prog) : Pst W := by
  have h : laidMet Tryz.prog laidL W := h0
  obtain ⟨a, _, ha, _, _, _⟩ := laid_sentinel (h.tail.tail.tail.tail.tail) gSyn tSyn Tryz.underlying85 rowErr Tryz.underlying198 Tryz.underlying200 rfl rfl Tryz.underlying9 (by kernel_rfl) (by kernel_rfl)
  obtain ⟨b, _, hb, _, _, _⟩ := laid_sentinel (h.tail.tail.tail.tail) gRan tRan Tryz.underlying85 rowErr Tryz.underlying198 Tryz.underlying200 rfl rfl Tryz.underlying9 (by kernel_rfl) (by kernel_rfl)
  exact ⟨laid_tabs h0, ⟨_, _, ha⟩, ⟨_, _, hb⟩, Go.Proofs.cell_of_shapedOpen_int (zero := #[.int .i64 0]) (t := 3) hS (of_decide_eq_true (by kernel_rfl)) (by kernel_rfl) rfl (by kernel_rfl) (by kernel_rfl) Tryz.underlying3⟩
/-- a world for the witness -/
noncomputable def laidWorld (os : Os) : World := World.laidAll Tryz.prog os laidL
theorem laid_met (os : Os) (args : Array Value) : laidMet Tryz.prog laidL ((laidWorld os).forCall (fun _ _ => 0) ⟨#[], args, []⟩).memory :=
  laidMet_laidAll args (by kernel_rfl) (by kernel_rfl)
end Go.Proofs.YtibnojbhoepcdaaGreatDoor
/- deBruijn64tab, out of what is laid. -/
namespace Go.Proofs.YtibnojbhoepcdaaGreatDoor
open Go.ChangeShapes Go.WideShapes Go.ChangeAt Go.RowKit
def dbTab : List Int := [0, 1, 56, 2, 57, 49, 28, 3, 61, 58, 42, 50, 38, 29, 17, 4, 62, 47, 59, 36, 45, 43, 51, 22, 53, 39, 33, 30, 24, 18, 12, 5, 63, 55, 48, 27, 60, 41, 37, 16, 46, 35, 44, 21, 52, 32, 23, 11, 54, 26, 40, 15, 34, 20, 31, 10, 25, 14, 19, 9, 13, 8, 7, 6]
theorem gDb : Tryz.prog.globalNamed "math/bits.deBruijn64tab" = some 9 := by kernel_rfl
theorem db_eq : (Rows.laid_math_bits_deBruijn64tab : DataW Unit) = Lib.tabData .u8 dbTab := by kernel_rfl
theorem tDb : (Tryz.prog.globals[9]?).map (·.type) = some 204 := by kernel_rfl
theorem laid_db {W : World} (h0 : laidMetH Tryz.prog laidL W) : W.cell? ⟨9, 15, none⟩ = some (.int .u8 4) := by
  have h : laidMet Tryz.prog laidL W := h0
  have h2 := h.tail
  rw [db_eq] at h2
  have t : Lib.TabIs Tryz.prog W "math/bits.deBruijn64tab" .u8 dbTab := Lib.tabIs_of_head gDb tDb Tryz.underlying204 Tryz.underlying5 (by kernel_rfl) (by kernel_rfl) h2
  exact t.cell gDb 15 (by decide)
end Go.Proofs.YtibnojbhoepcdaaGreatDoor
/- What a pick from a code comes to, whatever the code: some number in its bounds; only the reader's own place has turned. -/
namespace Go.Proofs.YtibnojbhoepcdaaGreatDoor
open Go.ChangeShapes Go.WideShapes Go.ChangeAt Go.RowKit
set_option maxRecDepth 20000 in
theorem i64_xor_nat (a b : Nat) (ha : a < 9223372036854775808) (hb : b < 9223372036854775808) :
    bits .xor .i64 (a : Int) (b : Int) = ((a ^^^ b : Nat) : Int) := by
  have hx : a ^^^ b < 2 ^ 63 := Nat.xor_lt_two_pow (by omega) (by omega)
  have h1 : (BitVec.ofInt 64 (a : Int)).toNat = a := by
    rw [BitVec.ofInt_natCast, BitVec.toNat_ofNat]; exact Nat.mod_eq_of_lt (by omega)
  have h2 : (BitVec.ofInt 64 (b : Int)).toNat = b := by
    rw [BitVec.ofInt_natCast, BitVec.toNat_ofNat]; exact Nat.mod_eq_of_lt (by omega)
  show IntKind.i64.wrap ((BitVec.ofInt 64 (a : Int) ^^^ BitVec.ofInt 64 (b : Int)).toNat : Int) = _
  rw [BitVec.toNat_xor, h1, h2]
  simp [IntKind.wrap, IntKind.bits, IntKind.signed]
  omega
set_option maxRecDepth 20000 in
theorem xor_pos {x : Int} (h0 : 0 ≤ x) (h1 : x ≤ 1000000000000) : 0 ≤ bits .xor .i64 x (x / 64) ∧ bits .xor .i64 x (x / 64) ≤ 2000000000000 := by
  obtain ⟨n, rfl⟩ := Int.eq_ofNat_of_zero_le h0
  have e : ((n : Nat) : Int) / 64 = ((n / 64 : Nat) : Int) := by omega
  rw [e, i64_xor_nat _ _ (by omega) (by omega)]
  have : n ^^^ (n / 64) < 2 ^ 40 := Nat.xor_lt_two_pow (by omega) (by omega)
  omega

/-- nothing but block rb has turned -/
structure Aside1 (rb : Nat) (w w' : World) : Prop where
  os : w'.os = w.os
  tape : w'.tape = w.tape
  output : w'.output = w.output
  size : w'.heap.size = w.heap.size
  block : ∀ k, k ≠ rb → w'.heap[k]? = w.heap[k]?
set_option maxRecDepth 20000 in
theorem Aside1.below {rb B : Nat} {w w' : World} (h : Aside1 rb w w') (hB : B ≤ rb) : Below B w w' :=
  ⟨h.os, h.tape, h.output, by have := h.size; omega, fun k hk => h.block k (by omega)⟩
set_option maxRecDepth 20000 in
theorem Aside1.cell {rb : Nat} {w w' : World} (h : Aside1 rb w w') {p : Addr} (hp : p.block ≠ rb) : w'.cell? p = w.cell? p := World.cell?_of_block (w := w) (h.block p.block hp)
set_option maxRecDepth 20000 in
theorem Aside1.frozen {rb : Nat} {w w' : World} (h : Aside1 rb w w') {p : Addr} (hp : p.block ≠ rb) : w'.frozen? p = w.frozen? p := World.frozen?_of_block (w := w) (h.block p.block hp)
set_option maxRecDepth 20000 in
theorem Aside1.trans {rb : Nat} {a b c : World} (h : Aside1 rb a b) (k : Aside1 rb b c) : Aside1 rb a c :=
  ⟨k.os.trans h.os, k.tape.trans h.tape, k.output.trans h.output, k.size.trans h.size, fun i hi => (k.block i hi).trans (h.block i hi)⟩
/-- a code: how many bytes are read of it, and which -/
structure Cd where
  len : Nat
  c : Nat → Int
/-- what is picked at place p, from 0 to n-1 -/
def Cd.pk (G : Cd) (p : Nat) (n : Int) : Int :=
  if n < 1 ∨ G.len = 0 then 0
  else if p < G.len then G.c p % n
  else bits .xor .i64 (G.c (p % G.len) * 131 + G.c ((p * 7 + 3) % G.len) * 1117 + (p : Int) * 29 + ((p / G.len : Nat) : Int) * 53) ((G.c (p % G.len) * 131 + G.c ((p * 7 + 3) % G.len) * 1117 + (p : Int) * 29 + ((p / G.len : Nat) : Int) * 53) / 64) % n
/-- a reader of the code G lies at block rb, from B on; the code's bytes lie below B; it has read p of them -/
structure Rd (G : Cd) (B rb p : Nat) (w : World) : Prop where
  le : B ≤ rb
  lt : rb < w.heap.size
  few : p ≤ 1000000
  free : w.frozen? ⟨rb, 1, none⟩ = false
  at' : w.cell? ⟨rb, 1, none⟩ = some (.int .i64 p)
  code : ∃ (a : Option Addr) (cap : Nat), G.len ≤ 2000 ∧ w.cell? ⟨rb, 0, none⟩ = some (.slice a G.len cap) ∧ (∀ i, 0 ≤ G.c i ∧ G.c i ≤ 255) ∧
    (G.len = 0 ∨ ∃ b off, a = some ⟨b, off, none⟩ ∧ b < B ∧ ∀ i, i < G.len → w.cell? ⟨b, off + i, none⟩ = some (.int .u8 (G.c i)))
set_option maxRecDepth 20000 in
theorem aside_set (rb : Nat) (w : World) (o : Nat) (v : Value) (n : Nat) : Aside1 rb w ((w.setCell ⟨rb, o, none⟩ v).drewN n) :=
  ⟨rfl, rfl, rfl, by simp [World.setCell], fun k hk => Below.heap_setCell w ⟨rb, o, none⟩ v k hk⟩
set_option maxRecDepth 20000 in
theorem cell_far {w : World} {p a : Addr} (v : Value) (h : a.block ≠ p.block) : (w.setCell p v).cell? a = w.cell? a :=
  World.cell?_of_block (w := w) (Below.heap_setCell w p v a.block h)
set_option maxRecDepth 20000 in
theorem Rd.step {G : Cd} {B rb p : Nat} {w : World} (h : Rd G B rb p w) (hp : p < 1000000) (n : Nat) : Rd G B rb (p + 1) ((w.setCell ⟨rb, 1, none⟩ (.int .i64 ((p : Int) + 1))).drewN n) := by
  obtain ⟨h1, h2, h3, h4, h5, a, cap, hl, h6, hc0, h7⟩ := h
  refine ⟨h1, by simpa [World.setCell] using h2, by omega, ?_, ?_, a, cap, hl, ?_, hc0, ?_⟩
  · rw [World.frozen?_drewN, World.frozen?_setCell]; exact h4
  · rw [World.cell?_drewN, World.cell?_setCell_same' _ _ _ (by rw [h5]; rfl)]; rfl
  · rw [World.cell?_drewN, World.cell?_setCell_other _ _ _ _ (by simp)]; exact h6
  · rcases h7 with h7 | ⟨b, off, rfl, hb, hc⟩
    · exact .inl h7
    · refine .inr ⟨b, off, rfl, hb, fun i hi => ?_⟩
      rw [World.cell?_drewN, cell_far _ (show b ≠ rb by omega)]; exact hc i hi
set_option maxRecDepth 20000 in
theorem pick_none (rb p : Nat) (n : Int) (w : World) (h1 : w.frozen? ⟨rb, 1, none⟩ = false) (h2 : w.cell? ⟨rb, 1, none⟩ = some (.int .i64 p)) (hp : p ≤ 1000000)
    (h : n < 1) :
    Calls Tryz.prog 29 #[.pointer (some ⟨rb, 0, none⟩), .int .i64 n] w fun e w' => e = .returned (.int .i64 0) ∧ w' = w.setCell ⟨rb, 1, none⟩ (.int .i64 (p + 1)) := by
  go_enter Tryz.func29, Tryz.ntmps29
  go_wp2
  go_ret
  exact ⟨rfl, rfl⟩
set_option maxRecDepth 20000 in
theorem pick_empty (rb p : Nat) (n : Int) (w : World) (a : Option Addr) (cap : Nat) (h1 : w.frozen? ⟨rb, 1, none⟩ = false) (h2 : w.cell? ⟨rb, 1, none⟩ = some (.int .i64 p)) (h3 : w.cell? ⟨rb, 0, none⟩ = some (.slice a 0 cap)) (hp : p ≤ 1000000)
    (h : 1 ≤ n) :
    Calls Tryz.prog 29 #[.pointer (some ⟨rb, 0, none⟩), .int .i64 n] w fun e w' => e = .returned (.int .i64 0) ∧ w' = w.setCell ⟨rb, 1, none⟩ (.int .i64 (p + 1)) := by
  go_enter Tryz.func29, Tryz.ntmps29
  go_wp2
  go_ret
  exact ⟨rfl, rfl⟩
set_option maxRecDepth 20000 in
theorem pick_in (rb p : Nat) (n : Int) (w : World) (b off : Nat) (len cap : Nat) (c : Int) (h1 : w.frozen? ⟨rb, 1, none⟩ = false) (h2 : w.cell? ⟨rb, 1, none⟩ = some (.int .i64 p)) (h3 : w.cell? ⟨rb, 0, none⟩ = some (.slice (some ⟨b, off, none⟩) len cap)) (hp : p ≤ 1000000)
    (hpl : p < len) (hc : w.cell? ⟨b, off + p, none⟩ = some (.int .u8 c)) (hbr : b ≠ rb) (c0 : 0 ≤ c) (c1 : c ≤ 255)
    (h : 1 ≤ n) :
    Calls Tryz.prog 29 #[.pointer (some ⟨rb, 0, none⟩), .int .i64 n] w fun e w' => e = .returned (.int .i64 (c % n)) ∧ w' = w.setCell ⟨rb, 1, none⟩ (.int .i64 (p + 1)) := by
  have hl0 : ((len : Int) == 0) = false := by simp; omega
  go_enter Tryz.func29, Tryz.ntmps29
  go_wp2
  go_ret
  exact ⟨rfl, rfl⟩
set_option maxRecDepth 20000 in
set_option maxHeartbeats 400000 in
theorem pick_past (rb p : Nat) (n : Int) (w : World) (b off : Nat) (len cap : Nat) (c1 c2 : Int) (h1 : w.frozen? ⟨rb, 1, none⟩ = false) (h2 : w.cell? ⟨rb, 1, none⟩ = some (.int .i64 p)) (h3 : w.cell? ⟨rb, 0, none⟩ = some (.slice (some ⟨b, off, none⟩) len cap)) (hp : p ≤ 1000000)
    (hlen : len ≤ 2000) (hl1 : 0 < len) (hpl : len ≤ p) (hbr : b ≠ rb) (k1 k2 q : Nat) (e1 : (p : Int).tmod (len : Int) = (k1 : Int)) (e2 : ((p : Int) * 7 + 3).tmod (len : Int) = (k2 : Int)) (e3 : (p : Int).tdiv (len : Int) = (q : Int)) (l1 : k1 < len) (l2 : k2 < len) (l3 : q ≤ 1000000)
    (hc1 : w.cell? ⟨b, off + k1, none⟩ = some (.int .u8 c1)) (a0 : 0 ≤ c1) (a1 : c1 ≤ 255) 
    (hc2 : w.cell? ⟨b, off + k2, none⟩ = some (.int .u8 c2)) (b0 : 0 ≤ c2) (b1 : c2 ≤ 255) 
    (h : 1 ≤ n) :
    Calls Tryz.prog 29 #[.pointer (some ⟨rb, 0, none⟩), .int .i64 n] w fun e w' => ∃ m, e = .returned (.int .i64 (bits .xor .i64 (c1 * 131 + c2 * 1117 + (p : Int) * 29 + (q : Int) * 53) ((c1 * 131 + c2 * 1117 + (p : Int) * 29 + (q : Int) * 53) / 64) % n)) ∧ w' = (w.setCell ⟨rb, 1, none⟩ (.int .i64 (p + 1))).drewN m := by
  have hl0 : ((len : Int) == 0) = false := by simp; omega
  have hz : (0 : Int) < (len : Int) := by omega
  have hz1 : ¬ len = 0 := by omega
  have hx := xor_pos (x := c1 * 131 + c2 * 1117 + p * 29 + q * 53) (by omega) (by omega)
  go_enter Tryz.func29, Tryz.ntmps29
  go_wp2
  go_quiet (fail)
  go_wp2
  go_ret
  exact ⟨_, rfl, rfl⟩

set_option maxRecDepth 20000 in
theorem nat_tmod (p len : Nat) : ((p : Int)).tmod (len : Int) = ((p % len : Nat) : Int) := by
  rw [Int.tmod_eq_emod_of_nonneg (by omega)]; exact (Int.natCast_emod p len).symm
set_option maxRecDepth 20000 in
theorem nat_tdiv (p len : Nat) : ((p : Int)).tdiv (len : Int) = ((p / len : Nat) : Int) := by
  rw [Int.tdiv_eq_ediv_of_nonneg (by omega)]; exact (Int.natCast_ediv p len).symm
set_option maxRecDepth 20000 in
theorem Cd.pk_bd (G : Cd) (p : Nat) (n : Int) : 0 ≤ G.pk p n ∧ (G.pk p n < n ∨ G.pk p n = 0) := by
  unfold Cd.pk
  split
  · exact ⟨by omega, .inr rfl⟩
  · split
    · exact ⟨Int.emod_nonneg _ (by omega), .inl (Int.emod_lt_of_pos _ (by omega))⟩
    · exact ⟨Int.emod_nonneg _ (by omega), .inl (Int.emod_lt_of_pos _ (by omega))⟩
set_option maxRecDepth 20000 in
/-- a pick from a code: its value is that plain function; the reader is one further; nothing else has turned -/
theorem pick_any {G : Cd} (B rb p : Nat) (n : Int) (w : World) (h : Rd G B rb p w) (hp : p < 1000000) :
    Calls Tryz.prog 29 #[.pointer (some ⟨rb, 0, none⟩), .int .i64 n] w fun e w' => e = .returned (.int .i64 (G.pk p n)) ∧ (0 ≤ G.pk p n ∧ (G.pk p n < n ∨ G.pk p n = 0)) ∧ Rd G B rb (p + 1) w' ∧ Aside1 rb w w' := by
  have hr := h
  obtain ⟨h1, h2, h3, h4, h5, a, cap, hl, h6, hc0, h7⟩ := h
  have hb := G.pk_bd p n
  have fin0 : ∀ (k : Int) (m : Nat), k = G.pk p n → Ending.returned (.int .i64 k) = .returned (.int .i64 (G.pk p n)) ∧ (0 ≤ G.pk p n ∧ (G.pk p n < n ∨ G.pk p n = 0)) ∧ Rd G B rb (p + 1) ((w.setCell ⟨rb, 1, none⟩ (.int .i64 ((p : Int) + 1))).drewN m) ∧ Aside1 rb w ((w.setCell ⟨rb, 1, none⟩ (.int .i64 ((p : Int) + 1))).drewN m) :=
    fun k m e => ⟨by rw [e], hb, hr.step hp m, aside_set rb w 1 _ m⟩
  by_cases hn : n < 1
  · refine (pick_none rb p n w h4 h5 (by omega) hn).mono ?_
    rintro e w' ⟨rfl, rfl⟩
    exact fin0 0 0 (by unfold Cd.pk; rw [if_pos (.inl hn)])
  · by_cases hz : G.len = 0
    · rw [hz] at h6
      refine (pick_empty rb p n w a cap h4 h5 h6 (by omega) (by omega)).mono ?_
      rintro e w' ⟨rfl, rfl⟩
      exact fin0 0 0 (by unfold Cd.pk; rw [if_pos (.inr hz)])
    · rcases h7 with h7 | ⟨b, off, rfl, hbb, hc⟩
      · exact absurd h7 hz
      · by_cases hlt : p < G.len
        · refine (pick_in rb p n w b off G.len cap (G.c p) h4 h5 h6 (by omega) hlt (hc p hlt) (by omega) (hc0 p).1 (hc0 p).2 (by omega)).mono ?_
          rintro e w' ⟨rfl, rfl⟩
          exact fin0 _ 0 (by unfold Cd.pk; rw [if_neg (by omega), if_pos hlt])
        · have l1 := Nat.mod_lt p (by omega : 0 < G.len)
          have l2 := Nat.mod_lt (p * 7 + 3) (by omega : 0 < G.len)
          have l3 := Nat.div_le_self p G.len
          refine (pick_past rb p n w b off G.len cap _ _ h4 h5 h6 (by omega) hl (by omega) (by omega) (by omega) (p % G.len) ((p * 7 + 3) % G.len) (p / G.len) (nat_tmod _ _) (nat_tmod (p * 7 + 3) G.len) (nat_tdiv _ _) l1 l2 (by omega) (hc _ l1) (hc0 _).1 (hc0 _).2 (hc _ l2) (hc0 _).1 (hc0 _).2 (by omega)).mono ?_
          rintro e w' ⟨m, rfl, rfl⟩
          exact fin0 _ m (by unfold Cd.pk; rw [if_neg (by omega), if_neg hlt])
end Go.Proofs.YtibnojbhoepcdaaGreatDoor
/- A code is opened: the reader lies in new memory. -/
namespace Go.Proofs.YtibnojbhoepcdaaGreatDoor
open Go.ChangeShapes Go.WideShapes Go.ChangeAt Go.RowKit
/-- the bytes of a code that came in, below B -/
def Bytes (B : Nat) (w : World) (a : Option Addr) (len : Nat) : Prop :=
  ∃ f : Nat → Int, (∀ i, 0 ≤ f i ∧ f i ≤ 255) ∧ (len = 0 ∨ ∃ b off, a = some ⟨b, off, none⟩ ∧ b < B ∧ ∀ i, i < len → w.cell? ⟨b, off + i, none⟩ = some (.int .u8 (f i)))
/-- of what was there, nothing but block rb has turned -/
structure Off (rb : Nat) (w w' : World) : Prop where
  os : w'.os = w.os
  tape : w'.tape = w.tape
  output : w'.output = w.output
  size : w.heap.size ≤ w'.heap.size
  block : ∀ k, k < w.heap.size → k ≠ rb → w'.heap[k]? = w.heap[k]?
set_option maxRecDepth 20000 in
theorem Off.refl (rb : Nat) (w : World) : Off rb w w := ⟨rfl, rfl, rfl, Nat.le_refl _, fun _ _ _ => rfl⟩
set_option maxRecDepth 20000 in
theorem Off.trans {rb : Nat} {a b c : World} (h : Off rb a b) (k : Off rb b c) : Off rb a c :=
  ⟨k.os.trans h.os, k.tape.trans h.tape, k.output.trans h.output, Nat.le_trans h.size k.size, fun i hi hn => (k.block i (by have := h.size; omega) hn).trans (h.block i hi hn)⟩
set_option maxRecDepth 20000 in
theorem Aside1.off {rb : Nat} {w w' : World} (h : Aside1 rb w w') : Off rb w w' := ⟨h.os, h.tape, h.output, by rw [h.size]; exact Nat.le_refl _, fun k _ hn => h.block k hn⟩
set_option maxRecDepth 20000 in
theorem Off.alloc {rb : Nat} {a b : World} (h : Off rb a b) (o : Obj) : Off rb a (b.alloc o) :=
  h.trans ⟨rfl, rfl, rfl, by simp, fun k hk _ => Below.heap_alloc _ _ _ hk⟩
set_option maxRecDepth 20000 in
theorem Off.below {rb B : Nat} {w w' : World} (h : Off rb w w') (hB : B ≤ rb) (hs : B ≤ w.heap.size) : Below B w w' :=
  ⟨h.os, h.tape, h.output, h.size, fun k hk => h.block k (by omega) (by omega)⟩
set_option maxRecDepth 20000 in
theorem Off.cell {rb : Nat} {w w' : World} (h : Off rb w w') {p : Addr} (hp : p.block < w.heap.size) (hn : p.block ≠ rb) : w'.cell? p = w.cell? p := World.cell?_of_block (w := w) (h.block p.block hp hn)
set_option maxRecDepth 20000 in
theorem Off.frozen {rb : Nat} {w w' : World} (h : Off rb w w') {p : Addr} (hp : p.block < w.heap.size) (hn : p.block ≠ rb) : w'.frozen? p = w.frozen? p := World.frozen?_of_block (w := w) (h.block p.block hp hn)
set_option maxRecDepth 20000 in
theorem Rd.alloc {G : Cd} {B rb p : Nat} {w : World} (h : Rd G B rb p w) (o : Obj) : Rd G B rb p (w.alloc o) := by
  obtain ⟨h1, h2, h3, h4, h5, a, cap, hl, h6, hc0, h7⟩ := h
  have hc : ∀ x : Addr, x.block < w.heap.size → (w.alloc o).cell? x = w.cell? x := fun x hx => World.cell?_of_block (w := w) (Below.heap_alloc w o x.block hx)
  refine ⟨h1, by simp; omega, h3, ?_, ?_, a, cap, hl, ?_, hc0, ?_⟩
  · exact (World.frozen?_of_block (w := w) (Below.heap_alloc w o rb h2)).trans h4
  · rw [hc _ h2]; exact h5
  · rw [hc _ h2]; exact h6
  · rcases h7 with h7 | ⟨b, off, rfl, hb, hcc⟩
    · exact .inl h7
    · refine .inr ⟨b, off, rfl, hb, fun i hi => ?_⟩
      rw [hc _ (show b < w.heap.size by omega)]; exact hcc i hi
set_option maxRecDepth 20000 in
theorem Bytes.below {B B' : Nat} {w w' : World} {a : Option Addr} {len : Nat} (h : Bytes B w a len) (hb : Below B' w w') (hB : B ≤ B') : Bytes B w' a len := by
  obtain ⟨f, hf, h⟩ := h
  refine ⟨f, hf, ?_⟩
  rcases h with h | ⟨b, off, rfl, hbb, hc⟩
  · exact .inl h
  · refine .inr ⟨b, off, rfl, hbb, fun i hi => ?_⟩
    rw [hb.cell (p := ⟨b, off + i, none⟩) (show b < B' by omega)]; exact hc i hi
set_option maxRecDepth 20000 in
theorem Bytes.take {B : Nat} {w : World} {a : Option Addr} {len n : Nat} (h : Bytes B w a len) (hn : n ≤ len) : Bytes B w a n := by
  obtain ⟨f, hf, h⟩ := h
  refine ⟨f, hf, ?_⟩
  rcases h with h | ⟨b, off, rfl, hbb, hc⟩
  · exact .inl (by omega)
  · exact .inr ⟨b, off, rfl, hbb, fun i hi => hc i (by omega)⟩
set_option maxRecDepth 20000 in
theorem rd_new (B : Nat) (a : Option Addr) (len cap : Nat) (w : World) (hB : B ≤ w.heap.size) (h : Bytes B w a len) (hl : len ≤ 2000) :
    ∃ G, Rd G B w.heap.size 0 (w.alloc (.cells #[.slice a len cap, .int .i64 0] 74)) := by
  have hb : Below B w (w.alloc (.cells #[.slice a len cap, .int .i64 0] 74)) := (Below.refl _ _).alloc hB _
  obtain ⟨f, hf, h2⟩ := h.below hb (Nat.le_refl _)
  exact ⟨⟨len, f⟩, hB, by simp, by omega, by simp [go_sem], by simp, a, cap, hl, by simp, hf, h2⟩
set_option maxRecDepth 20000 in
theorem open_any (B : Nat) (a : Option Addr) (len cap : Nat) (w : World) (hB : B ≤ w.heap.size) (h : Bytes B w a len) (hl : len ≤ cap) :
    Calls Tryz.prog 28 #[.slice a len cap] w fun e w' => e = .returned (.pointer (some ⟨w.heap.size, 0, none⟩)) ∧ (∃ G, Rd G B w.heap.size 0 w') ∧ Below w.heap.size w w' ∧ w'.heap.size = w.heap.size + 1 := by
  by_cases hlen : 2000 < len
  · go_enter Tryz.func28, Tryz.ntmps28
    go_wp2
    go_ret
    exact ⟨rfl, rd_new B a 2000 cap w hB (h.take (by omega)) (by omega), (Below.refl _ _).alloc (Nat.le_refl _) _, by simp⟩
  · go_enter Tryz.func28, Tryz.ntmps28
    go_wp2
    go_ret
    exact ⟨rfl, rd_new B a len cap w hB h (by omega), (Below.refl _ _).alloc (Nat.le_refl _) _, by simp⟩
end Go.Proofs.YtibnojbhoepcdaaGreatDoor
/- What the reading of a code that came in gives the walks: its bytes lie in memory that was there before. -/
namespace Go.Proofs.YtibnojbhoepcdaaGreatDoor
open Go.ChangeShapes Go.WideShapes Go.ChangeAt Go.RowKit

theorem own : ownKnob Tryz.prog.godebug = none := by kernel_rfl
theorem laidOut : laidOutB Tryz.prog = true := by kernel_rfl

/-- a slice of integers that came in: nil, or a row of 'cap' cells -/
def IsRow (k : IntKind) (w : World) (a : Option Addr) (len cap : Nat) (zs : List Int) : Prop :=
  (a = none ∧ len = 0 ∧ cap = 0 ∧ zs = []) ∨
  ∃ x, a = some x ∧ len ≤ cap ∧ cap ≤ maxLen ∧ zs.length = cap ∧ (∀ i, i < zs.length → w.cell? (x.add i) = some (.int k (zs.getD i 0))) ∧ ∀ n ∈ zs, (Lit.int k n).wf = true

theorem bytes_of_row {w : World} {a : Option Addr} {len cap : Nat} {zs : List Int} (h : IsRow .u8 w a len cap zs) :
    Bytes w.heap.size w a len ∧ len ≤ cap := by
  rcases h with ⟨rfl, rfl, rfl, rfl⟩ | ⟨x, rfl, hl, hm, hz, hcell, hwz⟩
  · exact ⟨⟨fun _ => 0, fun _ => (show (0 : Int) ≤ 0 ∧ (0 : Int) ≤ 255 by omega), .inl rfl⟩, by omega⟩
  · refine ⟨?_, hl⟩
    have hbd : ∀ i, 0 ≤ zs.getD i 0 ∧ zs.getD i 0 ≤ 255 := fun i => by
      by_cases hi : i < zs.length
      · have hin : zs.getD i 0 ∈ zs := by
          rw [List.getD_eq_getElem?_getD, List.getElem?_eq_getElem hi]
          exact List.getElem_mem hi
        have hw := hwz _ hin
        simpa [Lit.wf, IntKind.min, IntKind.max, IntKind.signed, IntKind.bits] using hw
      · rw [List.getD_eq_getElem?_getD, List.getElem?_eq_none (by omega)]
        exact ⟨by simp, by simp⟩
    refine ⟨fun i => zs.getD i 0, hbd, ?_⟩
    by_cases h0 : len = 0
    · exact .inl h0
    · obtain ⟨b, off, spot⟩ := x
      have hc := hcell 0 (by omega)
      have hspot : spot = none := by simpa [Addr.add] using World.cell?_spot hc
      subst hspot
      have hb : b < w.heap.size := by
        have := World.block_lt_of_cell? _ _ hc
        simpa [Addr.add] using this
      refine .inr ⟨b, off, rfl, hb, fun i hi => ?_⟩
      have hci := hcell i (by omega)
      rw [← hci]; cases i <;> rfl
theorem len_of_row {k : IntKind} {w : World} {a : Option Addr} {len cap : Nat} {zs : List Int} (h : IsRow k w a len cap zs) : len ≤ maxLen := by
  rcases h with ⟨rfl, rfl, rfl, rfl⟩ | ⟨x, rfl, hl, hm, _⟩ <;> omega
end Go.Proofs.YtibnojbhoepcdaaGreatDoor
/- Coordinates that are ok; sites: whether all facts are of one site, the program's way and the model's. -/
namespace Go.Proofs.YtibnojbhoepcdaaGreatDoor
open Go.ChangeShapes Go.WideShapes Go.ChangeAt Go.RowKit
attribute [local go_sem ↓] Go.wp_at_zero Go.wp_at_succ
def cok (x y h e : Int) : Bool := inb x (-100000) 100000 && inb y (-100000) 100000 && inb h 0 100000 && inb e 1 1500
theorem scoord_any (x y h e : Int) (w : World) :
    Calls Tryz.prog 62 #[.agg #[.int .i64 x, .int .i64 y, .int .i64 h, .int .i64 e]] w fun r w' => r = .returned (.bool (cok x y h e)) ∧ Below w.heap.size w w' := by
  go_enter Tryz.func62, Tryz.ntmps62
  go_wp2_with (go_at_call 61; refine (lin_any _ _ _ _).mono ?_; rintro e w' ⟨rfl, rfl⟩)
  all_goals (go_ret; exact ⟨ret_bool (by simp_all [cok]), (Below.refl _ _).alloc (Nat.le_refl _) _⟩)
theorem stand_any (x y h e : Int) (w : World) :
    Calls Tryz.prog 94 #[.agg #[.int .i64 x, .int .i64 y, .int .i64 h, .int .i64 e]] w fun r w' => r = .returned (.agg #[.int .i64 x, .int .i64 y, .int .i64 h, .int .i64 e]) ∧ ∃ o1 o2, w' = (w.alloc o1).alloc o2 := by
  go_enter Tryz.func94, Tryz.ntmps94
  go_wp2
  exact bodyPost_ret (v := .agg #[.int .i64 x, .int .i64 y, .int .i64 h, .int .i64 e]) (by simp [results, Tryz.results94, go_sem]) rfl ⟨rfl, _, _, rfl⟩
theorem fcok_any (x y h e : Int) (w : World) :
    Calls Tryz.prog 59 #[.agg #[.int .i64 x, .int .i64 y, .int .i64 h, .int .i64 e]] w fun r w' => r = .returned (.bool (cok x y h e)) ∧ Below w.heap.size w w' := by
  go_enter Tryz.func59, Tryz.ntmps59
  go_wp2_with (first | (go_at_call 57; refine (within_any _ _ _ _).mono ?_; rintro e w' ⟨rfl, rfl⟩) | (go_at_call 94; refine (stand_any _ _ _ _ _).mono ?_; rintro e w' ⟨rfl, o1, o2, rfl⟩) | (go_at_call 95; go_in) | (go_at_call 96; go_in))
  all_goals (go_ret; refine ⟨ret_bool (by simp_all [cok]), ?_⟩)
  all_goals (repeat (first | exact Below.refl _ _ | refine Below.alloc ?_ (by simp <;> omega) _))
/-- the site of a node -/
def ste (n : Int) : Int := wrap64 (n.tdiv 4)
theorem siteOf_any (n : Int) (w : World) :
    Calls Tryz.prog 98 #[.int .i64 n] w fun r w' => r = .returned (.int .i64 (ste n)) ∧ w' = w := by
  go_enter Tryz.func98, Tryz.ntmps98
  go_wp2
  go_ret
  exact ⟨rfl, rfl⟩
def sitB (len : Nat) (F : Nat → Fc) (st : Int) : Bool := decide (∀ k, k < len → ste (F k).n = st)
set_option maxHeartbeats 1000000 in
theorem ssite_any (a : Option Addr) (len cap : Nat) (F : Nat → Fc) (st : Int) (w : World) (h : FSl w a len F) (hl : len ≤ 1048576) :
    Calls Tryz.prog 63 #[.slice a len cap, .int .i64 st] w fun e w' => e = .returned (.bool (sitB len F st)) ∧ Below w.heap.size w w' := by
  go_enter Tryz.func63, Tryz.ntmps63
  go_wp2
  go_loopw [5] (fun i wr => ∃ k : Nat, k ≤ len ∧ i = .int .i64 k ∧ Below w.heap.size w wr ∧ (∀ j, j < k → ste (F j).n = st)) (fun i _ => len - (intOf i).toNat)
  case atStart => exact ⟨0, by omega, rfl, Below.refl _ _, fun j h1 => by omega⟩
  case round =>
    obtain ⟨k, hk, rfl, hb, hall⟩ := hrel
    by_cases hlt : k < len
    · obtain ⟨b, off, rfl, hbl, hf⟩ := h (by omega)
      obtain ⟨c0, c1, c2, c3⟩ := (hf.below hb hbl) k hlt
      have i0 : (0 : Int) ≤ (k : Int) := by omega
      have i1 : (k : Int) < (len : Int) := by omega
      have hst : wrap64 ((F k).n.tdiv 4) = ste (F k).n := rfl
      by_cases hs : ste (F k).n = st
      · have e1 : ¬ (ste (F k).n ≠ st) := by simp [hs]
        go_wp2
        go_roundw
        case rel => exact ⟨k + 1, by omega, by go_num, hb, fun j hj => by
          by_cases e : j = k
          · subst e; exact hs
          · exact hall j (by omega)⟩
        case measure => simp [intOf]; omega
      · go_wp2
        go_ret
        refine ⟨ret_bool ?_, hb⟩
        unfold sitB
        symm
        exact decide_eq_false fun h => hs (h k hlt)
    · go_wp2
      go_ret
      refine ⟨ret_bool ?_, hb⟩
      unfold sitB
      symm
      rw [decide_eq_true_iff]
      exact fun j hj => hall j (by omega)
/-- whether a fact is of another site -/
def outB (n st : Int) : Bool := ste n != st
theorem clo_any (n i s : Int) (g : Bool) (st : Int) (ps : Nat) (w : World) (hp : w.cell? ⟨ps, 0, none⟩ = some (.int .i64 st)) :
    Calls Tryz.prog 126 #[.agg #[.int .i64 n, .int .i64 i, .int .i64 s, .bool g], .pointer (some ⟨ps, 0, none⟩)] w fun r w' => r = .returned (.bool (outB n st)) ∧ Below w.heap.size w w' := by
  go_enter Tryz.func126, Tryz.ntmps126
  go_wp2_with fail
  have c0 : (w.alloc (.cells #[.int .i64 n, .int .i64 i, .int .i64 s, .bool g] 53)).cell? ⟨w.heap.size, 0, none⟩ = some (.int .i64 n) := by simp [go_sem]
  have c1 := keep_alloc (.cells #[.int .i64 n, .int .i64 i, .int .i64 s, .bool g] 53) hp
  have bw := balloc (.cells #[.int .i64 n, .int .i64 i, .int .i64 s, .bool g] 53) (Below.refl w.heap.size w)
  generalize (w.alloc (.cells #[.int .i64 n, .int .i64 i, .int .i64 s, .bool g] 53)) = W at *
  refine wp_region_held_drew (S := (fun w' => w'.cell? ⟨w.heap.size, 0, none⟩ = some (.int .i64 n) ∧ w'.cell? ⟨ps, 0, none⟩ = some (.int .i64 st))) (by kernel_rfl) ?_ (fun hHeld => ?_)
  · (try dsimp only); (refine ⟨?_, ?_⟩ <;> (repeat (first | with_reducible assumption | with_reducible refine keep_drew ?_ | with_reducible refine keep_below (by assumption) ?_)))
  refine tl (i := 0) (oi := { dst := some 4, op := .fieldAddr 53 (.tmp 2) 0, type := 0, pos := "l4_word.go:198", after := #[], guard := none }) ?_
  (try simp only [pq])
  refine tl (i := 1) (oi := { dst := some 5, op := .load 3 (.tmp 4), type := 3, pos := "l4_word.go:198", after := #[{ on := 0, ground := .data }], guard := none }) ?_
  (try simp only [pq])
  refine tl (i := 3) (oi := { dst := some 7, op := .load 3 (.tmp 1), type := 3, pos := "l4_word.go:198", after := #[], guard := none }) ?_
  (try simp only [pq])
  refine wpAnyH_ready (rs := [2]) (by kernel_rfl) (by simp) ?_
  refine AllReadyH.cons (o := { dst := some 6, op := .call { callee := .value (.func 98), args := #[.tmp 5], argTypes := #[3] }, type := 3, pos := "l4_word.go:198", after := #[{ on := 1, ground := .data }], guard := none }) rfl (fun K hK => ?_) AllReadyH.nil
  go_simp
  (refine (siteOf_any n _).mono ?_; rintro e w1 ⟨rfl, hw⟩; obtain rfl := hw.symm)
  go_wp2_with fail
  refine hK.out _ _ ?_ (fun hHeld => ?_)
  · (try dsimp only); (refine ⟨?_, ?_⟩ <;> (repeat (first | with_reducible assumption | with_reducible refine keep_drew ?_ | with_reducible refine keep_below (by assumption) ?_)))
  clear hK K
  (try simp only [pq])
  refine tl (i := 4) (oi := { dst := some 8, op := .binOp .neq 3 (.tmp 6) (.tmp 7) 3, type := 4, pos := "l4_word.go:198", after := #[{ on := 2, ground := .data }, { on := 3, ground := .data }], guard := none }) ?_
  (try simp only [pq])
  refine tl (i := 5) (oi := { dst := some 3, op := .assign (.tmp 8), type := 4, pos := "l4_word.go:198", after := #[{ on := 4, ground := .data }, { on := 2, ground := .chain }, { on := 0, ground := .phase }, { on := 1, ground := .phase }, { on := 2, ground := .phase }, { on := 3, ground := .phase }, { on := 4, ground := .phase }], guard := none }) ?_
  (try simp only [pq])
  refine wpAnyH_done (by kernel_rfl) ?_ _
  go_wp2
  go_ret
  exact ⟨rfl, bw.drew⟩
theorem clo_lit (n i s : Int) (g : Bool) (st : Int) (ps : Nat) (b : Bool) (hb : outB n st = b) (w : World) (hp : w.cell? ⟨ps, 0, none⟩ = some (.int .i64 st)) :
    Calls Tryz.prog 126 #[.agg #[.int .i64 n, .int .i64 i, .int .i64 s, .bool g], .pointer (some ⟨ps, 0, none⟩)] w fun r w' => r = .returned (.bool b) ∧ Below w.heap.size w w' := hb ▸ clo_any n i s g st ps w hp
set_option maxHeartbeats 1000000 in
theorem idx_any (a : Option Addr) (len cap : Nat) (F : Nat → Fc) (st : Int) (ps : Nat) (w : World) (h : FSl w a len F) (hl : len ≤ 1048576) (hp : w.cell? ⟨ps, 0, none⟩ = some (.int .i64 st)) :
    Calls Tryz.prog 150 #[.slice a len cap, .func (.func 126) #[] #[.pointer (some ⟨ps, 0, none⟩)]] w fun e w' => ∃ r : Int, e = .returned (.int .i64 r) ∧ ((sitB len F st = true ∧ r = -1) ∨ (sitB len F st = false ∧ 0 ≤ r)) ∧ Below w.heap.size w w' := by
  go_enter Tryz.func150, Tryz.ntmps150
  go_wp2
  go_loopw [5, 8] (fun _ i wr => ∃ k : Nat, k ≤ len ∧ i = .int .i64 k ∧ Below w.heap.size w wr ∧ (∀ j, j < k → ste (F j).n = st)) (fun _ i _ => len - (intOf i).toNat)
  case atStart => exact ⟨0, by omega, rfl, Below.refl _ _, fun j h1 => by omega⟩
  case round =>
    obtain ⟨k, hk, rfl, hb, hall⟩ := hrel
    by_cases hlt : k < len
    · obtain ⟨b, off, rfl, hbl, hf⟩ := h (by omega)
      obtain ⟨c0, c1, c2, c3⟩ := (hf.below hb hbl) k hlt
      have i0 : (0 : Int) ≤ (k : Int) := by omega
      have i1 : (k : Int) < (len : Int) := by omega
      have hpr := keep_below hb hp
      cases ho : outB (F k).n st
      · have ho' : Hid (outB (F k).n st = false) := ho
        clear ho
        go_wp2_with (go_at_call 126; refine (clo_lit _ _ _ _ _ _ false ho'.out _ hpr).mono ?_; rintro e w1 ⟨rfl, b1⟩)
        go_roundw
        case rel => exact ⟨k + 1, by omega, by go_num, btrans hb b1, fun j hj => by
          by_cases e : j = k
          · subst e; have := ho'.out; unfold outB at this; simpa using this
          · exact hall j (by omega)⟩
        case measure => simp [intOf]; omega
      · have ho' : Hid (outB (F k).n st = true) := ho
        clear ho
        go_wp2_with (go_at_call 126; refine (clo_lit _ _ _ _ _ _ true ho'.out _ hpr).mono ?_; rintro e w1 ⟨rfl, b1⟩)
        go_ret
        refine ⟨k, rfl, .inr ⟨?_, by omega⟩, btrans hb b1⟩
        unfold sitB
        refine decide_eq_false fun h => ?_
        have h1 := h k hlt
        have h2 := ho'.out
        unfold outB at h2
        simp [h1] at h2
    · go_wp2
      go_ret
      refine ⟨-1, rfl, .inl ⟨?_, rfl⟩, hb⟩
      unfold sitB
      rw [decide_eq_true_iff]
      exact fun j hj => hall j (by omega)
theorem cont_any (a : Option Addr) (len cap : Nat) (F : Nat → Fc) (st : Int) (ps : Nat) (w : World) (h : FSl w a len F) (hl : len ≤ 1048576) (hp : w.cell? ⟨ps, 0, none⟩ = some (.int .i64 st)) :
    Calls Tryz.prog 125 #[.slice a len cap, .func (.func 126) #[] #[.pointer (some ⟨ps, 0, none⟩)]] w fun e w' => e = .returned (.bool (!sitB len F st)) ∧ Below w.heap.size w w' := by
  go_enter Tryz.func125, Tryz.ntmps125
  go_wp2_with fail
  refine (idx_any a len cap F st ps _ h hl hp).mono ?_
  rintro e w1 ⟨r, rfl, hr, b1⟩
  rcases hr with ⟨hs, rfl⟩ | ⟨hs, hr⟩
  · have hs' : Hid (sitB len F st = true) := hs
    clear hs
    go_wp2
    go_ret
    exact ⟨ret_bool (by rw [hs'.out]; rfl), b1⟩
  · have hs' : Hid (sitB len F st = false) := hs
    clear hs
    go_wp2
    go_ret
    exact ⟨ret_bool (by rw [hs'.out]; simp <;> omega), b1⟩
theorem allOf_any (a : Option Addr) (len cap : Nat) (F : Nat → Fc) (st : Int) (w : World) (h : FSl w a len F) (hl : len ≤ 1048576) :
    Calls Tryz.prog 97 #[.slice a len cap, .int .i64 st] w fun e w' => e = .returned (.bool (sitB len F st)) ∧ Below w.heap.size w w' := by
  go_enter Tryz.func97, Tryz.ntmps97
  go_wp2_with fail
  refine (cont_any a len cap F st _ _ (h.below (balloc _ (Below.refl _ _))) hl (by simp [go_sem])).mono ?_
  rintro e w1 ⟨rfl, b1⟩
  go_wp2
  go_ret
  exact ⟨ret_bool (by simp), btrans (balloc _ (Below.refl _ _)) b1⟩
end Go.Proofs.YtibnojbhoepcdaaGreatDoor
/- Words that are ok: the program's way and the model's. -/
namespace Go.Proofs.YtibnojbhoepcdaaGreatDoor
open Go.ChangeShapes Go.WideShapes Go.ChangeAt Go.RowKit
attribute [local go_sem ↓] Go.wp_at_zero Go.wp_at_succ
/-- the facts' sites are as they should be -/
def wsB (len : Nat) (F : Nat → Fc) (k f : Int) : Bool := if k = 6 then decide (0 < len) && sitB len F (ste (F 0).n) else sitB len F (ste f)
def preB (p k f t s q x y z e : Int) (len : Nat) (F : Nat → Fc) : Bool := inb p 1 2 && inb k 1 6 && inb f 0 7 && inb t 0 7 && inb s 0 999999 && inb q 0 7 && cok x y z e && tokB len F
def wokB (p k f t s q x y z e : Int) (len : Nat) (F : Nat → Fc) : Bool := preB p k f t s q x y z e len F && wsB len F k f
theorem first_cell {w : World} {b off len : Nat} {F : Nat → Fc} (h : FactsIn w b off len F) (hl : 0 < len) : w.cell? ⟨b, off, none⟩ = some (.int .i64 (F 0).n) := by
  have := (h 0 hl).1
  simpa using this
set_option maxRecDepth 10000 in
set_option maxHeartbeats 4000000 in
theorem sites_any (p k f t s q x y z e : Int) (a : Option Addr) (len cap : Nat) (F : Nat → Fc) (w : World) (h : FSl w a len F) (hl : len ≤ 1048576) :
    Calls Tryz.prog 60 #[.agg #[.int .i64 p, .int .i64 k, .int .i64 f, .int .i64 t, .int .i64 s, .int .i64 q, .int .i64 x, .int .i64 y, .int .i64 z, .int .i64 e, (.slice a len cap)]] w fun r w' => r = .returned (.bool (wsB len F k f)) ∧ Below w.heap.size w w' := by
  by_cases hk : k = 6
  · subst hk
    rcases Nat.eq_zero_or_pos len with h0 | h0
    · subst h0
      go_enter Tryz.func60, Tryz.ntmps60
      go_wp2_with fail
      have c0 : (w.alloc (.cells #[.int .i64 p, .int .i64 6, .int .i64 f, .int .i64 t, .int .i64 s, .int .i64 q, .int .i64 x, .int .i64 y, .int .i64 z, .int .i64 e, (.slice a 0 cap)] 35)).cell? ⟨w.heap.size, 0, none⟩ = some (.int .i64 p) := by simp [go_sem]
      have c1 : (w.alloc (.cells #[.int .i64 p, .int .i64 6, .int .i64 f, .int .i64 t, .int .i64 s, .int .i64 q, .int .i64 x, .int .i64 y, .int .i64 z, .int .i64 e, (.slice a 0 cap)] 35)).cell? ⟨w.heap.size, 1, none⟩ = some (.int .i64 6) := by simp [go_sem]
      have c2 : (w.alloc (.cells #[.int .i64 p, .int .i64 6, .int .i64 f, .int .i64 t, .int .i64 s, .int .i64 q, .int .i64 x, .int .i64 y, .int .i64 z, .int .i64 e, (.slice a 0 cap)] 35)).cell? ⟨w.heap.size, 2, none⟩ = some (.int .i64 f) := by simp [go_sem]
      have c3 : (w.alloc (.cells #[.int .i64 p, .int .i64 6, .int .i64 f, .int .i64 t, .int .i64 s, .int .i64 q, .int .i64 x, .int .i64 y, .int .i64 z, .int .i64 e, (.slice a 0 cap)] 35)).cell? ⟨w.heap.size, 3, none⟩ = some (.int .i64 t) := by simp [go_sem]
      have c4 : (w.alloc (.cells #[.int .i64 p, .int .i64 6, .int .i64 f, .int .i64 t, .int .i64 s, .int .i64 q, .int .i64 x, .int .i64 y, .int .i64 z, .int .i64 e, (.slice a 0 cap)] 35)).cell? ⟨w.heap.size, 4, none⟩ = some (.int .i64 s) := by simp [go_sem]
      have c5 : (w.alloc (.cells #[.int .i64 p, .int .i64 6, .int .i64 f, .int .i64 t, .int .i64 s, .int .i64 q, .int .i64 x, .int .i64 y, .int .i64 z, .int .i64 e, (.slice a 0 cap)] 35)).cell? ⟨w.heap.size, 5, none⟩ = some (.int .i64 q) := by simp [go_sem]
      have c6 : (w.alloc (.cells #[.int .i64 p, .int .i64 6, .int .i64 f, .int .i64 t, .int .i64 s, .int .i64 q, .int .i64 x, .int .i64 y, .int .i64 z, .int .i64 e, (.slice a 0 cap)] 35)).cell? ⟨w.heap.size, 6, none⟩ = some (.int .i64 x) := by simp [go_sem]
      have c7 : (w.alloc (.cells #[.int .i64 p, .int .i64 6, .int .i64 f, .int .i64 t, .int .i64 s, .int .i64 q, .int .i64 x, .int .i64 y, .int .i64 z, .int .i64 e, (.slice a 0 cap)] 35)).cell? ⟨w.heap.size, 7, none⟩ = some (.int .i64 y) := by simp [go_sem]
      have c8 : (w.alloc (.cells #[.int .i64 p, .int .i64 6, .int .i64 f, .int .i64 t, .int .i64 s, .int .i64 q, .int .i64 x, .int .i64 y, .int .i64 z, .int .i64 e, (.slice a 0 cap)] 35)).cell? ⟨w.heap.size, 8, none⟩ = some (.int .i64 z) := by simp [go_sem]
      have c9 : (w.alloc (.cells #[.int .i64 p, .int .i64 6, .int .i64 f, .int .i64 t, .int .i64 s, .int .i64 q, .int .i64 x, .int .i64 y, .int .i64 z, .int .i64 e, (.slice a 0 cap)] 35)).cell? ⟨w.heap.size, 9, none⟩ = some (.int .i64 e) := by simp [go_sem]
      have c10 : (w.alloc (.cells #[.int .i64 p, .int .i64 6, .int .i64 f, .int .i64 t, .int .i64 s, .int .i64 q, .int .i64 x, .int .i64 y, .int .i64 z, .int .i64 e, (.slice a 0 cap)] 35)).cell? ⟨w.heap.size, 10, none⟩ = some (.slice a 0 cap) := by simp [go_sem]
      have bw := balloc (.cells #[.int .i64 p, .int .i64 6, .int .i64 f, .int .i64 t, .int .i64 s, .int .i64 q, .int .i64 x, .int .i64 y, .int .i64 z, .int .i64 e, (.slice a 0 cap)] 35) (Below.refl w.heap.size w)
      generalize (w.alloc (.cells #[.int .i64 p, .int .i64 6, .int .i64 f, .int .i64 t, .int .i64 s, .int .i64 q, .int .i64 x, .int .i64 y, .int .i64 z, .int .i64 e, (.slice a 0 cap)] 35)) = W at *
      refine wp_region_held_drew (S := (fun w' => w'.cell? ⟨w.heap.size, 0, none⟩ = some (.int .i64 p) ∧ w'.cell? ⟨w.heap.size, 1, none⟩ = some (.int .i64 6) ∧ w'.cell? ⟨w.heap.size, 2, none⟩ = some (.int .i64 f) ∧ w'.cell? ⟨w.heap.size, 3, none⟩ = some (.int .i64 t) ∧ w'.cell? ⟨w.heap.size, 4, none⟩ = some (.int .i64 s) ∧ w'.cell? ⟨w.heap.size, 5, none⟩ = some (.int .i64 q) ∧ w'.cell? ⟨w.heap.size, 6, none⟩ = some (.int .i64 x) ∧ w'.cell? ⟨w.heap.size, 7, none⟩ = some (.int .i64 y) ∧ w'.cell? ⟨w.heap.size, 8, none⟩ = some (.int .i64 z) ∧ w'.cell? ⟨w.heap.size, 9, none⟩ = some (.int .i64 e) ∧ w'.cell? ⟨w.heap.size, 10, none⟩ = some (.slice a 0 cap))) (by kernel_rfl) ?_ (fun hHeld => ?_)
      · (try dsimp only); (refine ⟨?_, ?_, ?_, ?_, ?_, ?_, ?_, ?_, ?_, ?_, ?_⟩ <;> (repeat (first | with_reducible assumption | with_reducible refine keep_drew ?_ | with_reducible refine keep_below (by assumption) ?_)))
      refine tl (i := 0) (oi := { dst := some 6, op := .fieldAddr 35 (.tmp 1) 7, type := 0, pos := "l4_word.go:204", after := #[], guard := none }) ?_
      (try simp only [pq])
      refine tl (i := 1) (oi := { dst := some 7, op := .load 24 (.tmp 6), type := 24, pos := "l4_word.go:204", after := #[{ on := 0, ground := .data }], guard := none }) ?_
      (try simp only [pq])
      refine tl (i := 2) (oi := { dst := some 8, op := .call { callee := .builtin .len, args := #[.tmp 7], argTypes := #[24] }, type := 3, pos := "l4_word.go:204", after := #[{ on := 1, ground := .data }], guard := none }) ?_
      (try simp only [pq])
      refine tl (i := 3) (oi := { dst := some 9, op := .binOp .gtr 3 (.tmp 8) (.const (.int .i64 0)) 3, type := 4, pos := "l4_word.go:204", after := #[{ on := 2, ground := .data }], guard := none }) ?_
      (try simp only [pq])
      refine tl (i := 4) (oi := { dst := some 10, op := .move (.tmp 9), type := 4, pos := "l4_word.go:204", after := #[{ on := 3, ground := .data }], guard := none }) ?_
      (try simp only [pq])
      refine wpAnyH_take (i := 5) (oi := { dst := some 11, op := .fieldAddr 35 (.tmp 1) 7, type := 0, pos := "l4_word.go:204", after := #[{ on := 4, ground := .guard }], guard := some (4, true) }) (v := undef) rfl (by kernel_rfl) (by kernel_rfl) (by kernel_rfl) (fun _ _ _ h => h) (Or.inr ⟨by rfl, rfl⟩) (by assumption) ?_
      (try simp only [pq])
      refine wpAnyH_take (i := 6) (oi := { dst := some 12, op := .load 24 (.tmp 11), type := 24, pos := "l4_word.go:204", after := #[{ on := 5, ground := .data }, { on := 4, ground := .guard }], guard := some (4, true) }) (v := undef) rfl (by kernel_rfl) (by kernel_rfl) (by kernel_rfl) (fun _ _ _ h => h) (Or.inr ⟨by rfl, rfl⟩) (by assumption) ?_
      (try simp only [pq])
      refine wpAnyH_take (i := 7) (oi := { dst := some 13, op := .fieldAddr 35 (.tmp 1) 7, type := 0, pos := "l4_word.go:204", after := #[{ on := 4, ground := .guard }], guard := some (4, true) }) (v := undef) rfl (by kernel_rfl) (by kernel_rfl) (by kernel_rfl) (fun _ _ _ h => h) (Or.inr ⟨by rfl, rfl⟩) (by assumption) ?_
      (try simp only [pq])
      refine wpAnyH_take (i := 8) (oi := { dst := some 14, op := .load 24 (.tmp 13), type := 24, pos := "l4_word.go:204", after := #[{ on := 7, ground := .data }, { on := 4, ground := .guard }], guard := some (4, true) }) (v := undef) rfl (by kernel_rfl) (by kernel_rfl) (by kernel_rfl) (fun _ _ _ h => h) (Or.inr ⟨by rfl, rfl⟩) (by assumption) ?_
      (try simp only [pq])
      refine wpAnyH_take (i := 9) (oi := { dst := some 15, op := .indexAddr 24 (.tmp 14) (.const (.int .i64 0)), type := 0, pos := "l4_word.go:204", after := #[{ on := 8, ground := .data }, { on := 4, ground := .guard }], guard := some (4, true) }) (v := undef) rfl (by kernel_rfl) (by kernel_rfl) (by kernel_rfl) (fun _ _ _ h => h) (Or.inr ⟨by rfl, rfl⟩) (by assumption) ?_
      (try simp only [pq])
      refine wpAnyH_take (i := 10) (oi := { dst := some 16, op := .fieldAddr 53 (.tmp 15) 0, type := 0, pos := "l4_word.go:204", after := #[{ on := 9, ground := .data }, { on := 4, ground := .guard }], guard := some (4, true) }) (v := undef) rfl (by kernel_rfl) (by kernel_rfl) (by kernel_rfl) (fun _ _ _ h => h) (Or.inr ⟨by rfl, rfl⟩) (by assumption) ?_
      (try simp only [pq])
      refine wpAnyH_take (i := 11) (oi := { dst := some 17, op := .load 3 (.tmp 16), type := 3, pos := "l4_word.go:204", after := #[{ on := 10, ground := .data }, { on := 4, ground := .guard }], guard := some (4, true) }) (v := undef) rfl (by kernel_rfl) (by kernel_rfl) (by kernel_rfl) (fun _ _ _ h => h) (Or.inr ⟨by rfl, rfl⟩) (by assumption) ?_
      (try simp only [pq])
      refine wpAnyH_take (i := 12) (oi := { dst := some 18, op := .call { callee := .value (.func 98), args := #[.tmp 17], argTypes := #[3] }, type := 3, pos := "l4_word.go:204", after := #[{ on := 11, ground := .data }, { on := 4, ground := .chain }, { on := 4, ground := .guard }], guard := some (4, true) }) (v := undef) rfl (by kernel_rfl) (by kernel_rfl) (by kernel_rfl) (fun _ _ _ h => h) (Or.inr ⟨by rfl, rfl⟩) (by assumption) ?_
      (try simp only [pq])
      refine wpAnyH_take (i := 13) (oi := { dst := some 19, op := .call { callee := .value (.func 97), args := #[.tmp 12, .tmp 18], argTypes := #[24, 3] }, type := 4, pos := "l4_word.go:204", after := #[{ on := 6, ground := .data }, { on := 12, ground := .data }, { on := 12, ground := .chain }, { on := 4, ground := .guard }], guard := some (4, true) }) (v := undef) rfl (by kernel_rfl) (by kernel_rfl) (by kernel_rfl) (fun _ _ _ h => h) (Or.inr ⟨by rfl, rfl⟩) (by assumption) ?_
      (try simp only [pq])
      refine tl (i := 14) (oi := { dst := some 20, op := .pick (.tmp 10) (.tmp 19) (.const (.bool false)), type := 4, pos := "l4_word.go:204", after := #[{ on := 4, ground := .data }, { on := 13, ground := .data }], guard := none }) ?_
      (try simp only [pq])
      refine tl (i := 15) (oi := { dst := some 2, op := .assign (.tmp 20), type := 4, pos := "l4_word.go:204", after := #[{ on := 14, ground := .data }, { on := 13, ground := .chain }, { on := 0, ground := .phase }, { on := 1, ground := .phase }, { on := 2, ground := .phase }, { on := 3, ground := .phase }, { on := 4, ground := .phase }, { on := 5, ground := .phase }, { on := 6, ground := .phase }, { on := 7, ground := .phase }, { on := 8, ground := .phase }, { on := 9, ground := .phase }, { on := 10, ground := .phase }, { on := 11, ground := .phase }, { on := 12, ground := .phase }, { on := 13, ground := .phase }, { on := 14, ground := .phase }], guard := none }) ?_
      (try simp only [pq])
      refine wpAnyH_done (by kernel_rfl) ?_ _
      go_wp2
      go_ret
      exact ⟨ret_bool (by unfold wsB; simp), bw.drew⟩
    · obtain ⟨b, off, rfl, hbl, hf⟩ := h h0
      have hfs : FSl w (some ⟨b, off, none⟩) len F := fun _ => ⟨b, off, rfl, hbl, hf⟩
      have i1 : (0 : Int) < (len : Int) := by omega
      go_enter Tryz.func60, Tryz.ntmps60
      go_wp2_with fail
      have c0 : (w.alloc (.cells #[.int .i64 p, .int .i64 6, .int .i64 f, .int .i64 t, .int .i64 s, .int .i64 q, .int .i64 x, .int .i64 y, .int .i64 z, .int .i64 e, (.slice (some ⟨b, off, none⟩) len cap)] 35)).cell? ⟨w.heap.size, 0, none⟩ = some (.int .i64 p) := by simp [go_sem]
      have c1 : (w.alloc (.cells #[.int .i64 p, .int .i64 6, .int .i64 f, .int .i64 t, .int .i64 s, .int .i64 q, .int .i64 x, .int .i64 y, .int .i64 z, .int .i64 e, (.slice (some ⟨b, off, none⟩) len cap)] 35)).cell? ⟨w.heap.size, 1, none⟩ = some (.int .i64 6) := by simp [go_sem]
      have c2 : (w.alloc (.cells #[.int .i64 p, .int .i64 6, .int .i64 f, .int .i64 t, .int .i64 s, .int .i64 q, .int .i64 x, .int .i64 y, .int .i64 z, .int .i64 e, (.slice (some ⟨b, off, none⟩) len cap)] 35)).cell? ⟨w.heap.size, 2, none⟩ = some (.int .i64 f) := by simp [go_sem]
      have c3 : (w.alloc (.cells #[.int .i64 p, .int .i64 6, .int .i64 f, .int .i64 t, .int .i64 s, .int .i64 q, .int .i64 x, .int .i64 y, .int .i64 z, .int .i64 e, (.slice (some ⟨b, off, none⟩) len cap)] 35)).cell? ⟨w.heap.size, 3, none⟩ = some (.int .i64 t) := by simp [go_sem]
      have c4 : (w.alloc (.cells #[.int .i64 p, .int .i64 6, .int .i64 f, .int .i64 t, .int .i64 s, .int .i64 q, .int .i64 x, .int .i64 y, .int .i64 z, .int .i64 e, (.slice (some ⟨b, off, none⟩) len cap)] 35)).cell? ⟨w.heap.size, 4, none⟩ = some (.int .i64 s) := by simp [go_sem]
      have c5 : (w.alloc (.cells #[.int .i64 p, .int .i64 6, .int .i64 f, .int .i64 t, .int .i64 s, .int .i64 q, .int .i64 x, .int .i64 y, .int .i64 z, .int .i64 e, (.slice (some ⟨b, off, none⟩) len cap)] 35)).cell? ⟨w.heap.size, 5, none⟩ = some (.int .i64 q) := by simp [go_sem]
      have c6 : (w.alloc (.cells #[.int .i64 p, .int .i64 6, .int .i64 f, .int .i64 t, .int .i64 s, .int .i64 q, .int .i64 x, .int .i64 y, .int .i64 z, .int .i64 e, (.slice (some ⟨b, off, none⟩) len cap)] 35)).cell? ⟨w.heap.size, 6, none⟩ = some (.int .i64 x) := by simp [go_sem]
      have c7 : (w.alloc (.cells #[.int .i64 p, .int .i64 6, .int .i64 f, .int .i64 t, .int .i64 s, .int .i64 q, .int .i64 x, .int .i64 y, .int .i64 z, .int .i64 e, (.slice (some ⟨b, off, none⟩) len cap)] 35)).cell? ⟨w.heap.size, 7, none⟩ = some (.int .i64 y) := by simp [go_sem]
      have c8 : (w.alloc (.cells #[.int .i64 p, .int .i64 6, .int .i64 f, .int .i64 t, .int .i64 s, .int .i64 q, .int .i64 x, .int .i64 y, .int .i64 z, .int .i64 e, (.slice (some ⟨b, off, none⟩) len cap)] 35)).cell? ⟨w.heap.size, 8, none⟩ = some (.int .i64 z) := by simp [go_sem]
      have c9 : (w.alloc (.cells #[.int .i64 p, .int .i64 6, .int .i64 f, .int .i64 t, .int .i64 s, .int .i64 q, .int .i64 x, .int .i64 y, .int .i64 z, .int .i64 e, (.slice (some ⟨b, off, none⟩) len cap)] 35)).cell? ⟨w.heap.size, 9, none⟩ = some (.int .i64 e) := by simp [go_sem]
      have c10 : (w.alloc (.cells #[.int .i64 p, .int .i64 6, .int .i64 f, .int .i64 t, .int .i64 s, .int .i64 q, .int .i64 x, .int .i64 y, .int .i64 z, .int .i64 e, (.slice (some ⟨b, off, none⟩) len cap)] 35)).cell? ⟨w.heap.size, 10, none⟩ = some (.slice (some ⟨b, off, none⟩) len cap) := by simp [go_sem]
      have bw := balloc (.cells #[.int .i64 p, .int .i64 6, .int .i64 f, .int .i64 t, .int .i64 s, .int .i64 q, .int .i64 x, .int .i64 y, .int .i64 z, .int .i64 e, (.slice (some ⟨b, off, none⟩) len cap)] 35) (Below.refl w.heap.size w)
      generalize (w.alloc (.cells #[.int .i64 p, .int .i64 6, .int .i64 f, .int .i64 t, .int .i64 s, .int .i64 q, .int .i64 x, .int .i64 y, .int .i64 z, .int .i64 e, (.slice (some ⟨b, off, none⟩) len cap)] 35)) = W at *
      have c11 := first_cell (hf.below bw hbl) h0
      have hfw := hfs.below (Below.drew bw)
      refine wp_region_held_drew (S := (fun w' => w'.cell? ⟨w.heap.size, 0, none⟩ = some (.int .i64 p) ∧ w'.cell? ⟨w.heap.size, 1, none⟩ = some (.int .i64 6) ∧ w'.cell? ⟨w.heap.size, 2, none⟩ = some (.int .i64 f) ∧ w'.cell? ⟨w.heap.size, 3, none⟩ = some (.int .i64 t) ∧ w'.cell? ⟨w.heap.size, 4, none⟩ = some (.int .i64 s) ∧ w'.cell? ⟨w.heap.size, 5, none⟩ = some (.int .i64 q) ∧ w'.cell? ⟨w.heap.size, 6, none⟩ = some (.int .i64 x) ∧ w'.cell? ⟨w.heap.size, 7, none⟩ = some (.int .i64 y) ∧ w'.cell? ⟨w.heap.size, 8, none⟩ = some (.int .i64 z) ∧ w'.cell? ⟨w.heap.size, 9, none⟩ = some (.int .i64 e) ∧ w'.cell? ⟨w.heap.size, 10, none⟩ = some (.slice (some ⟨b, off, none⟩) len cap) ∧ w'.cell? ⟨b, off, none⟩ = some (.int .i64 (F 0).n))) (by kernel_rfl) ?_ (fun hHeld => ?_)
      · (try dsimp only); (refine ⟨?_, ?_, ?_, ?_, ?_, ?_, ?_, ?_, ?_, ?_, ?_, ?_⟩ <;> (repeat (first | with_reducible assumption | with_reducible refine keep_drew ?_ | with_reducible refine keep_below (by assumption) ?_)))
      refine tl (i := 0) (oi := { dst := some 6, op := .fieldAddr 35 (.tmp 1) 7, type := 0, pos := "l4_word.go:204", after := #[], guard := none }) ?_
      (try simp only [pq])
      refine tl (i := 1) (oi := { dst := some 7, op := .load 24 (.tmp 6), type := 24, pos := "l4_word.go:204", after := #[{ on := 0, ground := .data }], guard := none }) ?_
      (try simp only [pq])
      refine tl (i := 2) (oi := { dst := some 8, op := .call { callee := .builtin .len, args := #[.tmp 7], argTypes := #[24] }, type := 3, pos := "l4_word.go:204", after := #[{ on := 1, ground := .data }], guard := none }) ?_
      (try simp only [pq])
      refine tl (i := 3) (oi := { dst := some 9, op := .binOp .gtr 3 (.tmp 8) (.const (.int .i64 0)) 3, type := 4, pos := "l4_word.go:204", after := #[{ on := 2, ground := .data }], guard := none }) ?_
      (try simp only [pq])
      refine tl (i := 4) (oi := { dst := some 10, op := .move (.tmp 9), type := 4, pos := "l4_word.go:204", after := #[{ on := 3, ground := .data }], guard := none }) ?_
      (try simp only [pq])
      refine tl (i := 5) (oi := { dst := some 11, op := .fieldAddr 35 (.tmp 1) 7, type := 0, pos := "l4_word.go:204", after := #[{ on := 4, ground := .guard }], guard := some (4, true) }) ?_
      (try simp only [pq])
      refine tl (i := 6) (oi := { dst := some 12, op := .load 24 (.tmp 11), type := 24, pos := "l4_word.go:204", after := #[{ on := 5, ground := .data }, { on := 4, ground := .guard }], guard := some (4, true) }) ?_
      (try simp only [pq])
      refine tl (i := 7) (oi := { dst := some 13, op := .fieldAddr 35 (.tmp 1) 7, type := 0, pos := "l4_word.go:204", after := #[{ on := 4, ground := .guard }], guard := some (4, true) }) ?_
      (try simp only [pq])
      refine tl (i := 8) (oi := { dst := some 14, op := .load 24 (.tmp 13), type := 24, pos := "l4_word.go:204", after := #[{ on := 7, ground := .data }, { on := 4, ground := .guard }], guard := some (4, true) }) ?_
      (try simp only [pq])
      refine tl (i := 9) (oi := { dst := some 15, op := .indexAddr 24 (.tmp 14) (.const (.int .i64 0)), type := 0, pos := "l4_word.go:204", after := #[{ on := 8, ground := .data }, { on := 4, ground := .guard }], guard := some (4, true) }) ?_
      (try simp only [pq])
      refine tl (i := 10) (oi := { dst := some 16, op := .fieldAddr 53 (.tmp 15) 0, type := 0, pos := "l4_word.go:204", after := #[{ on := 9, ground := .data }, { on := 4, ground := .guard }], guard := some (4, true) }) ?_
      (try simp only [pq])
      refine tl (i := 11) (oi := { dst := some 17, op := .load 3 (.tmp 16), type := 3, pos := "l4_word.go:204", after := #[{ on := 10, ground := .data }, { on := 4, ground := .guard }], guard := some (4, true) }) ?_
      (try simp only [pq])
      refine wpAnyH_ready (rs := [12]) (by kernel_rfl) (by simp) ?_
      refine AllReadyH.cons (o := { dst := some 18, op := .call { callee := .value (.func 98), args := #[.tmp 17], argTypes := #[3] }, type := 3, pos := "l4_word.go:204", after := #[{ on := 11, ground := .data }, { on := 4, ground := .chain }, { on := 4, ground := .guard }], guard := some (4, true) }) rfl (fun K hK => ?_) AllReadyH.nil
      go_simp
      (refine (siteOf_any (F 0).n _).mono ?_; rintro e w1 ⟨rfl, hw⟩; obtain rfl := hw.symm)
      go_wp2_with fail
      refine hK.out _ _ ?_ (fun hHeld => ?_)
      · (try dsimp only); (refine ⟨?_, ?_, ?_, ?_, ?_, ?_, ?_, ?_, ?_, ?_, ?_, ?_⟩ <;> (repeat (first | with_reducible assumption | with_reducible refine keep_drew ?_ | with_reducible refine keep_below (by assumption) ?_)))
      clear hK K
      (try simp only [pq])
      refine wpAnyH_ready (rs := [13]) (by kernel_rfl) (by simp) ?_
      refine AllReadyH.cons (o := { dst := some 19, op := .call { callee := .value (.func 97), args := #[.tmp 12, .tmp 18], argTypes := #[24, 3] }, type := 4, pos := "l4_word.go:204", after := #[{ on := 6, ground := .data }, { on := 12, ground := .data }, { on := 12, ground := .chain }, { on := 4, ground := .guard }], guard := some (4, true) }) rfl (fun K hK => ?_) AllReadyH.nil
      go_simp
      (refine (allOf_any _ len cap F (ste (F 0).n) _ hfw hl).mono ?_; rintro e w2 ⟨rfl, b2⟩)
      go_wp2_with fail
      refine hK.out _ _ ?_ (fun hHeld => ?_)
      · (try dsimp only); (refine ⟨?_, ?_, ?_, ?_, ?_, ?_, ?_, ?_, ?_, ?_, ?_, ?_⟩ <;> (repeat (first | with_reducible assumption | with_reducible refine keep_drew ?_ | with_reducible refine keep_below (by assumption) ?_)))
      clear hK K
      (try simp only [pq])
      refine tl (i := 14) (oi := { dst := some 20, op := .pick (.tmp 10) (.tmp 19) (.const (.bool false)), type := 4, pos := "l4_word.go:204", after := #[{ on := 4, ground := .data }, { on := 13, ground := .data }], guard := none }) ?_
      (try simp only [pq])
      refine tl (i := 15) (oi := { dst := some 2, op := .assign (.tmp 20), type := 4, pos := "l4_word.go:204", after := #[{ on := 14, ground := .data }, { on := 13, ground := .chain }, { on := 0, ground := .phase }, { on := 1, ground := .phase }, { on := 2, ground := .phase }, { on := 3, ground := .phase }, { on := 4, ground := .phase }, { on := 5, ground := .phase }, { on := 6, ground := .phase }, { on := 7, ground := .phase }, { on := 8, ground := .phase }, { on := 9, ground := .phase }, { on := 10, ground := .phase }, { on := 11, ground := .phase }, { on := 12, ground := .phase }, { on := 13, ground := .phase }, { on := 14, ground := .phase }], guard := none }) ?_
      (try simp only [pq])
      refine wpAnyH_done (by kernel_rfl) ?_ _
      go_wp2
      go_ret
      exact ⟨ret_bool (by unfold wsB; simp [h0]), btrans bw.drew b2⟩
  · go_enter Tryz.func60, Tryz.ntmps60
    go_wp2_with fail
    have c0 : (w.alloc (.cells #[.int .i64 p, .int .i64 k, .int .i64 f, .int .i64 t, .int .i64 s, .int .i64 q, .int .i64 x, .int .i64 y, .int .i64 z, .int .i64 e, (.slice a len cap)] 35)).cell? ⟨w.heap.size, 0, none⟩ = some (.int .i64 p) := by simp [go_sem]
    have c1 : (w.alloc (.cells #[.int .i64 p, .int .i64 k, .int .i64 f, .int .i64 t, .int .i64 s, .int .i64 q, .int .i64 x, .int .i64 y, .int .i64 z, .int .i64 e, (.slice a len cap)] 35)).cell? ⟨w.heap.size, 1, none⟩ = some (.int .i64 k) := by simp [go_sem]
    have c2 : (w.alloc (.cells #[.int .i64 p, .int .i64 k, .int .i64 f, .int .i64 t, .int .i64 s, .int .i64 q, .int .i64 x, .int .i64 y, .int .i64 z, .int .i64 e, (.slice a len cap)] 35)).cell? ⟨w.heap.size, 2, none⟩ = some (.int .i64 f) := by simp [go_sem]
    have c3 : (w.alloc (.cells #[.int .i64 p, .int .i64 k, .int .i64 f, .int .i64 t, .int .i64 s, .int .i64 q, .int .i64 x, .int .i64 y, .int .i64 z, .int .i64 e, (.slice a len cap)] 35)).cell? ⟨w.heap.size, 3, none⟩ = some (.int .i64 t) := by simp [go_sem]
    have c4 : (w.alloc (.cells #[.int .i64 p, .int .i64 k, .int .i64 f, .int .i64 t, .int .i64 s, .int .i64 q, .int .i64 x, .int .i64 y, .int .i64 z, .int .i64 e, (.slice a len cap)] 35)).cell? ⟨w.heap.size, 4, none⟩ = some (.int .i64 s) := by simp [go_sem]
    have c5 : (w.alloc (.cells #[.int .i64 p, .int .i64 k, .int .i64 f, .int .i64 t, .int .i64 s, .int .i64 q, .int .i64 x, .int .i64 y, .int .i64 z, .int .i64 e, (.slice a len cap)] 35)).cell? ⟨w.heap.size, 5, none⟩ = some (.int .i64 q) := by simp [go_sem]
    have c6 : (w.alloc (.cells #[.int .i64 p, .int .i64 k, .int .i64 f, .int .i64 t, .int .i64 s, .int .i64 q, .int .i64 x, .int .i64 y, .int .i64 z, .int .i64 e, (.slice a len cap)] 35)).cell? ⟨w.heap.size, 6, none⟩ = some (.int .i64 x) := by simp [go_sem]
    have c7 : (w.alloc (.cells #[.int .i64 p, .int .i64 k, .int .i64 f, .int .i64 t, .int .i64 s, .int .i64 q, .int .i64 x, .int .i64 y, .int .i64 z, .int .i64 e, (.slice a len cap)] 35)).cell? ⟨w.heap.size, 7, none⟩ = some (.int .i64 y) := by simp [go_sem]
    have c8 : (w.alloc (.cells #[.int .i64 p, .int .i64 k, .int .i64 f, .int .i64 t, .int .i64 s, .int .i64 q, .int .i64 x, .int .i64 y, .int .i64 z, .int .i64 e, (.slice a len cap)] 35)).cell? ⟨w.heap.size, 8, none⟩ = some (.int .i64 z) := by simp [go_sem]
    have c9 : (w.alloc (.cells #[.int .i64 p, .int .i64 k, .int .i64 f, .int .i64 t, .int .i64 s, .int .i64 q, .int .i64 x, .int .i64 y, .int .i64 z, .int .i64 e, (.slice a len cap)] 35)).cell? ⟨w.heap.size, 9, none⟩ = some (.int .i64 e) := by simp [go_sem]
    have c10 : (w.alloc (.cells #[.int .i64 p, .int .i64 k, .int .i64 f, .int .i64 t, .int .i64 s, .int .i64 q, .int .i64 x, .int .i64 y, .int .i64 z, .int .i64 e, (.slice a len cap)] 35)).cell? ⟨w.heap.size, 10, none⟩ = some (.slice a len cap) := by simp [go_sem]
    have bw := balloc (.cells #[.int .i64 p, .int .i64 k, .int .i64 f, .int .i64 t, .int .i64 s, .int .i64 q, .int .i64 x, .int .i64 y, .int .i64 z, .int .i64 e, (.slice a len cap)] 35) (Below.refl w.heap.size w)
    generalize (w.alloc (.cells #[.int .i64 p, .int .i64 k, .int .i64 f, .int .i64 t, .int .i64 s, .int .i64 q, .int .i64 x, .int .i64 y, .int .i64 z, .int .i64 e, (.slice a len cap)] 35)) = W at *
    have hfw := h.below (Below.drew bw)
    refine wp_region_held_drew (S := (fun w' => w'.cell? ⟨w.heap.size, 0, none⟩ = some (.int .i64 p) ∧ w'.cell? ⟨w.heap.size, 1, none⟩ = some (.int .i64 k) ∧ w'.cell? ⟨w.heap.size, 2, none⟩ = some (.int .i64 f) ∧ w'.cell? ⟨w.heap.size, 3, none⟩ = some (.int .i64 t) ∧ w'.cell? ⟨w.heap.size, 4, none⟩ = some (.int .i64 s) ∧ w'.cell? ⟨w.heap.size, 5, none⟩ = some (.int .i64 q) ∧ w'.cell? ⟨w.heap.size, 6, none⟩ = some (.int .i64 x) ∧ w'.cell? ⟨w.heap.size, 7, none⟩ = some (.int .i64 y) ∧ w'.cell? ⟨w.heap.size, 8, none⟩ = some (.int .i64 z) ∧ w'.cell? ⟨w.heap.size, 9, none⟩ = some (.int .i64 e) ∧ w'.cell? ⟨w.heap.size, 10, none⟩ = some (.slice a len cap))) (by kernel_rfl) ?_ (fun hHeld => ?_)
    · (try dsimp only); (refine ⟨?_, ?_, ?_, ?_, ?_, ?_, ?_, ?_, ?_, ?_, ?_⟩ <;> (repeat (first | with_reducible assumption | with_reducible refine keep_drew ?_ | with_reducible refine keep_below (by assumption) ?_)))
    refine tl (i := 0) (oi := { dst := some 21, op := .fieldAddr 35 (.tmp 1) 7, type := 0, pos := "l4_word.go:206", after := #[], guard := none }) ?_
    (try simp only [pq])
    refine tl (i := 1) (oi := { dst := some 22, op := .load 24 (.tmp 21), type := 24, pos := "l4_word.go:206", after := #[{ on := 0, ground := .data }], guard := none }) ?_
    (try simp only [pq])
    refine tl (i := 2) (oi := { dst := some 23, op := .fieldAddr 35 (.tmp 1) 2, type := 0, pos := "l4_word.go:206", after := #[], guard := none }) ?_
    (try simp only [pq])
    refine tl (i := 3) (oi := { dst := some 24, op := .load 3 (.tmp 23), type := 3, pos := "l4_word.go:206", after := #[{ on := 2, ground := .data }], guard := none }) ?_
    (try simp only [pq])
    refine wpAnyH_ready (rs := [4]) (by kernel_rfl) (by simp) ?_
    refine AllReadyH.cons (o := { dst := some 25, op := .call { callee := .value (.func 98), args := #[.tmp 24], argTypes := #[3] }, type := 3, pos := "l4_word.go:206", after := #[{ on := 3, ground := .data }], guard := none }) rfl (fun K hK => ?_) AllReadyH.nil
    go_simp
    (refine (siteOf_any f _).mono ?_; rintro e w1 ⟨rfl, hw⟩; obtain rfl := hw.symm)
    go_wp2_with fail
    refine hK.out _ _ ?_ (fun hHeld => ?_)
    · (try dsimp only); (refine ⟨?_, ?_, ?_, ?_, ?_, ?_, ?_, ?_, ?_, ?_, ?_⟩ <;> (repeat (first | with_reducible assumption | with_reducible refine keep_drew ?_ | with_reducible refine keep_below (by assumption) ?_)))
    clear hK K
    (try simp only [pq])
    refine wpAnyH_ready (rs := [5]) (by kernel_rfl) (by simp) ?_
    refine AllReadyH.cons (o := { dst := some 26, op := .call { callee := .value (.func 97), args := #[.tmp 22, .tmp 25], argTypes := #[24, 3] }, type := 4, pos := "l4_word.go:206", after := #[{ on := 1, ground := .data }, { on := 4, ground := .data }, { on := 4, ground := .chain }], guard := none }) rfl (fun K hK => ?_) AllReadyH.nil
    go_simp
    (refine (allOf_any _ len cap F (ste f) _ hfw hl).mono ?_; rintro e w2 ⟨rfl, b2⟩)
    go_wp2_with fail
    refine hK.out _ _ ?_ (fun hHeld => ?_)
    · (try dsimp only); (refine ⟨?_, ?_, ?_, ?_, ?_, ?_, ?_, ?_, ?_, ?_, ?_⟩ <;> (repeat (first | with_reducible assumption | with_reducible refine keep_drew ?_ | with_reducible refine keep_below (by assumption) ?_)))
    clear hK K
    (try simp only [pq])
    refine tl (i := 6) (oi := { dst := some 2, op := .assign (.tmp 26), type := 4, pos := "l4_word.go:206", after := #[{ on := 5, ground := .data }, { on := 5, ground := .chain }, { on := 0, ground := .phase }, { on := 1, ground := .phase }, { on := 2, ground := .phase }, { on := 3, ground := .phase }, { on := 4, ground := .phase }, { on := 5, ground := .phase }], guard := none }) ?_
    (try simp only [pq])
    refine wpAnyH_done (by kernel_rfl) ?_ _
    go_wp2
    go_ret
    exact ⟨ret_bool (by unfold wsB; rw [if_neg hk]), btrans bw.drew b2⟩
end Go.Proofs.YtibnojbhoepcdaaGreatDoor
