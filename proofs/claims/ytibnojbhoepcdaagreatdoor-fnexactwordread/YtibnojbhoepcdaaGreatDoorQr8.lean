/- Texts of the proof, laid together: Pick, Draw, Slots. -/
import Derived.Test.YtibnojbhoepcdaaGreatDoorProg
import Derived.LoopTactic
import Derived.Deep.QuietTactic
import Derived.BigQuiet
import Derived.Laws.Bits64
import Derived.Below
import Derived.Test.YtibnojbhoepcdaaGreatDoorQr1
import Derived.WalkKit
import Derived.ProofKit
import Derived.WalkLawsBesides
import Derived.Deep.RegionHeld3
import Derived.Deep.DrawnRows
/- What a pick from a code comes to, whatever the code: some number in its bounds; only the reader's own place has turned. -/
namespace Go.Proofs.YtibnojbhoepcdaaGreatDoor
open Go.ChangeShapes Go.WideShapes Go.ChangeAt Go.RowKit
set_option maxRecDepth 20000 in
theorem i64_xor_nat (a b : Nat) (ha : a < 9223372036854775808) (hb : b < 9223372036854775808) :
    bits .xor .i64 (a : Int) (b : Int) = ((a ^^^ b : Nat) : Int) := by
  have hx : a ^^^ b < 2 ^ 63 := Nat.xor_lt_two_pow (by omega) (by omega)
  have h1 : (BitVec.ofInt 64 (a : Int)).toNat = a := by
    rw [BitVec.ofInt_natCast, BitVec.toNat_ofNat]; exact Nat.mod_eq_of_lt (by omega)
  have h2 : (BitVec.ofInt 64 (b : Int)).toNat = b := by
    rw [BitVec.ofInt_natCast, BitVec.toNat_ofNat]; exact Nat.mod_eq_of_lt (by omega)
  show IntKind.i64.wrap ((BitVec.ofInt 64 (a : Int) ^^^ BitVec.ofInt 64 (b : Int)).toNat : Int) = _
  rw [BitVec.toNat_xor, h1, h2]
  simp [IntKind.wrap, IntKind.bits, IntKind.signed]
  omega
set_option maxRecDepth 20000 in
theorem xor_pos {x : Int} (h0 : 0 ≤ x) (h1 : x ≤ 1000000000000) : 0 ≤ bits .xor .i64 x (x / 64) ∧ bits .xor .i64 x (x / 64) ≤ 2000000000000 := by
  obtain ⟨n, rfl⟩ := Int.eq_ofNat_of_zero_le h0
  have e : ((n : Nat) : Int) / 64 = ((n / 64 : Nat) : Int) := by omega
  rw [e, i64_xor_nat _ _ (by omega) (by omega)]
  have : n ^^^ (n / 64) < 2 ^ 40 := Nat.xor_lt_two_pow (by omega) (by omega)
  omega

/-- nothing but block rb has turned -/
structure Aside1 (rb : Nat) (w w' : World) : Prop where
  os : w'.os = w.os
  tape : w'.tape = w.tape
  output : w'.output = w.output
  size : w'.heap.size = w.heap.size
  block : ∀ k, k ≠ rb → w'.heap[k]? = w.heap[k]?
set_option maxRecDepth 20000 in
theorem Aside1.below {rb B : Nat} {w w' : World} (h : Aside1 rb w w') (hB : B ≤ rb) : Below B w w' :=
  ⟨h.os, h.tape, h.output, by have := h.size; omega, fun k hk => h.block k (by omega)⟩
set_option maxRecDepth 20000 in
theorem Aside1.cell {rb : Nat} {w w' : World} (h : Aside1 rb w w') {p : Addr} (hp : p.block ≠ rb) : w'.cell? p = w.cell? p := World.cell?_of_block (w := w) (h.block p.block hp)
set_option maxRecDepth 20000 in
theorem Aside1.frozen {rb : Nat} {w w' : World} (h : Aside1 rb w w') {p : Addr} (hp : p.block ≠ rb) : w'.frozen? p = w.frozen? p := World.frozen?_of_block (w := w) (h.block p.block hp)
set_option maxRecDepth 20000 in
theorem Aside1.trans {rb : Nat} {a b c : World} (h : Aside1 rb a b) (k : Aside1 rb b c) : Aside1 rb a c :=
  ⟨k.os.trans h.os, k.tape.trans h.tape, k.output.trans h.output, k.size.trans h.size, fun i hi => (k.block i hi).trans (h.block i hi)⟩
/-- a code: how many bytes are read of it, and which -/
structure Cd where
  len : Nat
  c : Nat → Int
/-- what is picked at place p, from 0 to n-1 -/
def Cd.pk (G : Cd) (p : Nat) (n : Int) : Int :=
  if n < 1 ∨ G.len = 0 then 0
  else if p < G.len then G.c p % n
  else bits .xor .i64 (G.c (p % G.len) * 131 + G.c ((p * 7 + 3) % G.len) * 1117 + (p : Int) * 29 + ((p / G.len : Nat) : Int) * 53) ((G.c (p % G.len) * 131 + G.c ((p * 7 + 3) % G.len) * 1117 + (p : Int) * 29 + ((p / G.len : Nat) : Int) * 53) / 64) % n
/-- a reader of the code G lies at block rb, from B on; the code's bytes lie below B; it has read p of them -/
structure Rd (G : Cd) (B rb p : Nat) (w : World) : Prop where
  le : B ≤ rb
  lt : rb < w.heap.size
  few : p ≤ 1000000
  free : w.frozen? ⟨rb, 1, none⟩ = false
  at' : w.cell? ⟨rb, 1, none⟩ = some (.int .i64 p)
  code : ∃ (a : Option Addr) (cap : Nat), G.len ≤ 2000 ∧ w.cell? ⟨rb, 0, none⟩ = some (.slice a G.len cap) ∧ (∀ i, 0 ≤ G.c i ∧ G.c i ≤ 255) ∧
    (G.len = 0 ∨ ∃ b off, a = some ⟨b, off, none⟩ ∧ b < B ∧ ∀ i, i < G.len → w.cell? ⟨b, off + i, none⟩ = some (.int .u8 (G.c i)))
set_option maxRecDepth 20000 in
theorem aside_set (rb : Nat) (w : World) (o : Nat) (v : Value) (n : Nat) : Aside1 rb w ((w.setCell ⟨rb, o, none⟩ v).drewN n) :=
  ⟨rfl, rfl, rfl, by simp [World.setCell], fun k hk => Below.heap_setCell w ⟨rb, o, none⟩ v k hk⟩
set_option maxRecDepth 20000 in
theorem cell_far {w : World} {p a : Addr} (v : Value) (h : a.block ≠ p.block) : (w.setCell p v).cell? a = w.cell? a :=
  World.cell?_of_block (w := w) (Below.heap_setCell w p v a.block h)
set_option maxRecDepth 20000 in
theorem Rd.step {G : Cd} {B rb p : Nat} {w : World} (h : Rd G B rb p w) (hp : p < 1000000) (n : Nat) : Rd G B rb (p + 1) ((w.setCell ⟨rb, 1, none⟩ (.int .i64 ((p : Int) + 1))).drewN n) := by
  obtain ⟨h1, h2, h3, h4, h5, a, cap, hl, h6, hc0, h7⟩ := h
  refine ⟨h1, by simpa [World.setCell] using h2, by omega, ?_, ?_, a, cap, hl, ?_, hc0, ?_⟩
  · rw [World.frozen?_drewN, World.frozen?_setCell]; exact h4
  · rw [World.cell?_drewN, World.cell?_setCell_same' _ _ _ (by rw [h5]; rfl)]; rfl
  · rw [World.cell?_drewN, World.cell?_setCell_other _ _ _ _ (by simp)]; exact h6
  · rcases h7 with h7 | ⟨b, off, rfl, hb, hc⟩
    · exact .inl h7
    · refine .inr ⟨b, off, rfl, hb, fun i hi => ?_⟩
      rw [World.cell?_drewN, cell_far _ (show b ≠ rb by omega)]; exact hc i hi
set_option maxRecDepth 20000 in
theorem pick_none (rb p : Nat) (n : Int) (w : World) (h1 : w.frozen? ⟨rb, 1, none⟩ = false) (h2 : w.cell? ⟨rb, 1, none⟩ = some (.int .i64 p)) (hp : p ≤ 1000000)
    (h : n < 1) :
    Calls Tryz.prog 29 #[.pointer (some ⟨rb, 0, none⟩), .int .i64 n] w fun e w' => e = .returned (.int .i64 0) ∧ w' = w.setCell ⟨rb, 1, none⟩ (.int .i64 (p + 1)) := by
  go_enter Tryz.func29, Tryz.ntmps29
  go_wp2
  go_ret
  exact ⟨rfl, rfl⟩
set_option maxRecDepth 20000 in
theorem pick_empty (rb p : Nat) (n : Int) (w : World) (a : Option Addr) (cap : Nat) (h1 : w.frozen? ⟨rb, 1, none⟩ = false) (h2 : w.cell? ⟨rb, 1, none⟩ = some (.int .i64 p)) (h3 : w.cell? ⟨rb, 0, none⟩ = some (.slice a 0 cap)) (hp : p ≤ 1000000)
    (h : 1 ≤ n) :
    Calls Tryz.prog 29 #[.pointer (some ⟨rb, 0, none⟩), .int .i64 n] w fun e w' => e = .returned (.int .i64 0) ∧ w' = w.setCell ⟨rb, 1, none⟩ (.int .i64 (p + 1)) := by
  go_enter Tryz.func29, Tryz.ntmps29
  go_wp2
  go_ret
  exact ⟨rfl, rfl⟩
set_option maxRecDepth 20000 in
theorem pick_in (rb p : Nat) (n : Int) (w : World) (b off : Nat) (len cap : Nat) (c : Int) (h1 : w.frozen? ⟨rb, 1, none⟩ = false) (h2 : w.cell? ⟨rb, 1, none⟩ = some (.int .i64 p)) (h3 : w.cell? ⟨rb, 0, none⟩ = some (.slice (some ⟨b, off, none⟩) len cap)) (hp : p ≤ 1000000)
    (hpl : p < len) (hc : w.cell? ⟨b, off + p, none⟩ = some (.int .u8 c)) (hbr : b ≠ rb) (c0 : 0 ≤ c) (c1 : c ≤ 255)
    (h : 1 ≤ n) :
    Calls Tryz.prog 29 #[.pointer (some ⟨rb, 0, none⟩), .int .i64 n] w fun e w' => e = .returned (.int .i64 (c % n)) ∧ w' = w.setCell ⟨rb, 1, none⟩ (.int .i64 (p + 1)) := by
  have hl0 : ((len : Int) == 0) = false := by simp; omega
  go_enter Tryz.func29, Tryz.ntmps29
  go_wp2
  go_ret
  exact ⟨rfl, rfl⟩
set_option maxRecDepth 20000 in
set_option maxHeartbeats 400000 in
theorem pick_past (rb p : Nat) (n : Int) (w : World) (b off : Nat) (len cap : Nat) (c1 c2 : Int) (h1 : w.frozen? ⟨rb, 1, none⟩ = false) (h2 : w.cell? ⟨rb, 1, none⟩ = some (.int .i64 p)) (h3 : w.cell? ⟨rb, 0, none⟩ = some (.slice (some ⟨b, off, none⟩) len cap)) (hp : p ≤ 1000000)
    (hlen : len ≤ 2000) (hl1 : 0 < len) (hpl : len ≤ p) (hbr : b ≠ rb) (k1 k2 q : Nat) (e1 : (p : Int).tmod (len : Int) = (k1 : Int)) (e2 : ((p : Int) * 7 + 3).tmod (len : Int) = (k2 : Int)) (e3 : (p : Int).tdiv (len : Int) = (q : Int)) (l1 : k1 < len) (l2 : k2 < len) (l3 : q ≤ 1000000)
    (hc1 : w.cell? ⟨b, off + k1, none⟩ = some (.int .u8 c1)) (a0 : 0 ≤ c1) (a1 : c1 ≤ 255) 
    (hc2 : w.cell? ⟨b, off + k2, none⟩ = some (.int .u8 c2)) (b0 : 0 ≤ c2) (b1 : c2 ≤ 255) 
    (h : 1 ≤ n) :
    Calls Tryz.prog 29 #[.pointer (some ⟨rb, 0, none⟩), .int .i64 n] w fun e w' => ∃ m, e = .returned (.int .i64 (bits .xor .i64 (c1 * 131 + c2 * 1117 + (p : Int) * 29 + (q : Int) * 53) ((c1 * 131 + c2 * 1117 + (p : Int) * 29 + (q : Int) * 53) / 64) % n)) ∧ w' = (w.setCell ⟨rb, 1, none⟩ (.int .i64 (p + 1))).drewN m := by
  have hl0 : ((len : Int) == 0) = false := by simp; omega
  have hz : (0 : Int) < (len : Int) := by omega
  have hz1 : ¬ len = 0 := by omega
  have hx := xor_pos (x := c1 * 131 + c2 * 1117 + p * 29 + q * 53) (by omega) (by omega)
  go_enter Tryz.func29, Tryz.ntmps29
  go_wp2
  go_quiet (fail)
  go_wp2
  go_ret
  exact ⟨_, rfl, rfl⟩

set_option maxRecDepth 20000 in
theorem nat_tmod (p len : Nat) : ((p : Int)).tmod (len : Int) = ((p % len : Nat) : Int) := by
  rw [Int.tmod_eq_emod_of_nonneg (by omega)]; exact (Int.natCast_emod p len).symm
set_option maxRecDepth 20000 in
theorem nat_tdiv (p len : Nat) : ((p : Int)).tdiv (len : Int) = ((p / len : Nat) : Int) := by
  rw [Int.tdiv_eq_ediv_of_nonneg (by omega)]; exact (Int.natCast_ediv p len).symm
set_option maxRecDepth 20000 in
theorem Cd.pk_bd (G : Cd) (p : Nat) (n : Int) : 0 ≤ G.pk p n ∧ (G.pk p n < n ∨ G.pk p n = 0) := by
  unfold Cd.pk
  split
  · exact ⟨by omega, .inr rfl⟩
  · split
    · exact ⟨Int.emod_nonneg _ (by omega), .inl (Int.emod_lt_of_pos _ (by omega))⟩
    · exact ⟨Int.emod_nonneg _ (by omega), .inl (Int.emod_lt_of_pos _ (by omega))⟩
set_option maxRecDepth 20000 in
/-- a pick from a code: its value is that plain function; the reader is one further; nothing else has turned -/
theorem pick_any {G : Cd} (B rb p : Nat) (n : Int) (w : World) (h : Rd G B rb p w) (hp : p < 1000000) :
    Calls Tryz.prog 29 #[.pointer (some ⟨rb, 0, none⟩), .int .i64 n] w fun e w' => e = .returned (.int .i64 (G.pk p n)) ∧ (0 ≤ G.pk p n ∧ (G.pk p n < n ∨ G.pk p n = 0)) ∧ Rd G B rb (p + 1) w' ∧ Aside1 rb w w' := by
  have hr := h
  obtain ⟨h1, h2, h3, h4, h5, a, cap, hl, h6, hc0, h7⟩ := h
  have hb := G.pk_bd p n
  have fin0 : ∀ (k : Int) (m : Nat), k = G.pk p n → Ending.returned (.int .i64 k) = .returned (.int .i64 (G.pk p n)) ∧ (0 ≤ G.pk p n ∧ (G.pk p n < n ∨ G.pk p n = 0)) ∧ Rd G B rb (p + 1) ((w.setCell ⟨rb, 1, none⟩ (.int .i64 ((p : Int) + 1))).drewN m) ∧ Aside1 rb w ((w.setCell ⟨rb, 1, none⟩ (.int .i64 ((p : Int) + 1))).drewN m) :=
    fun k m e => ⟨by rw [e], hb, hr.step hp m, aside_set rb w 1 _ m⟩
  by_cases hn : n < 1
  · refine (pick_none rb p n w h4 h5 (by omega) hn).mono ?_
    rintro e w' ⟨rfl, rfl⟩
    exact fin0 0 0 (by unfold Cd.pk; rw [if_pos (.inl hn)])
  · by_cases hz : G.len = 0
    · rw [hz] at h6
      refine (pick_empty rb p n w a cap h4 h5 h6 (by omega) (by omega)).mono ?_
      rintro e w' ⟨rfl, rfl⟩
      exact fin0 0 0 (by unfold Cd.pk; rw [if_pos (.inr hz)])
    · rcases h7 with h7 | ⟨b, off, rfl, hbb, hc⟩
      · exact absurd h7 hz
      · by_cases hlt : p < G.len
        · refine (pick_in rb p n w b off G.len cap (G.c p) h4 h5 h6 (by omega) hlt (hc p hlt) (by omega) (hc0 p).1 (hc0 p).2 (by omega)).mono ?_
          rintro e w' ⟨rfl, rfl⟩
          exact fin0 _ 0 (by unfold Cd.pk; rw [if_neg (by omega), if_pos hlt])
        · have l1 := Nat.mod_lt p (by omega : 0 < G.len)
          have l2 := Nat.mod_lt (p * 7 + 3) (by omega : 0 < G.len)
          have l3 := Nat.div_le_self p G.len
          refine (pick_past rb p n w b off G.len cap _ _ h4 h5 h6 (by omega) hl (by omega) (by omega) (by omega) (p % G.len) ((p * 7 + 3) % G.len) (p / G.len) (nat_tmod _ _) (nat_tmod (p * 7 + 3) G.len) (nat_tdiv _ _) l1 l2 (by omega) (hc _ l1) (hc0 _).1 (hc0 _).2 (hc _ l2) (hc0 _).1 (hc0 _).2 (by omega)).mono ?_
          rintro e w' ⟨m, rfl, rfl⟩
          exact fin0 _ m (by unfold Cd.pk; rw [if_neg (by omega), if_neg hlt])
end Go.Proofs.YtibnojbhoepcdaaGreatDoor
/- A code is opened: the reader lies in new memory. -/
namespace Go.Proofs.YtibnojbhoepcdaaGreatDoor
open Go.ChangeShapes Go.WideShapes Go.ChangeAt Go.RowKit
/-- the bytes of a code that came in, below B -/
def Bytes (B : Nat) (w : World) (a : Option Addr) (len : Nat) : Prop :=
  ∃ f : Nat → Int, (∀ i, 0 ≤ f i ∧ f i ≤ 255) ∧ (len = 0 ∨ ∃ b off, a = some ⟨b, off, none⟩ ∧ b < B ∧ ∀ i, i < len → w.cell? ⟨b, off + i, none⟩ = some (.int .u8 (f i)))
/-- of what was there, nothing but block rb has turned -/
structure Off (rb : Nat) (w w' : World) : Prop where
  os : w'.os = w.os
  tape : w'.tape = w.tape
  output : w'.output = w.output
  size : w.heap.size ≤ w'.heap.size
  block : ∀ k, k < w.heap.size → k ≠ rb → w'.heap[k]? = w.heap[k]?
set_option maxRecDepth 20000 in
theorem Off.refl (rb : Nat) (w : World) : Off rb w w := ⟨rfl, rfl, rfl, Nat.le_refl _, fun _ _ _ => rfl⟩
set_option maxRecDepth 20000 in
theorem Off.trans {rb : Nat} {a b c : World} (h : Off rb a b) (k : Off rb b c) : Off rb a c :=
  ⟨k.os.trans h.os, k.tape.trans h.tape, k.output.trans h.output, Nat.le_trans h.size k.size, fun i hi hn => (k.block i (by have := h.size; omega) hn).trans (h.block i hi hn)⟩
set_option maxRecDepth 20000 in
theorem Aside1.off {rb : Nat} {w w' : World} (h : Aside1 rb w w') : Off rb w w' := ⟨h.os, h.tape, h.output, by rw [h.size]; exact Nat.le_refl _, fun k _ hn => h.block k hn⟩
set_option maxRecDepth 20000 in
theorem Off.alloc {rb : Nat} {a b : World} (h : Off rb a b) (o : Obj) : Off rb a (b.alloc o) :=
  h.trans ⟨rfl, rfl, rfl, by simp, fun k hk _ => Below.heap_alloc _ _ _ hk⟩
set_option maxRecDepth 20000 in
theorem Off.below {rb B : Nat} {w w' : World} (h : Off rb w w') (hB : B ≤ rb) (hs : B ≤ w.heap.size) : Below B w w' :=
  ⟨h.os, h.tape, h.output, h.size, fun k hk => h.block k (by omega) (by omega)⟩
set_option maxRecDepth 20000 in
theorem Off.cell {rb : Nat} {w w' : World} (h : Off rb w w') {p : Addr} (hp : p.block < w.heap.size) (hn : p.block ≠ rb) : w'.cell? p = w.cell? p := World.cell?_of_block (w := w) (h.block p.block hp hn)
set_option maxRecDepth 20000 in
theorem Off.frozen {rb : Nat} {w w' : World} (h : Off rb w w') {p : Addr} (hp : p.block < w.heap.size) (hn : p.block ≠ rb) : w'.frozen? p = w.frozen? p := World.frozen?_of_block (w := w) (h.block p.block hp hn)
set_option maxRecDepth 20000 in
theorem Rd.alloc {G : Cd} {B rb p : Nat} {w : World} (h : Rd G B rb p w) (o : Obj) : Rd G B rb p (w.alloc o) := by
  obtain ⟨h1, h2, h3, h4, h5, a, cap, hl, h6, hc0, h7⟩ := h
  have hc : ∀ x : Addr, x.block < w.heap.size → (w.alloc o).cell? x = w.cell? x := fun x hx => World.cell?_of_block (w := w) (Below.heap_alloc w o x.block hx)
  refine ⟨h1, by simp; omega, h3, ?_, ?_, a, cap, hl, ?_, hc0, ?_⟩
  · exact (World.frozen?_of_block (w := w) (Below.heap_alloc w o rb h2)).trans h4
  · rw [hc _ h2]; exact h5
  · rw [hc _ h2]; exact h6
  · rcases h7 with h7 | ⟨b, off, rfl, hb, hcc⟩
    · exact .inl h7
    · refine .inr ⟨b, off, rfl, hb, fun i hi => ?_⟩
      rw [hc _ (show b < w.heap.size by omega)]; exact hcc i hi
set_option maxRecDepth 20000 in
theorem Bytes.below {B B' : Nat} {w w' : World} {a : Option Addr} {len : Nat} (h : Bytes B w a len) (hb : Below B' w w') (hB : B ≤ B') : Bytes B w' a len := by
  obtain ⟨f, hf, h⟩ := h
  refine ⟨f, hf, ?_⟩
  rcases h with h | ⟨b, off, rfl, hbb, hc⟩
  · exact .inl h
  · refine .inr ⟨b, off, rfl, hbb, fun i hi => ?_⟩
    rw [hb.cell (p := ⟨b, off + i, none⟩) (show b < B' by omega)]; exact hc i hi
set_option maxRecDepth 20000 in
theorem Bytes.take {B : Nat} {w : World} {a : Option Addr} {len n : Nat} (h : Bytes B w a len) (hn : n ≤ len) : Bytes B w a n := by
  obtain ⟨f, hf, h⟩ := h
  refine ⟨f, hf, ?_⟩
  rcases h with h | ⟨b, off, rfl, hbb, hc⟩
  · exact .inl (by omega)
  · exact .inr ⟨b, off, rfl, hbb, fun i hi => hc i (by omega)⟩
set_option maxRecDepth 20000 in
theorem rd_new (B : Nat) (a : Option Addr) (len cap : Nat) (w : World) (hB : B ≤ w.heap.size) (h : Bytes B w a len) (hl : len ≤ 2000) :
    ∃ G, Rd G B w.heap.size 0 (w.alloc (.cells #[.slice a len cap, .int .i64 0] 74)) := by
  have hb : Below B w (w.alloc (.cells #[.slice a len cap, .int .i64 0] 74)) := (Below.refl _ _).alloc hB _
  obtain ⟨f, hf, h2⟩ := h.below hb (Nat.le_refl _)
  exact ⟨⟨len, f⟩, hB, by simp, by omega, by simp [go_sem], by simp, a, cap, hl, by simp, hf, h2⟩
set_option maxRecDepth 20000 in
theorem open_any (B : Nat) (a : Option Addr) (len cap : Nat) (w : World) (hB : B ≤ w.heap.size) (h : Bytes B w a len) (hl : len ≤ cap) :
    Calls Tryz.prog 28 #[.slice a len cap] w fun e w' => e = .returned (.pointer (some ⟨w.heap.size, 0, none⟩)) ∧ (∃ G, Rd G B w.heap.size 0 w') ∧ Below w.heap.size w w' ∧ w'.heap.size = w.heap.size + 1 := by
  by_cases hlen : 2000 < len
  · go_enter Tryz.func28, Tryz.ntmps28
    go_wp2
    go_ret
    exact ⟨rfl, rd_new B a 2000 cap w hB (h.take (by omega)) (by omega), (Below.refl _ _).alloc (Nat.le_refl _) _, by simp⟩
  · go_enter Tryz.func28, Tryz.ntmps28
    go_wp2
    go_ret
    exact ⟨rfl, rd_new B a len cap w hB h (by omega), (Below.refl _ _).alloc (Nat.le_refl _) _, by simp⟩
set_option maxRecDepth 20000 in
theorem Off.belowAll {rb : Nat} {w w1 w' : World} (hb : Below w.heap.size w w1) (h : Off rb w1 w') (hB : w.heap.size ≤ rb) : Below w.heap.size w w' :=
  hb.trans (h.below hB hb.size)
end Go.Proofs.YtibnojbhoepcdaaGreatDoor
/- Blocks of four cells of the call's own; numbers that are picked. -/
namespace Go.Proofs.YtibnojbhoepcdaaGreatDoor
open Go.ChangeShapes Go.WideShapes Go.ChangeAt Go.RowKit
set_option maxRecDepth 20000 in
theorem Rd.set {G : Cd} {B rb p : Nat} {w : World} (h : Rd G B rb p w) (R o : Nat) (v : Value) (h1 : R ≠ rb) (h2 : B ≤ R) : Rd G B rb p (w.setCell ⟨R, o, none⟩ v) := by
  obtain ⟨a1, a2, a3, a4, a5, a, cap, hl, a6, hc0, a7⟩ := h
  refine ⟨a1, by simpa [World.setCell] using a2, a3, ?_, ?_, a, cap, hl, ?_, hc0, ?_⟩
  · rw [World.frozen?_setCell]; exact a4
  · rw [cell_far _ (show rb ≠ R by omega)]; exact a5
  · rw [cell_far _ (show rb ≠ R by omega)]; exact a6
  · rcases a7 with a7 | ⟨b, off, rfl, hb, hcc⟩
    · exact .inl a7
    · refine .inr ⟨b, off, rfl, hb, fun i hi => ?_⟩
      rw [cell_far _ (show b ≠ R by omega)]; exact hcc i hi
set_option maxRecDepth 20000 in
theorem Off.set {rb : Nat} {a b : World} (h : Off rb a b) (R o : Nat) (v : Value) (hR : a.heap.size ≤ R) : Off rb a (b.setCell ⟨R, o, none⟩ v) :=
  ⟨h.os, h.tape, h.output, by have := h.size; simpa [World.setCell] using this, fun k hk hn => (Below.heap_setCell b ⟨R, o, none⟩ v k (show k ≠ R by omega)).trans (h.block k hk hn)⟩
/-- four cells of a block may be written -/
def Slot4 (w : World) (b : Nat) : Prop := ∀ i, i < 4 → (∃ v, w.cell? ⟨b, i, none⟩ = some v) ∧ w.frozen? ⟨b, i, none⟩ = false
set_option maxRecDepth 20000 in
theorem Slot4.aside {w w' : World} {b rb : Nat} (h : Slot4 w b) (ha : Aside1 rb w w') (hb : b ≠ rb) : Slot4 w' b := fun i hi => by
  obtain ⟨⟨v, hv⟩, hf⟩ := h i hi
  exact ⟨⟨v, (ha.cell (p := ⟨b, i, none⟩) hb).trans hv⟩, (ha.frozen (p := ⟨b, i, none⟩) hb).trans hf⟩
set_option maxRecDepth 20000 in
theorem Slot4.off {w w' : World} {b rb : Nat} (h : Slot4 w b) (ha : Off rb w w') (hb : b ≠ rb) : Slot4 w' b := fun i hi => by
  obtain ⟨⟨v, hv⟩, hf⟩ := h i hi
  have hlt : b < w.heap.size := World.block_lt_of_cell? w _ hv
  exact ⟨⟨v, (ha.cell (p := ⟨b, i, none⟩) hlt hb).trans hv⟩, (ha.frozen (p := ⟨b, i, none⟩) hlt hb).trans hf⟩
set_option maxRecDepth 20000 in
theorem Slot4.alloc {w : World} {b : Nat} (h : Slot4 w b) (o : Obj) : Slot4 (w.alloc o) b := fun i hi => by
  obtain ⟨⟨v, hv⟩, hf⟩ := h i hi
  have hlt : b < w.heap.size := World.block_lt_of_cell? w _ hv
  exact ⟨⟨v, keep_alloc o hv⟩, (World.frozen?_of_block (w := w) (Below.heap_alloc w o b hlt)).trans hf⟩
set_option maxRecDepth 20000 in
theorem Slot4.new (w : World) (x y h e : Value) (t : TypeId) : Slot4 (w.alloc (.cells #[x, y, h, e] t)) w.heap.size := fun i hi => by
  have : i = 0 ∨ i = 1 ∨ i = 2 ∨ i = 3 := by omega
  rcases this with rfl | rfl | rfl | rfl <;> exact ⟨⟨_, by simp; rfl⟩, by simp [go_sem]⟩
set_option maxRecDepth 20000 in
theorem three (w : World) (x0 x1 x2 : Int) (m : Nat) (hm : m < 3) : ∃ r : Int, (w.alloc (.cells #[.int .i64 x0, .int .i64 x1, .int .i64 x2] 3)).cell? ⟨w.heap.size, m, none⟩ = some (.int .i64 r) := by
  have h : m = 0 ∨ m = 1 ∨ m = 2 := by omega
  rcases h with rfl | rfl | rfl <;> exact ⟨_, by simp; rfl⟩
set_option maxRecDepth 20000 in
theorem two (w : World) (x0 x1 : Int) (m : Nat) (hm : m < 2) : ∃ r : Int, (w.alloc (.cells #[.int .i64 x0, .int .i64 x1] 3)).cell? ⟨w.heap.size, m, none⟩ = some (.int .i64 r) := by
  have h : m = 0 ∨ m = 1 := by omega
  rcases h with rfl | rfl <;> exact ⟨_, by simp; rfl⟩
set_option maxRecDepth 20000 in
theorem Slot4.below {w w' : World} {b : Nat} (h : Slot4 w b) (hb : Below w.heap.size w w') : Slot4 w' b := fun i hi => by
  obtain ⟨⟨v, hv⟩, hf⟩ := h i hi
  have hlt : b < w.heap.size := World.block_lt_of_cell? w _ hv
  exact ⟨⟨v, (hb.cell (p := ⟨b, i, none⟩) hlt).trans hv⟩, (hb.frozen (p := ⟨b, i, none⟩) hlt).trans hf⟩
set_option maxRecDepth 20000 in
theorem Rd.below {G : Cd} {B rb p : Nat} {w w' : World} (h : Rd G B rb p w) (hb : Below w.heap.size w w') : Rd G B rb p w' := by
  obtain ⟨a1, a2, a3, a4, a5, a, cap, hl, a6, hc0, a7⟩ := h
  refine ⟨a1, by have := hb.size; omega, a3, ?_, ?_, a, cap, hl, ?_, hc0, ?_⟩
  · exact (hb.frozen (p := ⟨rb, 1, none⟩) a2).trans a4
  · exact (hb.cell (p := ⟨rb, 1, none⟩) a2).trans a5
  · exact (hb.cell (p := ⟨rb, 0, none⟩) a2).trans a6
  · rcases a7 with a7 | ⟨b, off, rfl, hbb, hcc⟩
    · exact .inl a7
    · refine .inr ⟨b, off, rfl, hbb, fun i hi => ?_⟩
      exact (hb.cell (p := ⟨b, off + i, none⟩) (show b < w.heap.size by omega)).trans (hcc i hi)
set_option maxRecDepth 20000 in
theorem Off.ofBelow {w w' : World} (rb : Nat) (hb : Below w.heap.size w w') : Off rb w w' := ⟨hb.os, hb.tape, hb.output, hb.size, fun k hk _ => hb.block k hk⟩
set_option maxRecDepth 20000 in
/-- four stores into a block of the call's own -/
theorem Rd.set4 {G : Cd} {B rb p : Nat} {w : World} (h : Rd G B rb p w) (R : Nat) (a b c d : Value) (h1 : R ≠ rb) (h2 : B ≤ R) : Rd G B rb p ((((w.setCell ⟨R, 0, none⟩ a).setCell ⟨R, 1, none⟩ b).setCell ⟨R, 2, none⟩ c).setCell ⟨R, 3, none⟩ d) :=
  (((h.set R 0 a h1 h2).set R 1 b h1 h2).set R 2 c h1 h2).set R 3 d h1 h2
set_option maxRecDepth 20000 in
theorem Off.set4 {rb : Nat} {u w : World} (h : Off rb u w) (R : Nat) (a b c d : Value) (hR : u.heap.size ≤ R) : Off rb u ((((w.setCell ⟨R, 0, none⟩ a).setCell ⟨R, 1, none⟩ b).setCell ⟨R, 2, none⟩ c).setCell ⟨R, 3, none⟩ d) :=
  (((h.set R 0 a hR).set R 1 b hR).set R 2 c hR).set R 3 d hR
set_option maxRecDepth 20000 in
theorem pick_lit {G : Cd} (B rb p : Nat) (n v : Int) (w : World) (h : Rd G B rb p w) (hp : p < 1000000) (hv : Hid (G.pk p n = v)) :
    Calls Tryz.prog 29 #[.pointer (some ⟨rb, 0, none⟩), .int .i64 n] w fun e w' => e = .returned (.int .i64 v) ∧ Rd G B rb (p + 1) w' ∧ Aside1 rb w w' :=
  (pick_any B rb p n w h hp).mono (by rintro e w' ⟨rfl, _, r, o⟩; exact ⟨by rw [hv.out], r, o⟩)
set_option maxRecDepth 20000 in
theorem gate_any (n : Int) (w : World) : Calls Tryz.prog 102 #[.int .i64 n] w fun e w' => ∃ g : Bool, e = .returned (.bool g) ∧ w' = w := by
  go_enter Tryz.func102, Tryz.ntmps102
  go_wp2
  go_ret
  exact ⟨_, rfl, rfl⟩
set_option maxRecDepth 20000 in
theorem keep_aside {rb : Nat} {w w' : World} {b o : Nat} {v : Value} (h : Aside1 rb w w') (hb : b ≠ rb) (hc : w.cell? ⟨b, o, none⟩ = some v) : w'.cell? ⟨b, o, none⟩ = some v := (h.cell (p := ⟨b, o, none⟩) hb).trans hc
set_option maxRecDepth 20000 in
theorem keep_setD {w : World} {b o b' o' : Nat} {v : Value} (u : Value) (hp : b ≠ b') (h : w.cell? ⟨b, o, none⟩ = some v) : (w.setCell ⟨b', o', none⟩ u).cell? ⟨b, o, none⟩ = some v := (cell_far u hp).trans h
set_option maxRecDepth 20000 in
theorem Rd.drew {G : Cd} {B rb p : Nat} {w : World} (h : Rd G B rb p w) : Rd G B rb p w.drew := h.below (Below.drew (Below.refl _ _))
set_option maxRecDepth 20000 in
theorem Slot4.drew {w : World} {b : Nat} (h : Slot4 w b) : Slot4 w.drew b := h.below (Below.drew (Below.refl _ _))
set_option maxRecDepth 20000 in
theorem Off.drew {rb : Nat} {a b : World} (h : Off rb a b) : Off rb a b.drew := h.trans (Off.ofBelow rb (Below.drew (Below.refl _ _)))
set_option maxRecDepth 20000 in
theorem Slot4.lt {w : World} {b : Nat} (h : Slot4 w b) : b < w.heap.size := by
  obtain ⟨⟨v, hv⟩, _⟩ := h 0 (by omega)
  exact World.block_lt_of_cell? w _ hv
set_option maxRecDepth 20000 in
theorem at0 (w : World) (x0 x1 x2 : Int) : (w.alloc (.cells #[.int .i64 x0, .int .i64 x1, .int .i64 x2] 3)).cell? ⟨w.heap.size, 0, none⟩ = some (.int .i64 x0) := by simp
set_option maxRecDepth 20000 in
theorem at1 (w : World) (x0 x1 x2 : Int) : (w.alloc (.cells #[.int .i64 x0, .int .i64 x1, .int .i64 x2] 3)).cell? ⟨w.heap.size, 1, none⟩ = some (.int .i64 x1) := by simp
set_option maxRecDepth 20000 in
theorem at2 (w : World) (x0 x1 x2 : Int) : (w.alloc (.cells #[.int .i64 x0, .int .i64 x1, .int .i64 x2] 3)).cell? ⟨w.heap.size, 2, none⟩ = some (.int .i64 x2) := by simp
end Go.Proofs.YtibnojbhoepcdaaGreatDoor
