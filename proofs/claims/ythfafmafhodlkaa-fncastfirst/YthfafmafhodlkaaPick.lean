/- What a pick from a code comes to, whatever the code: some number in its bounds; only the reader's own place has turned. -/
import Derived.Test.YthfafmafhodlkaaProg
import Derived.LoopTactic
import Derived.Deep.QuietTactic
import Derived.BigQuiet
import Derived.Laws.Bits64
import Derived.Below
import Derived.Test.YthfafmafhodlkaaExOver
import Derived.WalkKit
import Derived.ProofKit
import Derived.WalkLawsBesides
namespace Go.Proofs.Ythfafmafhodlkaa
open Go.ChangeShapes Go.WideShapes Go.ChangeAt Go.RowKit
theorem i64_xor_nat (a b : Nat) (ha : a < 9223372036854775808) (hb : b < 9223372036854775808) :
    bits .xor .i64 (a : Int) (b : Int) = ((a ^^^ b : Nat) : Int) := by
  have hx : a ^^^ b < 2 ^ 63 := Nat.xor_lt_two_pow (by omega) (by omega)
  have h1 : (BitVec.ofInt 64 (a : Int)).toNat = a := by
    rw [BitVec.ofInt_natCast, BitVec.toNat_ofNat]; exact Nat.mod_eq_of_lt (by omega)
  have h2 : (BitVec.ofInt 64 (b : Int)).toNat = b := by
    rw [BitVec.ofInt_natCast, BitVec.toNat_ofNat]; exact Nat.mod_eq_of_lt (by omega)
  show IntKind.i64.wrap ((BitVec.ofInt 64 (a : Int) ^^^ BitVec.ofInt 64 (b : Int)).toNat : Int) = _
  rw [BitVec.toNat_xor, h1, h2]
  simp [IntKind.wrap, IntKind.bits, IntKind.signed]
  omega
theorem xor_pos {x : Int} (h0 : 0 ≤ x) (h1 : x ≤ 1000000000000) : 0 ≤ bits .xor .i64 x (x / 64) ∧ bits .xor .i64 x (x / 64) ≤ 2000000000000 := by
  obtain ⟨n, rfl⟩ := Int.eq_ofNat_of_zero_le h0
  have e : ((n : Nat) : Int) / 64 = ((n / 64 : Nat) : Int) := by omega
  rw [e, i64_xor_nat _ _ (by omega) (by omega)]
  have : n ^^^ (n / 64) < 2 ^ 40 := Nat.xor_lt_two_pow (by omega) (by omega)
  omega

/-- nothing but block rb has turned -/
structure Aside1 (rb : Nat) (w w' : World) : Prop where
  os : w'.os = w.os
  tape : w'.tape = w.tape
  output : w'.output = w.output
  size : w'.heap.size = w.heap.size
  block : ∀ k, k ≠ rb → w'.heap[k]? = w.heap[k]?
theorem Aside1.below {rb B : Nat} {w w' : World} (h : Aside1 rb w w') (hB : B ≤ rb) : Below B w w' :=
  ⟨h.os, h.tape, h.output, by have := h.size; omega, fun k hk => h.block k (by omega)⟩
theorem Aside1.cell {rb : Nat} {w w' : World} (h : Aside1 rb w w') {p : Addr} (hp : p.block ≠ rb) : w'.cell? p = w.cell? p := World.cell?_of_block (w := w) (h.block p.block hp)
theorem Aside1.frozen {rb : Nat} {w w' : World} (h : Aside1 rb w w') {p : Addr} (hp : p.block ≠ rb) : w'.frozen? p = w.frozen? p := World.frozen?_of_block (w := w) (h.block p.block hp)
theorem Aside1.trans {rb : Nat} {a b c : World} (h : Aside1 rb a b) (k : Aside1 rb b c) : Aside1 rb a c :=
  ⟨k.os.trans h.os, k.tape.trans h.tape, k.output.trans h.output, k.size.trans h.size, fun i hi => (k.block i hi).trans (h.block i hi)⟩
/-- a code: how many bytes are read of it, and which -/
structure Cd where
  len : Nat
  c : Nat → Int
/-- what is picked at place p, from 0 to n-1 -/
def Cd.pk (G : Cd) (p : Nat) (n : Int) : Int :=
  if n < 1 ∨ G.len = 0 then 0
  else if p < G.len then G.c p % n
  else bits .xor .i64 (G.c (p % G.len) * 131 + G.c ((p * 7 + 3) % G.len) * 1117 + (p : Int) * 29 + ((p / G.len : Nat) : Int) * 53) ((G.c (p % G.len) * 131 + G.c ((p * 7 + 3) % G.len) * 1117 + (p : Int) * 29 + ((p / G.len : Nat) : Int) * 53) / 64) % n
/-- a reader of the code G lies at block rb, from B on; the code's bytes lie below B; it has read p of them -/
structure Rd (G : Cd) (B rb p : Nat) (w : World) : Prop where
  le : B ≤ rb
  lt : rb < w.heap.size
  few : p ≤ 1000000
  free : w.frozen? ⟨rb, 1, none⟩ = false
  at' : w.cell? ⟨rb, 1, none⟩ = some (.int .i64 p)
  code : ∃ (a : Option Addr) (cap : Nat), G.len ≤ 2000 ∧ w.cell? ⟨rb, 0, none⟩ = some (.slice a G.len cap) ∧ (∀ i, 0 ≤ G.c i ∧ G.c i ≤ 255) ∧
    (G.len = 0 ∨ ∃ b off, a = some ⟨b, off, none⟩ ∧ b < B ∧ ∀ i, i < G.len → w.cell? ⟨b, off + i, none⟩ = some (.int .u8 (G.c i)))
theorem aside_set (rb : Nat) (w : World) (o : Nat) (v : Value) (n : Nat) : Aside1 rb w ((w.setCell ⟨rb, o, none⟩ v).drewN n) :=
  ⟨rfl, rfl, rfl, by simp [World.setCell], fun k hk => Below.heap_setCell w ⟨rb, o, none⟩ v k hk⟩
theorem cell_far {w : World} {p a : Addr} (v : Value) (h : a.block ≠ p.block) : (w.setCell p v).cell? a = w.cell? a :=
  World.cell?_of_block (w := w) (Below.heap_setCell w p v a.block h)
theorem Rd.step {G : Cd} {B rb p : Nat} {w : World} (h : Rd G B rb p w) (hp : p < 1000000) (n : Nat) : Rd G B rb (p + 1) ((w.setCell ⟨rb, 1, none⟩ (.int .i64 ((p : Int) + 1))).drewN n) := by
  obtain ⟨h1, h2, h3, h4, h5, a, cap, hl, h6, hc0, h7⟩ := h
  refine ⟨h1, by simpa [World.setCell] using h2, by omega, ?_, ?_, a, cap, hl, ?_, hc0, ?_⟩
  · rw [World.frozen?_drewN, World.frozen?_setCell]; exact h4
  · rw [World.cell?_drewN, World.cell?_setCell_same' _ _ _ (by rw [h5]; rfl)]; rfl
  · rw [World.cell?_drewN, World.cell?_setCell_other _ _ _ _ (by simp)]; exact h6
  · rcases h7 with h7 | ⟨b, off, rfl, hb, hc⟩
    · exact .inl h7
    · refine .inr ⟨b, off, rfl, hb, fun i hi => ?_⟩
      rw [World.cell?_drewN, cell_far _ (show b ≠ rb by omega)]; exact hc i hi
theorem pick_none (rb p : Nat) (n : Int) (w : World) (h1 : w.frozen? ⟨rb, 1, none⟩ = false) (h2 : w.cell? ⟨rb, 1, none⟩ = some (.int .i64 p)) (hp : p ≤ 1000000)
    (h : n < 1) :
    Calls Try.prog 23 #[.pointer (some ⟨rb, 0, none⟩), .int .i64 n] w fun e w' => e = .returned (.int .i64 0) ∧ w' = w.setCell ⟨rb, 1, none⟩ (.int .i64 (p + 1)) := by
  go_enter Try.func23, Try.ntmps23
  go_wp2
  go_ret
  exact ⟨rfl, rfl⟩
theorem pick_empty (rb p : Nat) (n : Int) (w : World) (a : Option Addr) (cap : Nat) (h1 : w.frozen? ⟨rb, 1, none⟩ = false) (h2 : w.cell? ⟨rb, 1, none⟩ = some (.int .i64 p)) (h3 : w.cell? ⟨rb, 0, none⟩ = some (.slice a 0 cap)) (hp : p ≤ 1000000)
    (h : 1 ≤ n) :
    Calls Try.prog 23 #[.pointer (some ⟨rb, 0, none⟩), .int .i64 n] w fun e w' => e = .returned (.int .i64 0) ∧ w' = w.setCell ⟨rb, 1, none⟩ (.int .i64 (p + 1)) := by
  go_enter Try.func23, Try.ntmps23
  go_wp2
  go_ret
  exact ⟨rfl, rfl⟩
theorem pick_in (rb p : Nat) (n : Int) (w : World) (b off : Nat) (len cap : Nat) (c : Int) (h1 : w.frozen? ⟨rb, 1, none⟩ = false) (h2 : w.cell? ⟨rb, 1, none⟩ = some (.int .i64 p)) (h3 : w.cell? ⟨rb, 0, none⟩ = some (.slice (some ⟨b, off, none⟩) len cap)) (hp : p ≤ 1000000)
    (hpl : p < len) (hc : w.cell? ⟨b, off + p, none⟩ = some (.int .u8 c)) (hbr : b ≠ rb) (c0 : 0 ≤ c) (c1 : c ≤ 255)
    (h : 1 ≤ n) :
    Calls Try.prog 23 #[.pointer (some ⟨rb, 0, none⟩), .int .i64 n] w fun e w' => e = .returned (.int .i64 (c % n)) ∧ w' = w.setCell ⟨rb, 1, none⟩ (.int .i64 (p + 1)) := by
  have hl0 : ((len : Int) == 0) = false := by simp; omega
  go_enter Try.func23, Try.ntmps23
  go_wp2
  go_ret
  exact ⟨rfl, rfl⟩
set_option maxHeartbeats 400000 in
theorem pick_past (rb p : Nat) (n : Int) (w : World) (b off : Nat) (len cap : Nat) (c1 c2 : Int) (h1 : w.frozen? ⟨rb, 1, none⟩ = false) (h2 : w.cell? ⟨rb, 1, none⟩ = some (.int .i64 p)) (h3 : w.cell? ⟨rb, 0, none⟩ = some (.slice (some ⟨b, off, none⟩) len cap)) (hp : p ≤ 1000000)
    (hlen : len ≤ 2000) (hl1 : 0 < len) (hpl : len ≤ p) (hbr : b ≠ rb) (k1 k2 q : Nat) (e1 : (p : Int).tmod (len : Int) = (k1 : Int)) (e2 : ((p : Int) * 7 + 3).tmod (len : Int) = (k2 : Int)) (e3 : (p : Int).tdiv (len : Int) = (q : Int)) (l1 : k1 < len) (l2 : k2 < len) (l3 : q ≤ 1000000)
    (hc1 : w.cell? ⟨b, off + k1, none⟩ = some (.int .u8 c1)) (a0 : 0 ≤ c1) (a1 : c1 ≤ 255) 
    (hc2 : w.cell? ⟨b, off + k2, none⟩ = some (.int .u8 c2)) (b0 : 0 ≤ c2) (b1 : c2 ≤ 255) 
    (h : 1 ≤ n) :
    Calls Try.prog 23 #[.pointer (some ⟨rb, 0, none⟩), .int .i64 n] w fun e w' => ∃ m, e = .returned (.int .i64 (bits .xor .i64 (c1 * 131 + c2 * 1117 + (p : Int) * 29 + (q : Int) * 53) ((c1 * 131 + c2 * 1117 + (p : Int) * 29 + (q : Int) * 53) / 64) % n)) ∧ w' = (w.setCell ⟨rb, 1, none⟩ (.int .i64 (p + 1))).drewN m := by
  have hl0 : ((len : Int) == 0) = false := by simp; omega
  have hz : (0 : Int) < (len : Int) := by omega
  have hz1 : ¬ len = 0 := by omega
  have hx := xor_pos (x := c1 * 131 + c2 * 1117 + p * 29 + q * 53) (by omega) (by omega)
  go_enter Try.func23, Try.ntmps23
  go_wp2
  go_quiet (fail)
  go_wp2
  go_ret
  exact ⟨_, rfl, rfl⟩

theorem nat_tmod (p len : Nat) : ((p : Int)).tmod (len : Int) = ((p % len : Nat) : Int) := by
  rw [Int.tmod_eq_emod_of_nonneg (by omega)]; exact (Int.natCast_emod p len).symm
theorem nat_tdiv (p len : Nat) : ((p : Int)).tdiv (len : Int) = ((p / len : Nat) : Int) := by
  rw [Int.tdiv_eq_ediv_of_nonneg (by omega)]; exact (Int.natCast_ediv p len).symm
theorem Cd.pk_bd (G : Cd) (p : Nat) (n : Int) : 0 ≤ G.pk p n ∧ (G.pk p n < n ∨ G.pk p n = 0) := by
  unfold Cd.pk
  split
  · exact ⟨by omega, .inr rfl⟩
  · split
    · exact ⟨Int.emod_nonneg _ (by omega), .inl (Int.emod_lt_of_pos _ (by omega))⟩
    · exact ⟨Int.emod_nonneg _ (by omega), .inl (Int.emod_lt_of_pos _ (by omega))⟩
/-- a pick from a code: its value is that plain function; the reader is one further; nothing else has turned -/
theorem pick_any {G : Cd} (B rb p : Nat) (n : Int) (w : World) (h : Rd G B rb p w) (hp : p < 1000000) :
    Calls Try.prog 23 #[.pointer (some ⟨rb, 0, none⟩), .int .i64 n] w fun e w' => e = .returned (.int .i64 (G.pk p n)) ∧ (0 ≤ G.pk p n ∧ (G.pk p n < n ∨ G.pk p n = 0)) ∧ Rd G B rb (p + 1) w' ∧ Aside1 rb w w' := by
  have hr := h
  obtain ⟨h1, h2, h3, h4, h5, a, cap, hl, h6, hc0, h7⟩ := h
  have hb := G.pk_bd p n
  have fin0 : ∀ (k : Int) (m : Nat), k = G.pk p n → Ending.returned (.int .i64 k) = .returned (.int .i64 (G.pk p n)) ∧ (0 ≤ G.pk p n ∧ (G.pk p n < n ∨ G.pk p n = 0)) ∧ Rd G B rb (p + 1) ((w.setCell ⟨rb, 1, none⟩ (.int .i64 ((p : Int) + 1))).drewN m) ∧ Aside1 rb w ((w.setCell ⟨rb, 1, none⟩ (.int .i64 ((p : Int) + 1))).drewN m) :=
    fun k m e => ⟨by rw [e], hb, hr.step hp m, aside_set rb w 1 _ m⟩
  by_cases hn : n < 1
  · refine (pick_none rb p n w h4 h5 (by omega) hn).mono ?_
    rintro e w' ⟨rfl, rfl⟩
    exact fin0 0 0 (by unfold Cd.pk; rw [if_pos (.inl hn)])
  · by_cases hz : G.len = 0
    · rw [hz] at h6
      refine (pick_empty rb p n w a cap h4 h5 h6 (by omega) (by omega)).mono ?_
      rintro e w' ⟨rfl, rfl⟩
      exact fin0 0 0 (by unfold Cd.pk; rw [if_pos (.inr hz)])
    · rcases h7 with h7 | ⟨b, off, rfl, hbb, hc⟩
      · exact absurd h7 hz
      · by_cases hlt : p < G.len
        · refine (pick_in rb p n w b off G.len cap (G.c p) h4 h5 h6 (by omega) hlt (hc p hlt) (by omega) (hc0 p).1 (hc0 p).2 (by omega)).mono ?_
          rintro e w' ⟨rfl, rfl⟩
          exact fin0 _ 0 (by unfold Cd.pk; rw [if_neg (by omega), if_pos hlt])
        · have l1 := Nat.mod_lt p (by omega : 0 < G.len)
          have l2 := Nat.mod_lt (p * 7 + 3) (by omega : 0 < G.len)
          have l3 := Nat.div_le_self p G.len
          refine (pick_past rb p n w b off G.len cap _ _ h4 h5 h6 (by omega) hl (by omega) (by omega) (by omega) (p % G.len) ((p * 7 + 3) % G.len) (p / G.len) (nat_tmod _ _) (nat_tmod (p * 7 + 3) G.len) (nat_tdiv _ _) l1 l2 (by omega) (hc _ l1) (hc0 _).1 (hc0 _).2 (hc _ l2) (hc0 _).1 (hc0 _).2 (by omega)).mono ?_
          rintro e w' ⟨m, rfl, rfl⟩
          exact fin0 _ m (by unfold Cd.pk; rw [if_neg (by omega), if_neg hlt])
end Go.Proofs.Ythfafmafhodlkaa
