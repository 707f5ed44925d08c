/- A number's figures to the base 16: the library's way. -/
import Derived.Test.YtibnojbhoepcdaaDoorTxt
import Derived.Test.YtibnojbhoepcdaaDoorWSsum
import Derived.Laws.Bits64b
namespace Go.Proofs.YtibnojbhoepcdaaDoor.S
open Go.ChangeShapes Go.WideShapes Go.ChangeAt Go.RowKit
attribute [local go_sem ↓] Go.wp_at_zero Go.wp_at_succ
/-- a figure -/
def hexD (d : Nat) : UInt8 := if d < 10 then UInt8.ofNat (48 + d) else UInt8.ofNat (87 + d)
/-- a number's figures, ahead of others -/
def hexA : Nat → Nat → List UInt8 → List UInt8
  | 0, n, l => hexD (n % 16) :: l
  | k + 1, n, l => if n < 16 then hexD n :: l else hexA k (n / 16) (hexD (n % 16) :: l)
def hexL (n : Nat) : List UInt8 := hexA 7 n []
/-- the block of figures -/
structure HB (w wr : World) (l : List UInt8) : Prop where
  b : Below w.heap.size w wr
  c : ∀ j, j < 65 → ∃ x : Int, wr.cell? ⟨w.heap.size, j, none⟩ = some (.int .u8 x)
  f : ∀ j, wr.frozen? ⟨w.heap.size, j, none⟩ = false
  l : ∀ j (h : j < l.length), wr.cell? ⟨w.heap.size, 65 - l.length + j, none⟩ = some (.int .u8 (l[j].toNat : Int))
theorem below_set {w wr : World} (h : Below w.heap.size w wr) (k : Nat) (v : Value) : Below w.heap.size w (wr.setCell ⟨w.heap.size, k, none⟩ v) := h.setCell (Nat.le_refl _) v
theorem HB.store {w wr : World} {l : List UInt8} (h : HB w wr l) (hl : l.length < 65) (d : UInt8) : HB w (wr.setCell ⟨w.heap.size, 65 - l.length - 1, none⟩ (.int .u8 (d.toNat : Int))) (d :: l) := by
  rw [show 65 - l.length - 1 = 64 - l.length by omega]
  obtain ⟨x, hx⟩ := h.c (64 - l.length) (by omega)
  refine ⟨below_set h.b _ _, fun j hj => ?_, fun j => by rw [World.frozen?_setCell]; exact h.f j, fun j hj => ?_⟩
  · by_cases e : j = 64 - l.length
    · subst e; exact ⟨_, World.cell?_setCell_same _ _ _ hx⟩
    · rw [World.cell?_setCell_other _ _ _ _ (by intro q; injection q with q1 q2; omega)]
      exact h.c j hj
  · cases j with
    | zero =>
      have e : 65 - (d :: l).length + 0 = 64 - l.length := by simp only [List.length_cons]; omega
      rw [e]
      exact World.cell?_setCell_same _ _ _ hx
    | succ j =>
      have e : 65 - (d :: l).length + (j + 1) = 65 - l.length + j := by simp only [List.length_cons]; omega
      rw [e, World.cell?_setCell_other _ _ _ _ (by intro q; injection q with q1 q2; omega)]
      exact h.l j (by simpa using hj)
theorem tz_any (w : World) (hc : w.cell? ⟨5, 15, none⟩ = some (.int .u8 4)) :
    Calls Tryd.prog 92 #[.int .u64 16] w fun e w' => e = .returned (.int .i64 4) ∧ w' = w := by
  have key : IntKind.u64.wrap (bits BinOp.and IntKind.u64 16 (IntKind.u64.wrap (-16)) * 285870213051353865) / 288230376151711744 = 15 := by decide +kernel
  go_enter Tryd.func92, Tryd.ntmps92
  go_wp2_with (simp only [key])
  go_ret
  exact ⟨rfl, rfl⟩
theorem tzu_any (w : World) (hc : w.cell? ⟨5, 15, none⟩ = some (.int .u8 4)) :
    Calls Tryd.prog 88 #[.int .u64 16] w fun e w' => e = .returned (.int .i64 4) ∧ w' = w := by
  go_enter Tryd.func88, Tryd.ntmps88
  go_wp2_with fail
  refine (tz_any w hc).mono ?_
  rintro e w' ⟨rfl, hw⟩
  obtain rfl := hw.symm
  go_wp2
  go_ret
  exact ⟨rfl, rfl⟩
theorem pow2_any (w : World) :
    Calls Tryd.prog 87 #[.int .i64 16] w fun e w' => e = .returned (.bool true) ∧ w' = w := by
  have key : bits BinOp.and IntKind.i64 16 15 = 0 := by decide +kernel
  go_enter Tryd.func87, Tryd.ntmps87
  go_wp2_with (simp only [key])
  go_ret
  exact ⟨rfl, rfl⟩
theorem zero65 : Tryd.zeroCells119 = (List.replicate 65 (Value.int .u8 0)).toArray := by kernel_rfl
theorem HB.new (w : World) (T : TypeId) : HB w (w.alloc (.cells Tryd.zeroCells119 T)) [] := by
  refine ⟨Below.alloc (Below.refl _ _) (Nat.le_refl _) _, fun j hj => ⟨0, ?_⟩, fun j => World.frozen?_alloc_new _ _ _ _, fun j hj => by simp at hj⟩
  rw [World.cell?_alloc_new, zero65, List.getElem?_toArray, List.getElem?_replicate, if_pos hj]
theorem cell_lt {w : World} {p : Addr} {v : Value} (h : w.cell? p = some v) : p.block < w.heap.size := by
  rcases Nat.lt_or_ge p.block w.heap.size with h' | h'
  · exact h'
  · unfold World.cell? at h
    rw [Array.getElem?_eq_none h'] at h
    cases h
theorem dig_at (d : Nat) (h : d < 16) (h2 : d < (ByteArray.mk #[48, 49, 50, 51, 52, 53, 54, 55, 56, 57, 97, 98, 99, 100, 101, 102, 103, 104, 105, 106, 107, 108, 109, 110, 111, 112, 113, 114, 115, 116, 117, 118, 119, 120, 121, 122]).size) : (ByteArray.mk #[48, 49, 50, 51, 52, 53, 54, 55, 56, 57, 97, 98, 99, 100, 101, 102, 103, 104, 105, 106, 107, 108, 109, 110, 111, 112, 113, 114, 115, 116, 117, 118, 119, 120, 121, 122])[d] = hexD d := by
  have : ∀ e : Fin 16, (ByteArray.mk #[48, 49, 50, 51, 52, 53, 54, 55, 56, 57, 97, 98, 99, 100, 101, 102, 103, 104, 105, 106, 107, 108, 109, 110, 111, 112, 113, 114, 115, 116, 117, 118, 119, 120, 121, 122])[e.val]'(Nat.lt_trans e.isLt (by decide)) = hexD e.val := by decide +kernel
  exact this ⟨d, h⟩
theorem and15 (u : Nat) (h : u < 4294967296) : bits BinOp.and IntKind.u64 (u : Int) 15 = ((u % 16 : Nat) : Int) := by
  have := bits_and_u64_nat u 15 (by omega) (by omega)
  rw [show ((15 : Nat) : Int) = (15 : Int) from rfl] at this
  rw [this]
  congr 1
  exact Nat.and_two_pow_sub_one_eq_mod u 4
set_option maxRecDepth 20000 in
set_option maxHeartbeats 4000000 in
theorem fbits_any (n : Nat) (hn : n < 4294967296) (w : World) (hc : w.cell? ⟨5, 15, none⟩ = some (.int .u8 4)) :
    Calls Tryd.prog 78 #[.slice none 0 0, .int .u64 n, .int .i64 16, .bool false, .bool false] w fun e w' => e = .returned (.tuple #[.slice none 0 0, .string (bs (hexL n))]) ∧ Below w.heap.size w w' := by
  go_enter Tryd.func78, Tryd.ntmps78
  go_wp2_with fail
  refine (pow2_any _).mono ?_
  rintro e w' ⟨rfl, hw⟩
  obtain rfl := hw.symm
  clear hw
  have h0 := HB.new w 119
  have hc1 := (h0.b.cell (p := ⟨5, 15, none⟩) (cell_lt hc)).trans hc
  go_wp2_with fail
  refine (tzu_any _ hc1).mono ?_
  rintro e w' ⟨rfl, rfl⟩
  clear hc1
  generalize w.alloc _ = w1 at *
  go_wp2_with fail
  go_loopw [1, 13] (fun u i wr => ∃ (x : Nat) (l : List UInt8) (k : Nat), x < 16 ^ (k + 1) ∧ k + l.length = 7 ∧ u = .int .u64 x ∧ i = .int .i64 ((65 : Int) - l.length) ∧ hexA k x l = hexL n ∧ HB w wr l) (fun u _ _ => (intOf u).toNat)
  case atStart => exact ⟨n, [], 7, by omega, rfl, rfl, rfl, rfl, h0⟩
  case round =>
    clear h0
    obtain ⟨x, l, k, hx, hk, rfl, rfl, he, hb⟩ := hrel
    have heH : Hid (hexA k x l = hexL n) := he
    clear he
    have x32 : x < 4294967296 := Nat.lt_of_lt_of_le hx (by
      have : (16:Nat) ^ (k + 1) ≤ 16 ^ 8 := Nat.pow_le_pow_right (by omega) (by omega)
      omega)
    have hlen : l.length ≤ 7 := by omega
    obtain ⟨z, hz⟩ := hb.c (65 - l.length - 1) (by omega)
    have hfz := hb.f (65 - l.length - 1)
    have hst : ∀ d, Hid (HB w (wr.setCell ⟨w.heap.size, 65 - l.length - 1, none⟩ (.int .u8 (d.toNat : Int))) (d :: l)) := fun d => hb.store (by omega) d
    by_cases h16 : x < 16
    · have hlt : ¬ (16 : Int) ≤ (x : Int) := by omega
      have d0 : (0 : Int) ≤ (x : Int) := by omega
      have d1 : (x : Int) < 36 := by omega
      have dg := dig_at x h16
      have hsl : ∀ W, (Instr.sliceAt 119 (.pointer (some ⟨w.heap.size, 0, none⟩)) (some (.int .i64 ((65 : Int) - l.length - 1))) none none).run Tryd.prog W = .ok (.slice (some ⟨w.heap.size, 65 - l.length - 1, none⟩) (l.length + 1) (l.length + 1)) W := fun W => by
        have hal : Tryd.prog.arrayLen 119 = 65 := by kernel_rfl
        rw [run_sliceAt_array_l W 119 ⟨w.heap.size, 0, none⟩ (by kernel_rfl) .i64 ((65 : Int) - l.length - 1) (by omega) (by rw [hal]; omega)]
        go_simp
        omega
      have hf := (hst (hexD x)).out
      have hcv : (convert 54 9 (.slice (some ⟨w.heap.size, 65 - l.length - 1, none⟩) (l.length + 1) (l.length + 1))).run Tryd.prog (wr.setCell ⟨w.heap.size, 65 - l.length - 1, none⟩ (.int .u8 ((hexD x).toNat : Int))) = .ok (.string ⟨(hexD x :: l).toArray⟩) (wr.setCell ⟨w.heap.size, 65 - l.length - 1, none⟩ (.int .u8 ((hexD x).toNat : Int))) :=
        run_convert_bytes_back (P := Tryd.prog) _ 54 9 5 ⟨w.heap.size, 65 - l.length - 1, none⟩ _ (hexD x :: l) Tryd.underlying54 Tryd.underlying5 Tryd.underlying9 (fun j hj => by
          rw [Lib.add_plain]
          have := hf.l j hj
          rw [show 65 - (hexD x :: l).length + j = 65 - l.length - 1 + j by simp only [List.length_cons]; omega] at this
          exact this)
      have hfin : hexL n = hexD x :: l := by
        rw [← heH.out]
        cases k with
        | zero => rw [hexA, Nat.mod_eq_of_lt h16]
        | succ k => rw [hexA, if_pos h16]
      have hfB := hf.b
      have hfH : Hid (hexL n = hexD x :: l) := hfin
      clear hf hfin
      go_wp2
      go_ret2
      exact ⟨by rw [hfH.out]; rfl, hfB⟩
    · have hge : (16 : Int) ≤ (x : Int) := by omega
      have ha := and15 x x32
      have hd : x % 16 < 16 := Nat.mod_lt _ (by omega)
      have hs : Hid (hexA (k - 1) (x / 16) (hexD (x % 16) :: l) = hexL n) := by
        have := heH.out
        have hk1 : k ≠ 0 := by rintro rfl; omega
        obtain ⟨k', rfl⟩ : ∃ k', k = k' + 1 := ⟨k - 1, by omega⟩
        rw [hexA, if_neg h16] at this
        exact this
      generalize hdd : x % 16 = d at *
      have hdH : Hid (x % 16 = d) := hdd
      clear hdd
      have d0 : (0 : Int) ≤ (d : Int) := by omega
      have d1 : (d : Int) < 36 := by omega
      have dg := dig_at d hd
      go_wp2_with fail
      have hk1 : k ≠ 0 := by rintro rfl; omega
      obtain ⟨k', rfl⟩ : ∃ k', k = k' + 1 := ⟨k - 1, by omega⟩
      refine ⟨⟨x / 16, hexD d :: l, k', ?_, ?_, ?_, ?_, hs.out, (hst _).out⟩, ?_⟩
      · exact Nat.div_lt_of_lt_mul (by rw [Nat.pow_succ, Nat.mul_comm] at hx; exact hx)
      · simp only [List.length_cons]; omega
      · go_num
      · simp only [List.length_cons]; go_num
      · simp only [intOf]; omega
theorem ifmt_any (n : Nat) (hn : n < 4294967296) (w : World) (hc : w.cell? ⟨5, 15, none⟩ = some (.int .u8 4)) :
    Calls Tryd.prog 63 #[.int .i64 n, .int .i64 16] w fun e w' => e = .returned (.string (bs (hexL n))) ∧ Below w.heap.size w w' := by
  have h0 : ¬ (n : Int) < 0 := by omega
  go_enter Tryd.func63, Tryd.ntmps63
  go_wp2_with fail
  refine (fbits_any n hn w hc).mono ?_
  rintro e w' ⟨rfl, hb⟩
  go_wp2
  go_ret
  exact ⟨rfl, hb⟩
theorem fmt_any (n : Nat) (hn : n < 4294967296) (w : World) (hc : w.cell? ⟨5, 15, none⟩ = some (.int .u8 4)) :
    Calls Tryd.prog 47 #[.int .i64 n, .int .i64 16] w fun e w' => e = .returned (.string (bs (hexL n))) ∧ Below w.heap.size w w' := by
  go_enter Tryd.func47, Tryd.ntmps47
  go_wp2_with fail
  refine (ifmt_any n hn w hc).mono ?_
  rintro e w' ⟨rfl, hb⟩
  go_wp2
  go_ret
  exact ⟨rfl, hb⟩
end Go.Proofs.YtibnojbhoepcdaaDoor.S
