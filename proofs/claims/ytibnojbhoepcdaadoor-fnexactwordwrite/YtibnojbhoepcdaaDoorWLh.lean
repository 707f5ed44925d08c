/- The sum's text as the model writes it. -/
import Derived.Test.YtibnojbhoepcdaaDoorWSt
import Derived.Test.YtibnojbhoepcdaaDoorPCut
namespace Go.Proofs.YtibnojbhoepcdaaDoor.S
open Go.ChangeShapes Go.WideShapes Go.ChangeAt Go.RowKit
attribute [local go_sem ↓] Go.wp_at_zero Go.wp_at_succ
theorem hexP_head (k : Nat) : ∀ n, hexP (k + 1) n = hexD (n / 16 ^ k % 16) :: hexP k n := by
  induction k with
  | zero => intro n; simp [hexP]
  | succ k ih =>
    intro n
    rw [hexP, ih (n / 16), Nat.div_div_eq_div_mul, ← Nat.pow_succ', hexP.eq_def (k + 1)]
    rfl
def u8s (l : List UInt8) : List Value := l.map fun b => Value.int .u8 (b.toNat : Int)
theorem iand15 (u : Nat) (h : u < 4294967296) : bits BinOp.and IntKind.i64 (u : Int) 15 = ((u % 16 : Nat) : Int) := by
  show IntKind.i64.wrap ((BitVec.ofInt 64 (u : Int) &&& BitVec.ofInt 64 ((15 : Nat) : Int)).toNat : Int) = _
  rw [BitVec.toNat_and, i64_nat u (by omega), i64_nat 15 (by omega), show u &&& 15 = u % 16 from Nat.and_two_pow_sub_one_eq_mod u 4]
  simp [IntKind.wrap, IntKind.bits, IntKind.signed]
  omega
theorem shift_dig (n k : Nat) (h : n < 4294967296) : bits BinOp.and IntKind.i64 ((n : Int) / 2 ^ (4 * k)) 15 = ((n / 16 ^ k % 16 : Nat) : Int) := by
  have e : (n : Int) / 2 ^ (4 * k) = ((n / 16 ^ k : Nat) : Int) := by
    rw [Int.pow_mul]
    simp
  rw [e]
  exact iand15 _ (Nat.lt_of_le_of_lt (Nat.div_le_self _ _) h)
theorem dig16_at (d : Nat) (h : d < 16) (h2 : d < (ByteArray.mk #[48, 49, 50, 51, 52, 53, 54, 55, 56, 57, 97, 98, 99, 100, 101, 102]).size) : (ByteArray.mk #[48, 49, 50, 51, 52, 53, 54, 55, 56, 57, 97, 98, 99, 100, 101, 102])[d] = hexD d := by
  have : ∀ e : Fin 16, (ByteArray.mk #[48, 49, 50, 51, 52, 53, 54, 55, 56, 57, 97, 98, 99, 100, 101, 102])[e.val]'e.isLt = hexD e.val := by decide +kernel
  exact this ⟨d, h⟩
theorem own_bytes_back {w : World} {base : Nat} {v : Value} {l : List UInt8} (h : w.ownsRow base 5 1 v l.length (u8s l)) (hl : 0 + l.length = 8) : (convert 54 9 v).run Tryd.prog w = .ok (.string (bs l)) w := by
  have h0 := h
  rcases h.2 with ⟨rfl, hl0⟩ | ⟨g, cap, cur, rfl, hg, hh, hc, _⟩
  · omega
  · refine run_convert_bytes_back (P := Tryd.prog) _ 54 9 5 ⟨g, 0, none⟩ cap l Tryd.underlying54 Tryd.underlying5 Tryd.underlying9 (fun j hj => ?_)
    rw [Lib.add_plain, Nat.zero_add]
    refine (h0.cellAt j (by omega)).trans ?_
    simp [u8s, hj]
set_option maxRecDepth 20000 in
set_option maxHeartbeats 4000000 in
theorem l4hex_any (n : Nat) (hn : n < 4294967296) (w : World) :
    Calls Tryd.prog 12 #[.int .i64 n] w fun e w' => e = .returned (.string (bs (hex8 n))) ∧ Below w.heap.size w w' := by
  obtain ⟨ti, hi, hz0, hz1, hz2⟩ := info_parts (show (Tryd.prog.info? 5).map (fun i => (i.zero, i.size, i.bytes)) = some (some (.int .u8 0), 1, 1) by kernel_rfl)
  have hsz : (hexP 8 n).length = 8 := hexP_len 8 n
  obtain ⟨T, hT⟩ : ∃ T, Hid (hex8 n = T) := ⟨_, rfl⟩
  rw [hT.out]
  go_enter Tryd.func12, Tryd.ntmps12
  go_wp2_with fail
  go_loopw [3, 4] (fun v i wr => ∃ (k : Nat) (l : List UInt8), k + l.length = 8 ∧ i = .int .i64 ((k : Int) - 1) ∧ Hid (l ++ hexP k n = T) ∧ wr.ownsRow w.heap.size 5 1 v l.length (u8s l) ∧ Below w.heap.size w wr) (fun _ i _ => (intOf i + 1).toNat)
  case atStart => exact ⟨8, [], rfl, rfl, hT, World.ownsRow_lit w #[] 0 (Nat.le_refl _) (by unfold maxLen; omega) rfl, balloc _ (Below.refl _ _)⟩
  case round =>
    obtain ⟨k, l, hk, rfl, hl, hown, hb⟩ := hrel
    cases k with
    | zero =>
      have h0 : ¬ (0 : Int) ≤ ((0 : Nat) : Int) - 1 := by omega
      have hlT : l = T := by have := hl.out; simpa [hexP] using this
      subst hlT
      have hcv : (convert 54 9 u3).run Tryd.prog wr = .ok (.string (bs l)) wr := own_bytes_back hown hk
      clear hl hT hown
      go_wp2
      go_ret
      exact ⟨rfl, hb⟩
    | succ k =>
      have h0 : (0 : Int) ≤ ((k + 1 : Nat) : Int) - 1 := by omega
      have ha := shift_dig n k hn
      have hd : n / 16 ^ k % 16 < 16 := Nat.mod_lt _ (by omega)
      have hl2 : Hid ((l ++ [hexD (n / 16 ^ k % 16)]) ++ hexP k n = T) := by
        have := hl.out
        rw [hexP_head] at this
        unfold Hid
        rw [List.append_assoc]
        exact this
      generalize n / 16 ^ k % 16 = d at *
      have d0 : (0 : Int) ≤ (d : Int) := by omega
      have d1 : (d : Int) < 16 := by omega
      have dg := dig16_at d hd
      have hu8 : u8s (l ++ [hexD d]) = u8s l ++ [.int .u8 ((hexD d).toNat : Int)] := by simp [u8s]
      have hle : l.length ≤ 8 := by omega
      obtain ⟨xs, hxs⟩ : ∃ xs, Hid (u8s l = xs) := ⟨_, rfl⟩
      have hu8H : Hid (u8s (l ++ [hexD d]) = xs ++ [.int .u8 ((hexD d).toNat : Int)]) := by rw [hxs.out] at hu8; exact hu8
      rw [hxs.out] at hown
      clear hu8 hxs hl
      generalize hxD : hexD d = D at *
      clear hxD
      go_wp2_with (at_builtin; refine wpList_append_own _ rfl _ _ 54 rfl w.heap.size 5 ti (.int .u8 0) 1 1 Tryd.underlying54 hi hz0 hz1 hz2 rfl (by decide) _ _ _ rfl (hown.alloc _) ⟨wr.heap.size, 0, none⟩ 1 1 [.int .u8 (D.toNat : Int)] rfl rfl ?c1 ?c2 ?c3 ?c4 ?c5 ?_)
      case c1 =>
        intro j u hj
        match j, hj with
        | 0, hj => simp at hj; subst hj; simp [Addr.add]
      case c2 => intro u hu; simp at hu; subst hu; rfl
      case c3 => unfold maxLen; omega
      case c4 => omega
      case c5 => have := hb.size; simp; omega
      · intro v' w4 hown' hgrow _
        have B4 := own_grow (balloc (.cells #[.int .u8 (D.toNat : Int)] 5) hb) (by have := hb.size; simp; omega) (hown.alloc _) hgrow
        clear hown hgrow hb
        go_wp2
        go_roundw
        case rel => exact ⟨k, l ++ [D], by simp; omega, by go_num, hl2, by rw [hu8H.out, List.length_append]; exact hown', B4⟩
        case measure => simp [intOf]
end Go.Proofs.YtibnojbhoepcdaaDoor.S
