/- The sum of a text: the way of the program; the exact law of WordSumOf, walked. -/
import Derived.Test.YtibnojbhoepcdaaDoorWTab
namespace Go.Proofs.YtibnojbhoepcdaaDoor.S
open Go.ChangeShapes Go.WideShapes Go.ChangeAt Go.RowKit
theorem tab_at {w : World} {b : Nat} (h : w.rangeAt b 0 tabV.toList) (k : Nat) (hk : k < 256) : w.cell? ⟨b, k, none⟩ = some (.int .u32 ((st8 k : Nat) : Int)) := by
  have := h k (.int .u32 ((st8 k : Nat) : Int)) (by
    have e := tab_eq k hk
    show (tabN.map fun (n : Nat) => Value.int .u32 (n : Int))[k]? = _
    rw [List.getElem?_map, e]; rfl)
  simpa using this
theorem range_below {w w' : World} {b : Nat} {cs : List Value} (h : w.rangeAt b 0 cs) (hb : Below w.heap.size w w') (hl : b < w.heap.size) : w'.rangeAt b 0 cs := fun j v hv => (hb.cell (p := ⟨b, 0 + j, none⟩) hl).trans (h j v hv)
theorem there_new' (w : World) : (w.alloc (.cells zeroV 73)).there w.heap.size 0 tabV.size := by
  have := there_new w
  rwa [Array.length_toList] at this
theorem one_cell : tabV.all (·.oneCell') = true := by kernel_rfl
theorem info35 : (Tryd.prog.info? 73).map (·.size) = some tabV.size := by kernel_rfl
set_option maxRecDepth 10000 in
set_option maxHeartbeats 1000000 in
theorem sum_any (s : ByteArray) (hs : s.size ≤ 1048576) (w : World) :
    Calls Tryd.prog 23 #[.string s] w fun e w' => e = .returned (.int .i64 ((sumN s : Nat) : Int)) ∧ Below w.heap.size w w' := by
  go_enter Tryd.func23, Tryd.ntmps23
  go_wp2_with fail
  refine (tab_any _).mono ?_
  rintro e w1 ⟨rfl, b1⟩
  dsimp only
  rename_i hK
  refine hK _ _ ?_
  refine wpList_plain rfl fun K2 hK2 => wp_run (v := .pointer (some ⟨w1.heap.size, 0, none⟩)) (w' := w1.alloc (.cells zeroV 73)) (by kernel_rfl) (hK2 _ _ ?_)
  refine wpList_store_mid rfl 73 _ _ rfl w1.heap.size 0 tabV rfl rfl (there_new' _) info35 one_cell (wpList_nil ?_)
  have hr : ((w1.alloc (.cells zeroV 73)).setCells w1.heap.size 0 tabV.toList).rangeAt w1.heap.size 0 tabV.toList := World.rangeAt_setCells_same _ _ _ _ (there_new _)
  have hb : Below w.heap.size w ((w1.alloc (.cells zeroV 73)).setCells w1.heap.size 0 tabV.toList) := below_cells _ _ _ _ b1.size (b1.alloc b1.size _)
  generalize ((w1.alloc (.cells zeroV 73)).setCells w1.heap.size 0 tabV.toList) = W at *
  generalize w1.heap.size = T at *
  simp only [Act.put, List.setIfInBounds_toArray, List.set_cons_zero, List.set_cons_succ]
  generalize Value.agg tabV = tv
  clear hK2 K2 b1
  go_wp2_with fail
  go_loop [4, 5, 9] (fun v _ i => ∃ k : Nat, k ≤ s.size ∧ i = .int .i64 k ∧ v = .int .u32 ((crcN (byt s) k : Nat) : Int)) (fun _ _ i => s.size - (intOf i).toNat)
  case atStart => exact ⟨0, by omega, rfl, rfl⟩
  case round =>
    obtain ⟨k, hk, rfl, rfl⟩ := hrel
    have hy := crcN_lt (byt s) (byt_lt s) k
    by_cases hlt : k < s.size
    · have hs1 : Hid (crcN (byt s) (k + 1) = st8 (crcN (byt s) k ^^^ byt s k)) := rfl
      have hc := byt_lt s k
      have hbt := byt_at s k hlt
      generalize crcN (byt s) k = y at *
      generalize byt s k = c at *
      have hL : Hid ((y / 256) ^^^ st8 ((y % 256) ^^^ c) = st8 (y ^^^ c)) := look y c hc
      have x1 : bits .xor .u8 ((y : Int) % 256) (c : Int) = (((y % 256) ^^^ c : Nat) : Int) := by
        have := u8_xor_nat (y % 256) c (by omega) hc
        rw [← this]; congr 1
      have x2 : (y % 256) ^^^ c < 256 := Nat.xor_lt_two_pow (n := 8) (by omega) hc
      have x3 : st8 ((y % 256) ^^^ c) < 4294967296 := stpN_lt 8 _ (by omega)
      have x4 := tab_at hr _ x2
      have x5 : bits .xor .u32 ((y : Int) / 256) ((st8 ((y % 256) ^^^ c) : Nat) : Int) = (((y / 256) ^^^ st8 ((y % 256) ^^^ c) : Nat) : Int) := by
        have := u32_xor_nat (y / 256) (st8 ((y % 256) ^^^ c)) (by omega) x3
        rw [← this]; congr 1
      generalize (y % 256) ^^^ c = d at *
      generalize st8 d = t at *
      clear hr
      go_wp2
      go_round
      case rel => exact ⟨k + 1, by omega, by go_num, by rw [hs1.out, ← hL.out]⟩
      case measure => simp [intOf]; omega
    · have e : k = s.size := by omega
      have h2 := u32_xor_nat (crcN (byt s) k) 4294967295 hy (by omega)
      have h3 := xor_lt (crcN (byt s) k) 4294967295 hy (by omega)
      have e3 : ((4294967295 : Nat) : Int) = 4294967295 := rfl
      have hs1 : Hid (sumN s = crcN (byt s) k ^^^ 4294967295) := by rw [e]; rfl
      rw [e3] at h2
      clear e e3 hr
      generalize crcN (byt s) k = y at *
      generalize y ^^^ 4294967295 = z at *
      go_wp2
      go_ret
      exact ⟨ret_int (by rw [hs1.out]), hb⟩
end Go.Proofs.YtibnojbhoepcdaaDoor.S
