/- How tables are written: the program's way and the model's. -/
import Derived.Test.YtibnojbhoepcdaaDoorTxt
import Derived.Test.YtibnojbhoepcdaaDoorTput
namespace Go.Proofs.YtibnojbhoepcdaaDoor
open Go.ChangeShapes Go.WideShapes Go.ChangeAt Go.RowKit
attribute [local go_sem ↓] Go.wp_at_zero Go.wp_at_succ
theorem dec_lit (n : Int) (x : ByteArray) (h0 : 0 ≤ n) (h1 : n ≤ 999) (hx : bs (Lib.itoa n) = x) (w : World) :
    Calls Tryd.prog 31 #[.int .i64 n] w fun e w' => e = .returned (.string x) ∧ Below w.heap.size w w' := by
  have := dec_any (n.toNat + 1) n.toNat (by omega) (by omega) w
  have e1 : ((n.toNat : Nat) : Int) = n := by omega
  rw [e1] at this
  have e2 : Lib.itoa n = Lib.decDigits n.toNat := by unfold Lib.itoa; rw [if_neg (by omega)]
  rw [← hx, e2]
  exact this
theorem sword_any (s : Int) (h1 : 1 ≤ s) (h4 : s ≤ 4) (w : World) :
    Calls Tryd.prog 67 #[.int .i64 s] w fun e w' => e = .returned (.string (bs (wordL s))) ∧ Below w.heap.size w w' := by
  have hs : s = 1 ∨ s = 2 ∨ s = 3 ∨ s = 4 := by omega
  clear h1 h4
  rcases hs with rfl | rfl | rfl | rfl
  all_goals
    go_enter Tryd.func67, Tryd.ntmps67
    go_wp2
    go_ret
    exact ⟨rfl, balloc _ (Below.refl _ _)⟩
theorem sword_lit (s : Int) (x : ByteArray) (h1 : 1 ≤ s) (h4 : s ≤ 4) (hx : bs (wordL s) = x) (w : World) :
    Calls Tryd.prog 67 #[.int .i64 s] w fun e w' => e = .returned (.string x) ∧ Below w.heap.size w w' := hx ▸ sword_any s h1 h4 w
/-- a table's text -/
def ttx (T : List Fc) : List UInt8 := Lib.join (T.map ftx) [44]
theorem ttx_nil : ttx [] = [] := rfl
theorem join_snoc (sep : List UInt8) (x : List UInt8) : ∀ (r : List (List UInt8)), r ≠ [] → Lib.join (r ++ [x]) sep = Lib.join r sep ++ sep ++ x
  | [], h => absurd rfl h
  | y :: r, _ => by
    rw [List.cons_append, Lib.join_cons, Lib.join_cons]
    simp [Lib.joinTail]
theorem ttx_snoc (T : List Fc) (f : Fc) : ttx (T ++ [f]) = ttx T ++ (if T = [] then [] else [44]) ++ ftx f := by
  unfold ttx
  cases T with
  | nil => simp [Lib.join_one, Lib.join_nil]
  | cons g r =>
    rw [List.map_append, show List.map ftx [f] = [ftx f] from rfl, join_snoc _ _ _ (by simp), if_neg (by simp)]
theorem ftx_len {f : Fc} (h : fok f = true) : (ftx f).length ≤ 16 := by
  obtain ⟨n0, n7, i0, i9, _, _⟩ := fok_all h
  have a1 := itoa_len n0 (by omega : f.n ≤ 999)
  have a2 := itoa_len i0 i9
  have a3 := word_len f.s
  simp only [ByteArray.size, List.size_toArray] at a1 a2 a3
  unfold ftx
  simp only [List.length_append, List.length_cons, List.length_nil]
  split <;> simp <;> omega
theorem ttx_len (F : Nat → Fc) : ∀ k, (∀ j, j < k → fok (F j) = true) → (ttx (seqF F k)).length ≤ 17 * k
  | 0, _ => by simp [seqF, ttx_nil]
  | k + 1, h => by
    rw [seqF_succ, ttx_snoc]
    have h1 := ttx_len F k (fun j hj => h j (by omega))
    have h2 := ftx_len (h k (by omega))
    simp only [List.length_append]
    split <;> simp <;> omega
theorem info9 : (Tryd.prog.info? 9).map (fun i => (i.zero, i.size, i.bytes)) = some (some (.string ByteArray.empty), 1, 16) := by kernel_rfl
/-- the texts of facts, in memory -/
def sl (T : List Fc) : List Value := T.map fun f => .string (bs (ftx f))
/-- what TableText writes -/
def txt (len : Nat) (F : Nat → Fc) : ByteArray := if tokB len F = true then (if len = 0 then bs [45] else bs (ttx (seqF F len))) else bs []
theorem ftext_lit (f : Fc) (x : ByteArray) (hf : fok f = true) (hx : bs (ftx f) = x) (w : World) (ht : Tabs w) :
    Calls Tryd.prog 46 #[.agg #[.int .i64 f.n, .int .i64 f.i, .int .i64 f.s, .bool f.g]] w fun e w' => e = .returned (.string x) ∧ Below w.heap.size w w' := hx ▸ ftext_any f hf w ht
theorem tok_litt (a : Option Addr) (len cap : Nat) (F : Nat → Fc) (q : Bool) (w : World) (h : FSl w a len F) (hl : len ≤ 1048576) (hq : tokB len F = q) :
    Calls Tryd.prog 39 #[.slice a len cap] w fun e w' => e = .returned (.bool q) ∧ Below w.heap.size w w' := hq ▸ tok_any a len cap F w h hl
theorem stok_litt (a : Option Addr) (len cap : Nat) (F : Nat → Fc) (q : Bool) (w : World) (h : FSl w a len F) (hl : len ≤ 1048576) (hq : tokB len F = q) :
    Calls Tryd.prog 28 #[.slice a len cap] w fun e w' => e = .returned (.bool q) ∧ Below w.heap.size w w' := hq ▸ stok_any a len cap F w h hl
theorem own_str {w : World} {base n : Nat} {v : Value} {xs : List Value} (h : w.ownsRow base 9 1 v n xs) : (v = .slice none 0 0 ∧ n = 0) ∨ ∃ g cap, v = .slice (some ⟨g, 0, none⟩) n cap ∧ base ≤ g ∧ g < w.heap.size ∧ n ≤ cap := by
  rcases h.2 with ⟨rfl, rfl⟩ | ⟨g, cap, cur, rfl, hg, hh, hc, _⟩
  · exact .inl ⟨rfl, rfl⟩
  · exact .inr ⟨g, cap, rfl, hg, (Array.getElem?_eq_some_iff.1 hh).1, hc⟩
set_option maxRecDepth 20000 in
set_option maxHeartbeats 4000000 in
theorem text_any (a : Option Addr) (len cap : Nat) (F : Nat → Fc) (w : World) (h : FSl w a len F) (hl : len ≤ 1048576) (ht : Tabs w) :
    Calls Tryd.prog 21 #[.slice a len cap] w fun e w' => e = .returned (.string (txt len F)) ∧ Below w.heap.size w w' := by
  cases hok0 : tokB len F
  · have hok : Hid (tokB len F = false) := hok0
    have e1 : txt len F = bs [] := by unfold txt; rw [hok0]; rfl
    rw [e1]
    clear hok0 e1
    go_enter Tryd.func21, Tryd.ntmps21
    go_wp2_with fail
    refine (tok_litt a len cap F false _ h hl hok.out).mono ?_
    rintro r w1 ⟨rfl, b1⟩
    go_wp2
    go_ret
    exact ⟨rfl, b1⟩
  · have hok : Hid (tokB len F = true) := hok0
    by_cases h0 : len = 0
    · have e1 : txt len F = bs [45] := by unfold txt; rw [hok0, if_pos rfl, if_pos h0]
      rw [e1]
      subst h0
      clear hok0 e1
      go_enter Tryd.func21, Tryd.ntmps21
      go_wp2_with fail
      refine (tok_litt a 0 cap F true _ h hl hok.out).mono ?_
      rintro r w1 ⟨rfl, b1⟩
      go_wp2
      go_ret
      exact ⟨rfl, b1⟩
    · have e1 : txt len F = bs (ttx (seqF F len)) := by unfold txt; rw [hok0, if_pos rfl, if_neg h0]
      obtain ⟨t1, _⟩ := tok_all hok0
      have hm8 := tok_len hok0
      have hj : ¬ (len : Int) = 0 := by omega
      have hjb : ((len : Int) == 0) = false := by simpa using hj
      have hlen := ttx_len F len t1
      rw [e1]
      clear hok0 e1
      obtain ⟨ti, hi, hz0, hz1, hz2⟩ := info_parts info9
      go_enter Tryd.func21, Tryd.ntmps21
      go_wp2_with fail
      refine (tok_litt a len cap F true _ h hl hok.out).mono ?_
      rintro r w1 ⟨rfl, B1⟩
      go_wp2_with fail
      go_loopw [3, 14] (fun v i wr => ∃ k : Nat, i = .int .i64 k ∧ k ≤ len ∧ wr.ownsRow w.heap.size 9 1 v k (sl (seqF F k)) ∧ Below w.heap.size w wr) (fun _ i _ => len - (intOf i).toNat)
      case atStart => exact ⟨0, rfl, Nat.zero_le _, World.ownsRow_nil _ _ _ _, B1⟩
      case round =>
        obtain ⟨k, rfl, hk, hown, hb⟩ := hrel
        by_cases hlt : k < len
        · have i0 : (0 : Int) ≤ (k : Int) := by omega
          have i1 : (k : Int) < (len : Int) := by omega
          obtain ⟨b, off, rfl, hbl, hfi⟩ := h (by omega)
          obtain ⟨c0, c1, c2, c3⟩ := (hfi.below hb hbl) k hlt
          have hfk := t1 k hlt
          have hs : Hid (sl (seqF F (k + 1)) = sl (seqF F k) ++ [.string (bs (ftx (F k)))]) := by unfold Hid sl; rw [seqF_succ, List.map_append]; rfl
          generalize F k = f at *
          obtain ⟨x, hx⟩ : ∃ x, Hid (bs (ftx f) = x) := ⟨_, rfl⟩
          rw [hx.out] at hs
          have b2 : Below wr.heap.size wr (wr.alloc (.cells #[.int .i64 f.n, .int .i64 f.i, .int .i64 f.s, .bool f.g] 53)) := balloc _ (Below.refl _ _)
          go_wp2_with fail
          have B2 := btrans hb b2
          have O2 := own_below hown b2
          clear c0 c1 c2 c3 b2 hown hb
          generalize (wr.alloc (.cells #[.int .i64 f.n, .int .i64 f.i, .int .i64 f.s, .bool f.g] 53)) = w2 at *
          refine (ftext_lit f x hfk hx.out _ (ht.below B2)).mono ?_
          rintro r w3 ⟨rfl, b3⟩
          have B3 := btrans B2 b3
          have O3 := own_below O2 b3
          clear b3 B2 O2
          go_wp2_with (at_builtin; refine wpList_append_own _ rfl _ _ 45 rfl w.heap.size 9 ti (.string ByteArray.empty) 1 16 Tryd.underlying45 hi hz0 hz1 hz2 rfl (by decide) _ _ _ rfl (O3.alloc _) ⟨w3.heap.size, 0, none⟩ 1 1 [.string x] rfl rfl ?c1 ?c2 ?c3 ?c4 ?c5 ?_)
          case c1 =>
            intro j u hj
            match j, hj with
            | 0, hj => simp at hj; subst hj; simp [Addr.add]
          case c2 => intro u hu; simp at hu; subst hu; rfl
          case c3 => unfold maxLen; omega
          case c4 => omega
          case c5 => have := B3.size; simp; omega
          · intro v' w4 hown' hgrow _
            have B4 := own_grow (balloc (.cells #[.string x] 9) B3) (by have := B3.size; simp; omega) (O3.alloc _) hgrow
            clear O3 hgrow B3
            go_wp2
            go_roundw
            case rel => exact ⟨k + 1, by go_num, by omega, by rw [hs.out]; exact hown', B4⟩
            case measure => simp [intOf]; omega
        · obtain rfl : k = len := by omega
          rcases own_str hown with ⟨_, e0⟩ | ⟨g, cc, rfl, hg1, hg2, hg3⟩
          · exact absurd e0 h0
          have hJ := Tryd.strings_Join g 0 cc ((seqF F k).map fun f => bs (ftx f)) (bs [44]) wr (fun j x hx => by
            have := hown.cells (g := g) rfl j (.string x) (by
              unfold sl
              simp only [List.getElem?_map, Option.map_eq_some_iff] at hx ⊢
              obtain ⟨f, hf, rfl⟩ := hx
              exact ⟨f, hf, rfl⟩)
            cases j <;> simpa [Addr.add] using this) hg2 (by simp [seqF]; omega) (by simp [seqF]; omega) (by
              have e1 : (((seqF F k).map fun f => bs (ftx f)).map (·.data.toList)) = (seqF F k).map ftx := by simp [List.map_map, Function.comp_def]
              rw [e1]
              have : (ttx (seqF F k)).length ≤ 17 * k := hlen
              unfold ttx at this
              show (Lib.join (List.map ftx (seqF F k)) [44]).length ≤ _
              omega)
          have e1 : (((seqF F k).map fun f => bs (ftx f)).map (·.data.toList)) = (seqF F k).map ftx := by simp [List.map_map, Function.comp_def]
          have e2 : ((seqF F k).map fun f => bs (ftx f)).length = k := by simp [seqF]
          rw [e1, e2] at hJ
          have hJ' : Calls Tryd.prog 17 #[.slice (some ⟨g, 0, none⟩) k cc, .string (bs [44])] wr fun e w' => e = .returned (.string (bs (ttx (seqF F k)))) ∧ Below wr.heap.size wr w' := hJ
          obtain ⟨y, hy⟩ : ∃ y, Hid (bs (ttx (seqF F k)) = y) := ⟨_, rfl⟩
          rw [hy.out] at hJ'
          clear hJ e1 e2 hown
          go_wp2_with fail
          refine hJ'.mono ?_
          rintro r w5 ⟨rfl, b5⟩
          have B5 := btrans hb b5
          clear b5 hJ'
          go_wp2
          go_ret
          exact ⟨by rw [hy.out]; rfl, B5⟩
end Go.Proofs.YtibnojbhoepcdaaDoor
