/- How tables are written: the program's way and the model's. -/
import Derived.Test.YtflapeligjdlbaaDoorTxt
import Derived.Test.YtflapeligjdlbaaDoorTput
namespace Go.Proofs.YtflapeligjdlbaaDoor
open Go.ChangeShapes Go.WideShapes Go.ChangeAt Go.RowKit
attribute [local go_sem ↓] Go.wp_at_zero Go.wp_at_succ
theorem dec_lit (n : Int) (x : ByteArray) (h0 : 0 ≤ n) (h1 : n ≤ 999) (hx : bs (Lib.itoa n) = x) (w : World) :
    Calls Tryd.prog 28 #[.int .i64 n] w fun e w' => e = .returned (.string x) ∧ Below w.heap.size w w' := by
  have := dec_any (n.toNat + 1) n.toNat (by omega) (by omega) w
  have e1 : ((n.toNat : Nat) : Int) = n := by omega
  rw [e1] at this
  have e2 : Lib.itoa n = Lib.decDigits n.toNat := by unfold Lib.itoa; rw [if_neg (by omega)]
  rw [← hx, e2]
  exact this
theorem sword_any (s : Int) (h1 : 1 ≤ s) (h4 : s ≤ 4) (w : World) :
    Calls Tryd.prog 26 #[.int .i64 s] w fun e w' => e = .returned (.string (bs (wordL s))) ∧ Below w.heap.size w w' := by
  have hs : s = 1 ∨ s = 2 ∨ s = 3 ∨ s = 4 := by omega
  clear h1 h4
  rcases hs with rfl | rfl | rfl | rfl
  all_goals
    go_enter Tryd.func26, Tryd.ntmps26
    go_wp2
    go_ret
    exact ⟨rfl, balloc _ (Below.refl _ _)⟩
theorem sword_lit (s : Int) (x : ByteArray) (h1 : 1 ≤ s) (h4 : s ≤ 4) (hx : bs (wordL s) = x) (w : World) :
    Calls Tryd.prog 26 #[.int .i64 s] w fun e w' => e = .returned (.string x) ∧ Below w.heap.size w w' := hx ▸ sword_any s h1 h4 w
/-- a table's text -/
def ttx (T : List Fc) : List UInt8 := Lib.join (T.map ftx) [44]
theorem ttx_nil : ttx [] = [] := rfl
theorem join_snoc (sep : List UInt8) (x : List UInt8) : ∀ (r : List (List UInt8)), r ≠ [] → Lib.join (r ++ [x]) sep = Lib.join r sep ++ sep ++ x
  | [], h => absurd rfl h
  | y :: r, _ => by
    rw [List.cons_append, Lib.join_cons, Lib.join_cons]
    simp [Lib.joinTail]
theorem ttx_snoc (T : List Fc) (f : Fc) : ttx (T ++ [f]) = ttx T ++ (if T = [] then [] else [44]) ++ ftx f := by
  unfold ttx
  cases T with
  | nil => simp [Lib.join_one, Lib.join_nil]
  | cons g r =>
    rw [List.map_append, show List.map ftx [f] = [ftx f] from rfl, join_snoc _ _ _ (by simp), if_neg (by simp)]
theorem ftx_len {f : Fc} (h : fok f = true) : (ftx f).length ≤ 16 := by
  obtain ⟨n0, n7, i0, i9, _, _⟩ := fok_all h
  have a1 := itoa_len n0 (by omega : f.n ≤ 999)
  have a2 := itoa_len i0 i9
  have a3 := word_len f.s
  simp only [ByteArray.size, List.size_toArray] at a1 a2 a3
  unfold ftx
  simp only [List.length_append, List.length_cons, List.length_nil]
  split <;> simp <;> omega
theorem ttx_len (F : Nat → Fc) : ∀ k, (∀ j, j < k → fok (F j) = true) → (ttx (seqF F k)).length ≤ 17 * k
  | 0, _ => by simp [seqF, ttx_nil]
  | k + 1, h => by
    rw [seqF_succ, ttx_snoc]
    have h1 := ttx_len F k (fun j hj => h j (by omega))
    have h2 := ftx_len (h k (by omega))
    simp only [List.length_append]
    split <;> simp <;> omega
theorem info9 : (Tryd.prog.info? 9).map (fun i => (i.zero, i.size, i.bytes)) = some (some (.string ByteArray.empty), 1, 16) := by kernel_rfl
/-- the texts of facts, in memory -/
def sl (T : List Fc) : List Value := T.map fun f => .string (bs (ftx f))
/-- what TableText writes -/
def txt (len : Nat) (F : Nat → Fc) : ByteArray := if tokB len F = true then (if len = 0 then bs [45] else bs (ttx (seqF F len))) else bs []
theorem tok_litt (a : Option Addr) (len cap : Nat) (F : Nat → Fc) (q : Bool) (w : World) (h : FSl w a len F) (hl : len ≤ 1048576) (hq : tokB len F = q) :
    Calls Tryd.prog 13 #[.slice a len cap] w fun e w' => e = .returned (.bool q) ∧ Below w.heap.size w w' := hq ▸ tok_any a len cap F w h hl
theorem stok_litt (a : Option Addr) (len cap : Nat) (F : Nat → Fc) (q : Bool) (w : World) (h : FSl w a len F) (hl : len ≤ 1048576) (hq : tokB len F = q) :
    Calls Tryd.prog 17 #[.slice a len cap] w fun e w' => e = .returned (.bool q) ∧ Below w.heap.size w w' := hq ▸ stok_any a len cap F w h hl
theorem own_str {w : World} {base n : Nat} {v : Value} {xs : List Value} (h : w.ownsRow base 9 1 v n xs) : (v = .slice none 0 0 ∧ n = 0) ∨ ∃ g cap, v = .slice (some ⟨g, 0, none⟩) n cap ∧ base ≤ g ∧ g < w.heap.size ∧ n ≤ cap := by
  rcases h.2 with ⟨rfl, rfl⟩ | ⟨g, cap, cur, rfl, hg, hh, hc, _⟩
  · exact .inl ⟨rfl, rfl⟩
  · exact .inr ⟨g, cap, rfl, hg, (Array.getElem?_eq_some_iff.1 hh).1, hc⟩
end Go.Proofs.YtflapeligjdlbaaDoor
