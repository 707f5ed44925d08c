/- Lists of numbers; their order; the middle one, the program's way. -/
import Derived.Test.YtgjnpkfbbgpmaaaShelf
import Derived.Below
import Derived.LoopTactic
import Derived.WalkKit
import Derived.ProofKit
import Derived.WalkLawsBesides
import Derived.Deep.QuietTactic
import Derived.BigQuiet
import Derived.Deep.RegionHeld3
import Derived.Deep.DrawnRows
import Derived.Laws.OwnMore
import Derived.OwnWalk
import Derived.Lib.OwnBridge
import Derived.Sort.OwnSortedInts
namespace Go.Proofs.Ytgjnpkfbbgpmaaa
open Go.ChangeShapes Go.WideShapes Go.ChangeAt Go.RowKit
attribute [local go_sem ↓] Go.wp_at_zero Go.wp_at_succ
theorem ret_int {k : IntKind} {a b : Int} (h : a = b) : Ending.returned (.int k a) = .returned (.int k b) := by rw [h]
theorem ret_bool {a b : Bool} (h : a = b) : Ending.returned (.bool a) = .returned (.bool b) := by rw [h]
theorem balloc {w w' : World} (o : Obj) (h : Below w.heap.size w w') : Below w.heap.size w (w'.alloc o) := h.alloc h.size o
theorem btrans {a W w' : World} (h : Below a.heap.size a W) (k : Below W.heap.size W w') : Below a.heap.size a w' := h.trans (k.mono h.size)
theorem bcell {W w1 : World} (hb : Below W.heap.size W w1) : (∀ b o, b < W.heap.size → w1.cell? ⟨b, o, none⟩ = W.cell? ⟨b, o, none⟩) ∧ (∀ b o, b < W.heap.size → w1.frozen? ⟨b, o, none⟩ = W.frozen? ⟨b, o, none⟩) :=
  ⟨fun b o h => hb.cell (p := ⟨b, o, none⟩) h, fun b o h => hb.frozen (p := ⟨b, o, none⟩) h⟩
theorem keep_alloc {w : World} {b o : Nat} {v : Value} (x : Obj) (h : w.cell? ⟨b, o, none⟩ = some v) : (w.alloc x).cell? ⟨b, o, none⟩ = some v :=
  (World.cell?_of_block (w := w) (Below.heap_alloc w x b (World.block_lt_of_cell? w _ h))).trans h
theorem keep_drew {w : World} {b o : Nat} {v : Value} (h : w.cell? ⟨b, o, none⟩ = some v) : w.drew.cell? ⟨b, o, none⟩ = some v := by simpa using h
theorem keep_below {W w' : World} {b o : Nat} {v : Value} (hb : Below W.heap.size W w') (h : W.cell? ⟨b, o, none⟩ = some v) : w'.cell? ⟨b, o, none⟩ = some v :=
  (hb.cell (p := ⟨b, o, none⟩) (World.block_lt_of_cell? W _ h)).trans h
theorem QB {a w : World} {n : Nat} (h : Below a.heap.size a w) : Below a.heap.size a (w.drewN n) := ⟨h.os, h.tape, h.output, h.size, h.block⟩
/-- numbers lie in block b, from off on -/
def IntsIn (w : World) (b off len : Nat) (f : Nat → Int) : Prop := ∀ k, k < len → w.cell? ⟨b, off + k, none⟩ = some (.int .i64 (f k))
def ISl (w : World) (a : Option Addr) (len : Nat) (f : Nat → Int) : Prop := 0 < len → ∃ b off, a = some ⟨b, off, none⟩ ∧ b < w.heap.size ∧ IntsIn w b off len f
theorem IntsIn.below {B : Nat} {w w' : World} {b off len : Nat} {f : Nat → Int} (h : IntsIn w b off len f) (hb : Below B w w') (hl : b < B) : IntsIn w' b off len f := fun k hk => (hb.cell (p := ⟨b, _, none⟩) hl).trans (h k hk)
theorem ISl.below {w w' : World} {a : Option Addr} {len : Nat} {f : Nat → Int} (h : ISl w a len f) (hb : Below w.heap.size w w') : ISl w' a len f := fun hl => by
  obtain ⟨b, off, e, hlt, hf⟩ := h hl
  exact ⟨b, off, e, by have := hb.size; omega, hf.below hb hlt⟩
/-- a list of numbers, as cells -/
def iv (f : Nat → Int) (n : Nat) : List Value := (List.range n).map fun j => Value.int .i64 (f j)
theorem iv_succ (f : Nat → Int) (n : Nat) : iv f (n + 1) = iv f n ++ [.int .i64 (f n)] := by simp [iv, List.range_succ]
theorem iv_get (f : Nat → Int) (n j : Nat) (h : j < n) : (iv f n)[j]? = some (.int .i64 (f j)) := by simp [iv, h]
theorem own_below {w w' : World} {base size n : Nat} {e : TypeId} {v : Value} {xs : List Value} (h : w.ownsRow base e size v n xs) (hb : Below w.heap.size w w') : w'.ownsRow base e size v n xs := by
  refine ⟨h.1, h.2.imp id ?_⟩
  rintro ⟨g, cap, cur, hv, hg, hh, r⟩
  exact ⟨g, cap, cur, hv, hg, (hb.block g (lt_of_block hh)).trans hh, r⟩
theorem own_ints {w : World} {base n : Nat} {e : TypeId} {v : Value} {f : Nat → Int} (h : w.ownsRow base e 1 v n (iv f n)) : ∃ a cap, v = .slice a n cap ∧ n ≤ cap ∧ ISl w a n f := by
  have h0 := h
  rcases h.2 with ⟨rfl, rfl⟩ | ⟨g, cap, cur, rfl, hg, hh, hc, _⟩
  · exact ⟨none, 0, rfl, Nat.le_refl _, fun h => by omega⟩
  · exact ⟨_, cap, rfl, hc, fun _ => ⟨g, 0, rfl, lt_of_block hh, fun k hk => by rw [Nat.zero_add]; exact (h0.cellAt k (by omega)).trans (iv_get f n k hk)⟩⟩
theorem own_grow {a w w' : World} {v : Value} {B n : Nat} {e : TypeId} {size : Nat} {xs : List Value} (hb : Below B a w) (hB : B ≤ w.heap.size) (ho : w.ownsRow B e size v n xs) (hg : w.grownBy w' v.ownBlock) : Below B a w' :=
  hb.grown hg hB (fun k hk => (ho.lt k hk).1)
theorem info3 : (Try.prog.info? 3).map (fun i => (i.zero, i.size, i.bytes)) = some (some (.int .i64 0), 1, 8) := by kernel_rfl
theorem own_mono {w : World} {base base' size n : Nat} {e : TypeId} {v : Value} {xs : List Value} (hbb : base' ≤ base) (h : w.ownsRow base e size v n xs) : w.ownsRow base' e size v n xs := by
  refine ⟨h.1, h.2.imp id ?_⟩
  rintro ⟨g, cap, cur, hv, hg, r⟩
  exact ⟨g, cap, cur, hv, Nat.le_trans hbb hg, r⟩
/-- numbers as cells -/
def lv (L : List Int) : List Value := L.map (Value.int .i64)
theorem lv_append (L : List Int) (x : Int) : lv (L ++ [x]) = lv L ++ [.int .i64 x] := by simp [lv]
theorem own_list {w : World} {base : Nat} {e : TypeId} {v : Value} {L : List Int} (h : w.ownsRow base e 1 v L.length (lv L)) : ∃ a cap, v = .slice a L.length cap ∧ L.length ≤ cap ∧ ISl w a L.length (fun k => L.getD k 0) := by
  have h0 := h
  rcases h.2 with ⟨rfl, hl⟩ | ⟨g, cap, cur, rfl, hg, hh, hc, _⟩
  · exact ⟨none, 0, by rw [hl], by omega, fun h => by omega⟩
  · refine ⟨_, cap, rfl, hc, fun _ => ⟨g, 0, rfl, lt_of_block hh, fun k hk => ?_⟩⟩
    rw [Nat.zero_add]
    refine (h0.cellAt k (by omega)).trans ?_
    simp [lv, hk]
/-- the first n of those that may be gateways and live, among the first k -/
def lead (x : Int) : List Int → Nat
  | [] => 0
  | s :: S => if s ≤ x then lead x S + 1 else 0
theorem lead_le (x : Int) : ∀ S, lead x S ≤ S.length
  | [] => Nat.le_refl _
  | s :: S => by have := lead_le x S; unfold lead; split <;> simp <;> omega
theorem lead_lo (x : Int) : ∀ (S : List Int) (j : Nat), j < lead x S → S.getD j 0 ≤ x
  | [], j, h => by simp [lead] at h
  | s :: S, j, h => by
    unfold lead at h
    split at h
    · rename_i hs
      cases j with
      | zero => simpa using hs
      | succ j => simpa using lead_lo x S j (by omega)
    · omega
theorem lead_hi (x : Int) : ∀ (S : List Int), lead x S < S.length → x < S.getD (lead x S) 0
  | [], h => by simp [lead] at h
  | s :: S, h => by
    unfold lead at h ⊢
    split
    · rename_i hs
      rw [if_pos hs] at h
      simpa using lead_hi x S (by simpa using h)
    · rename_i hs
      simp; omega
/-- the walk's count is the lead -/
theorem lead_of (x : Int) (S : List Int) (k : Nat) (hk : k ≤ S.length) (h1 : ∀ j, j < k → S.getD j 0 ≤ x) (h2 : k < S.length → x < S.getD k 0) : k = lead x S := by
  rcases Nat.lt_trichotomy k (lead x S) with h | h | h
  · have := lead_lo x S k h
    have := h2 (by have := lead_le x S; omega)
    omega
  · exact h
  · have := h1 _ h
    have := lead_hi x S (by omega)
    omega
def insL (x : Int) (S : List Int) : List Int := S.take (lead x S) ++ x :: S.drop (lead x S)
theorem insL_perm (x : Int) (S : List Int) : (insL x S).Perm (x :: S) := by
  unfold insL
  refine List.perm_middle.trans ?_
  rw [List.take_append_drop]
theorem insL_len (x : Int) (S : List Int) : (insL x S).length = S.length + 1 := by simpa using (insL_perm x S).length_eq
theorem insL_cons (x s : Int) (S : List Int) : insL x (s :: S) = if s ≤ x then s :: insL x S else x :: s :: S := by
  unfold insL
  rw [lead]
  split <;> simp
theorem insL_sorted (x : Int) : ∀ S : List Int, S.Pairwise (· ≤ ·) → (insL x S).Pairwise (· ≤ ·)
  | [], _ => by simp [insL, lead]
  | s :: S, h => by
    rw [insL_cons]
    obtain ⟨h1, h2⟩ := List.pairwise_cons.1 h
    split
    · rename_i hs
      refine List.pairwise_cons.2 ⟨fun y hy => ?_, insL_sorted x S h2⟩
      rcases List.mem_cons.1 ((insL_perm x S).mem_iff.1 hy) with rfl | hy
      · exact hs
      · exact h1 y hy
    · rename_i hs
      refine List.pairwise_cons.2 ⟨fun y hy => ?_, h⟩
      rcases List.mem_cons.1 hy with rfl | hy
      · omega
      · have := h1 y hy; omega
def seqL (f : Nat → Int) (n : Nat) : List Int := (List.range n).map f
def isr (f : Nat → Int) : Nat → List Int
  | 0 => []
  | i + 1 => insL (f i) (isr f i)
theorem isr_len (f : Nat → Int) : ∀ n, (isr f n).length = n
  | 0 => rfl
  | n + 1 => by rw [isr, insL_len, isr_len f n]
theorem isr_perm (f : Nat → Int) : ∀ n, (isr f n).Perm (seqL f n)
  | 0 => List.Perm.refl _
  | n + 1 => by
    rw [isr]
    refine (insL_perm _ _).trans ?_
    have e : seqL f (n + 1) = seqL f n ++ [f n] := by simp [seqL, List.range_succ]
    rw [e]
    exact ((isr_perm f n).cons _).trans (List.perm_append_comm (l₁ := [f n]) (l₂ := seqL f n))
theorem isr_sorted (f : Nat → Int) : ∀ n, (isr f n).Pairwise (· ≤ ·)
  | 0 => List.Pairwise.nil
  | n + 1 => insL_sorted _ _ (isr_sorted f n)
theorem isr_merge (f : Nat → Int) (n : Nat) : (seqL f n).mergeSort (fun x y => decide (x ≤ y)) = isr f n := by
  have h1 := List.pairwise_mergeSort (le := fun x y : Int => decide (x ≤ y)) (by simp; omega) (by simp; omega) (seqL f n)
  refine List.Perm.eq_of_pairwise (le := fun x y : Int => x ≤ y) (fun a b _ _ h h' => by omega) (h1.imp (by simp)) (isr_sorted f n) ?_
  exact (List.mergeSort_perm _ _).trans (isr_perm f n).symm
theorem insL_nil (x : Int) : insL x [] = [x] := rfl
theorem mid3 (F : Nat → Int) : ∃ X, (isr F 3).getD 1 0 = X ∧ (X = F 0 ∨ X = F 1 ∨ X = F 2) ∧ ((X ≤ F 0 ∧ X ≤ F 1) ∨ (X ≤ F 0 ∧ X ≤ F 2) ∨ (X ≤ F 1 ∧ X ≤ F 2)) ∧ ((F 0 ≤ X ∧ F 1 ≤ X) ∨ (F 0 ≤ X ∧ F 2 ≤ X) ∨ (F 1 ≤ X ∧ F 2 ≤ X)) := by
  refine ⟨_, rfl, ?_⟩
  have e : isr F 3 = insL (F 2) (insL (F 1) (insL (F 0) [])) := rfl
  rw [e, insL_nil, insL_cons]
  by_cases h1 : F 0 ≤ F 1
  · rw [if_pos h1, insL_nil, insL_cons]
    by_cases h2 : F 0 ≤ F 2
    · rw [if_pos h2, insL_cons]
      by_cases h3 : F 1 ≤ F 2
      · rw [if_pos h3, insL_nil]; simp; omega
      · rw [if_neg h3]; simp; omega
    · rw [if_neg h2]; simp; omega
  · rw [if_neg h1, insL_cons]
    by_cases h2 : F 1 ≤ F 2
    · rw [if_pos h2, insL_cons]
      by_cases h3 : F 0 ≤ F 2
      · rw [if_pos h3, insL_nil]; simp; omega
      · rw [if_neg h3]; simp; omega
    · rw [if_neg h2]; simp; omega
def cntA (F : Nat → Int) (X : Int) : Nat → Nat
  | 0 => 0
  | j + 1 => cntA F X j + (if X ≤ F j then 1 else 0)
def cntB (F : Nat → Int) (X : Int) : Nat → Nat
  | 0 => 0
  | j + 1 => cntB F X j + (if F j ≤ X then 1 else 0)
def fnd (F : Nat → Int) (X : Int) : Nat → Bool
  | 0 => false
  | j + 1 => fnd F X j || decide (F j = X)
theorem cnt3 (F : Nat → Int) (X : Int) (h : (isr F 3).getD 1 0 = X) : fnd F X 3 = true ∧ 2 ≤ cntA F X 3 ∧ 2 ≤ cntB F X 3 := by
  obtain ⟨Y, hY, h1, h2, h3⟩ := mid3 F
  obtain rfl : Y = X := hY.symm.trans h
  refine ⟨?_, ?_, ?_⟩
  · simp only [fnd, Bool.false_or, Bool.or_eq_true, decide_eq_true_eq]; omega
  · simp only [cntA]; split <;> split <;> split <;> omega
  · simp only [cntB]; split <;> split <;> split <;> omega
def sf (f : Nat → Int) (m : Nat) (j : Nat) : Int := f (m + j)
/-- the middle of the last three -/
def med (len : Nat) (f : Nat → Int) : Int := (isr (sf f (len - 3)) (min len 3)).getD ((min len 3 - 1) / 2) 0
theorem own_at {w : World} {base g cap n : Nat} {L : List Int} (h : w.ownsRow base 3 1 (.slice (some ⟨g, 0, none⟩) n cap) n (L.map (Value.int .i64))) (j : Nat) (hj : j < n) : w.cell? ⟨g, j, none⟩ = some (.int .i64 (L.getD j 0)) := by
  have hl : L.length = n := by simpa using h.1
  rw [h.cellAt j (by omega)]
  simp [List.getD, show j < L.length by omega]
theorem sort_own {w : World} {base g cap n : Nat} {L : List Int} (hown : w.ownsRow base 3 1 (.slice (some ⟨g, 0, none⟩) n cap) n (L.map (Value.int .i64))) (hn : n ≤ 3) :
    Calls Try.prog 10 #[.slice (some ⟨g, 0, none⟩) n cap] w fun e w' => e = .returned (.tuple #[]) ∧ w'.ownsRow base 3 1 (.slice (some ⟨g, 0, none⟩) n cap) n ((L.mergeSort fun x y => decide (x ≤ y)).map (Value.int .i64)) ∧ w.grownBy w' (some g) := by
  obtain ⟨g1, cap1, he, _, hgl, _, _, hlen, hH⟩ := Lib.holds_of_ownsRow hown (by simp)
  cases he
  rcases hown.2 with ⟨h0, _⟩ | ⟨g1, cap1, cur, hv, hbase, hb, h1, h2, h3, h4⟩
  · cases h0
  cases hv
  subst hlen
  refine (Try.slices_Sort_int g 0 cap L w hH hgl (by omega)).mono ?_
  rintro e w' ⟨rfl, nn, os, rfl⟩
  exact ⟨rfl, ownsRow_sortedI (by simp [List.length_mergeSort]) hbase hb h1 h2 h3, grownBy_sortedI _⟩
theorem clone_own (b off n c : Nat) (f : Nat → Int) (w : World) (hn : n ≤ 3) (hc : IntsIn w b off n f) :
    Calls Try.prog 9 #[.slice (some ⟨b, off, none⟩) n c] w fun e w' => ∃ g cap, e = .returned (.slice (some ⟨g, 0, none⟩) n cap) ∧ w'.ownsRow w.heap.size 3 1 (.slice (some ⟨g, 0, none⟩) n cap) n ((seqL f n).map (Value.int .i64)) ∧ Below w.heap.size w w' := by
  have hl : (seqL f n).length = n := by simp [seqL]
  refine (Try.slices_Clone_int b off n c (seqL f n) w (by omega) (by omega) (fun j hj => ?_)).mono ?_
  · rw [hc j (by omega)]
    simp [seqL, List.getD, show j < n by omega]
  · rintro e w' ⟨v, rfl, ho, hv, hb⟩
    rw [List.take_of_length_le (by omega)] at ho
    obtain ⟨g, cap, rfl, _⟩ := Lib.holds_of_ownsRow ho hv
    exact ⟨g, cap, rfl, ho, hb⟩
theorem below_grown {a w w' : World} {b : Nat} (h : Below a.heap.size a w) (g : w.grownBy w' (some b)) (hb : a.heap.size ≤ b) : Below a.heap.size a w' := h.trans ⟨g.os, g.tape, g.output, g.size, fun k hk => g.block k (by have := h.size; omega) (by simp; omega)⟩
theorem own_ge {w : World} {base g cap n : Nat} {e : TypeId} {xs : List Value} (h : w.ownsRow base e 1 (.slice (some ⟨g, 0, none⟩) n cap) n xs) : base ≤ g := (h.lt g rfl).1
set_option maxHeartbeats 1000000 in
theorem fmed_1 (b off cap : Nat) (f : Nat → Int) (w : World) (h : IntsIn w b off 1 f) (hc : 1 ≤ cap) :
    Calls Try.prog 5 #[.slice (some ⟨b, off, none⟩) 1 cap] w fun e w' => e = .returned (.int .i64 (med 1 f)) ∧ Below w.heap.size w w' := by
  have h' : IntsIn w b off 1 (sf f 0) := fun k hk => by have := h (0 + k) (by omega); simp only [sf]; rw [← this]; congr 2; omega
  have hm : Hid (med 1 f = (isr (sf f 0) 1).getD 0 0) := rfl
  clear h
  go_enter Try.func5, Try.ntmps5
  go_wp2_with fail
  refine (clone_own b off 1 cap (sf f 0) _ (by omega) h').mono ?_
  rintro e w1 ⟨g, c1, rfl, o1, b1⟩
  go_wp2_with fail
  refine (sort_own o1 (by omega)).mono ?_
  rintro e w2 ⟨rfl, o2, g2⟩
  have B2 := below_grown b1 g2 (own_ge o1)
  rw [isr_merge] at o2
  have c2 := own_at o2 0 (by omega)
  clear o1 b1 g2 o2 h'
  generalize (isr (sf f 0) 1).getD 0 0 = X at *
  go_wp2
  go_ret
  exact ⟨by rw [hm.out]; rfl, B2⟩
set_option maxHeartbeats 1000000 in
theorem fmed_2 (b off cap : Nat) (f : Nat → Int) (w : World) (h : IntsIn w b off 2 f) (hc : 2 ≤ cap) :
    Calls Try.prog 5 #[.slice (some ⟨b, off, none⟩) 2 cap] w fun e w' => e = .returned (.int .i64 (med 2 f)) ∧ Below w.heap.size w w' := by
  have h' : IntsIn w b off 2 (sf f 0) := fun k hk => by have := h (0 + k) (by omega); simp only [sf]; rw [← this]; congr 2; omega
  have hm : Hid (med 2 f = (isr (sf f 0) 2).getD 0 0) := rfl
  clear h
  go_enter Try.func5, Try.ntmps5
  go_wp2_with fail
  refine (clone_own b off 2 cap (sf f 0) _ (by omega) h').mono ?_
  rintro e w1 ⟨g, c1, rfl, o1, b1⟩
  go_wp2_with fail
  refine (sort_own o1 (by omega)).mono ?_
  rintro e w2 ⟨rfl, o2, g2⟩
  have B2 := below_grown b1 g2 (own_ge o1)
  rw [isr_merge] at o2
  have c2 := own_at o2 0 (by omega)
  clear o1 b1 g2 o2 h'
  generalize (isr (sf f 0) 2).getD 0 0 = X at *
  go_wp2
  go_ret
  exact ⟨by rw [hm.out]; rfl, B2⟩
set_option maxHeartbeats 1000000 in
theorem fmed_3 (m : Nat) (b off cap : Nat) (f : Nat → Int) (w : World) (h : IntsIn w b off (m + 3) f) (hc : (m + 3) ≤ cap) (hl : m + 3 ≤ 1048576) :
    Calls Try.prog 5 #[.slice (some ⟨b, off, none⟩) (m + 3) cap] w fun e w' => e = .returned (.int .i64 (med (m + 3) f)) ∧ Below w.heap.size w w' := by
  have h' : IntsIn w b (off + m) 3 (sf f m) := fun k hk => by have := h (m + k) (by omega); simp only [sf]; rw [← this]; congr 2; omega
  have hm : Hid (med (m + 3) f = (isr (sf f m) 3).getD 1 0) := by unfold Hid med; rw [show m + 3 - 3 = m by omega, show min (m + 3) 3 = 3 by omega]
  clear h
  have i0 : ¬ (cap = m) := by omega
  have i1 : IntKind.i64.wrap (((m + 3 : Nat) : Int) - 3) = (m : Int) := by rw [IntKind.wrap_i64]; omega
  have i2 : (0 : Int) ≤ (m : Int) := by omega
  go_enter Try.func5, Try.ntmps5
  go_wp2_with fail
  refine (clone_own b (off + m) 3 (cap - m) (sf f m) _ (by omega) h').mono ?_
  rintro e w1 ⟨g, c1, rfl, o1, b1⟩
  go_wp2_with fail
  refine (sort_own o1 (by omega)).mono ?_
  rintro e w2 ⟨rfl, o2, g2⟩
  have B2 := below_grown b1 g2 (own_ge o1)
  rw [isr_merge] at o2
  have c2 := own_at o2 1 (by omega)
  clear o1 b1 g2 o2 h'
  generalize (isr (sf f m) 3).getD 1 0 = X at *
  go_wp2
  go_ret
  exact ⟨by rw [hm.out]; rfl, B2⟩
end Go.Proofs.Ytgjnpkfbbgpmaaa
