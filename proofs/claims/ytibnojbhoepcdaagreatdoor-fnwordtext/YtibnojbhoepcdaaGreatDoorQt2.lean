/- Texts of the proof, laid together: Tab, Reg, Sort, Put, Txt, Regof, List, Of, L3, L3b, Tput, Txt2, PStr, PMath. -/
import Derived.Test.YtibnojbhoepcdaaGreatDoorQt1
import Derived.Maps.OwnSet
import Derived.Lib.OwnBridge
import Derived.Sort.OwnSortedInts
import Derived.Sort.LotA
import Derived.Laws.IdiomStrings
import Derived.Lib.Join
import Derived.Laws.AppendOwn
import Derived.Lib.Split
import Derived.Lib.IndexBytes
import Derived.Lib.AtoiAll
import Derived.Lib.ItoaNum
/- Tables as lists: a fact more; what is there of a node. -/
namespace Go.Proofs.YtibnojbhoepcdaaGreatDoor
/-- a fact overrides another one of its node -/
def ovr (f g : Fc) : Bool := l3B f.i f.s f.g g.i g.s g.g
/-- ascending by nodes -/
def Asc (T : List Fc) : Prop := T.Pairwise fun f g => f.n < g.n
def fok (f : Fc) : Bool := fokB f.n f.i f.s
/-- a table with a fact more -/
def tput : List Fc → Fc → List Fc
  | [], f => [f]
  | g :: r, f => if g.n < f.n then g :: tput r f else if g.n = f.n then (if ovr f g then f :: r else g :: r) else f :: g :: r
def tget (T : List Fc) (k : Int) : Option Fc := T.find? fun g => decide (g.n = k)
/-- whether that says anything new -/
def tnew (T : List Fc) (f : Fc) : Bool := match tget T f.n with
  | some g => ovr f g
  | none => true
theorem tget_cons (g : Fc) (r : List Fc) (k : Int) : tget (g :: r) k = if g.n = k then some g else tget r k := by
  unfold tget
  rw [List.find?_cons]
  by_cases h : g.n = k <;> simp [h]
theorem tget_low {r : List Fc} {k : Int} (h : ∀ g ∈ r, k < g.n) : tget r k = none := by
  unfold tget
  rw [List.find?_eq_none]
  intro g hg
  have := h g hg
  simp
  omega
theorem asc_cons {g : Fc} {r : List Fc} : Asc (g :: r) ↔ (∀ x ∈ r, g.n < x.n) ∧ Asc r := List.pairwise_cons
theorem tput_mem {T : List Fc} {f x : Fc} (h : x ∈ tput T f) : x = f ∨ x ∈ T := by
  induction T with
  | nil => simp [tput] at h; exact .inl h
  | cons g r ih =>
    unfold tput at h
    split at h
    · rcases List.mem_cons.1 h with h | h
      · exact .inr (by simp [h])
      · exact (ih h).imp id (fun h => List.mem_cons_of_mem _ h)
    · split at h
      · split at h
        · rcases List.mem_cons.1 h with h | h
          · exact .inl h
          · exact .inr (List.mem_cons_of_mem _ h)
        · exact .inr h
      · rcases List.mem_cons.1 h with h | h
        · exact .inl h
        · exact .inr h
theorem tput_asc {T : List Fc} {f : Fc} (h : Asc T) : Asc (tput T f) := by
  induction T with
  | nil => simp [tput, Asc]
  | cons g r ih =>
    obtain ⟨h1, h2⟩ := asc_cons.1 h
    unfold tput
    split
    · rename_i hlt
      refine asc_cons.2 ⟨fun x hx => ?_, ih h2⟩
      rcases tput_mem hx with rfl | hx
      · exact hlt
      · exact h1 x hx
    · split
      · rename_i heq
        split
        · exact asc_cons.2 ⟨fun x hx => by have := h1 x hx; omega, h2⟩
        · exact h
      · refine asc_cons.2 ⟨fun x hx => ?_, h⟩
        rcases List.mem_cons.1 hx with rfl | hx
        · omega
        · have := h1 x hx; omega
theorem tget_tput {T : List Fc} {f : Fc} (h : Asc T) (k : Int) : tget (tput T f) k = if k = f.n ∧ tnew T f = true then some f else tget T k := by
  induction T with
  | nil =>
    have e0 : tnew [] f = true := rfl
    rw [e0, show tput [] f = [f] from rfl, tget_cons]
    by_cases e : f.n = k
    · rw [if_pos e, if_pos ⟨e.symm, rfl⟩]
    · rw [if_neg e, if_neg (fun h => e h.1.symm)]
  | cons g r ih =>
    obtain ⟨h1, h2⟩ := asc_cons.1 h
    unfold tput
    split
    · rename_i hlt
      have e : tnew (g :: r) f = tnew r f := by
        unfold tnew
        rw [tget_cons, if_neg (by omega)]
      rw [tget_cons, ih h2, e, tget_cons]
      by_cases hk : g.n = k
      · rw [if_pos hk, if_pos hk, if_neg (by omega)]
      · rw [if_neg hk, if_neg hk]
    · rename_i hnl
      split
      · rename_i heq
        have e : tnew (g :: r) f = ovr f g := by
          unfold tnew
          rw [tget_cons, if_pos heq]
        rw [e]
        split
        · rename_i ho
          rw [tget_cons, tget_cons]
          by_cases hk : f.n = k
          · rw [if_pos hk, if_pos ⟨hk.symm, ho⟩]
          · rw [if_neg hk, if_neg (fun h => hk h.1.symm), if_neg (by omega)]
        · rename_i ho
          rw [if_neg (fun h => ho h.2)]
      · rename_i hne
        have e : tnew (g :: r) f = true := by
          unfold tnew
          rw [tget_cons, if_neg hne, tget_low (fun x hx => by have := h1 x hx; omega)]
        rw [e, tget_cons]
        by_cases hk : f.n = k
        · rw [if_pos hk, if_pos ⟨hk.symm, rfl⟩]
        · rw [if_neg hk, if_neg (fun h => hk h.1.symm)]
theorem tput_no {T : List Fc} {f g : Fc} (h : Asc T) (hg : tget T f.n = some g) (ho : ovr f g = false) : tput T f = T := by
  induction T with
  | nil => simp [tget] at hg
  | cons x r ih =>
    obtain ⟨h1, h2⟩ := asc_cons.1 h
    rw [tget_cons] at hg
    unfold tput
    split
    · rename_i hlt
      rw [if_neg (by omega)] at hg
      rw [ih h2 hg]
    · rename_i hnl
      split
      · rename_i heq
        rw [if_pos heq] at hg
        cases hg
        simp [ho]
      · rename_i hne
        rw [if_neg hne] at hg
        have := tget_low (r := r) (k := f.n) (fun y hy => by have := h1 y hy; omega)
        rw [this] at hg
        cases hg
theorem tput_perm {T : List Fc} {f : Fc} (hg : tget T f.n = none) : (tput T f).Perm (T ++ [f]) := by
  induction T with
  | nil => exact List.Perm.refl _
  | cons x r ih =>
    rw [tget_cons] at hg
    by_cases hx : x.n = f.n
    · rw [if_pos hx] at hg; cases hg
    · rw [if_neg hx] at hg
      unfold tput
      split
      · exact (ih hg).cons x
      · have : (f :: (x :: r)).Perm ((x :: r) ++ [f]) := (List.perm_append_comm (l₁ := [f]) (l₂ := x :: r))
        exact this
theorem tput_len {T : List Fc} {f : Fc} (hg : tget T f.n = none) : (tput T f).length = T.length + 1 := by
  have := (tput_perm hg).length_eq
  simpa using this
theorem tput_len_le (T : List Fc) (f : Fc) : (tput T f).length ≤ T.length + 1 := by
  induction T with
  | nil => simp [tput]
  | cons g r ih =>
    unfold tput
    split
    · simp; omega
    · split
      · split <;> simp
      · simp
/-- an ascending list of nodes 0 to 7 is short -/
theorem asc_short : ∀ (T : List Fc) (lo : Nat), Asc T → (∀ f ∈ T, (lo : Int) ≤ f.n ∧ f.n ≤ 7) → T.length + lo ≤ 8 ∨ T = []
  | [], _, _, _ => .inr rfl
  | g :: r, lo, h, hall => by
    obtain ⟨h1, h2⟩ := asc_cons.1 h
    have hg := hall g (by simp)
    rcases asc_short r (lo + 1) h2 (fun f hf => by have := h1 f hf; have := hall f (by simp [hf]); omega) with h | h
    · left; simp; omega
    · left; subst h; simp; omega
end Go.Proofs.YtibnojbhoepcdaaGreatDoor
/- The register: a map of facts behind its order, in memory. -/
namespace Go.Proofs.YtibnojbhoepcdaaGreatDoor
open Go.ChangeShapes Go.WideShapes Go.ChangeAt Go.RowKit
attribute [local go_sem ↓] Go.wp_at_zero Go.wp_at_succ
/-- a fact as a value, and as it reads -/
abbrev fval (f : Fc) : Value := .agg #[.int .i64 f.n, .int .i64 f.i, .int .i64 f.s, .bool f.g]
def fd (f : Fc) : DataW Unit := .agg [.lit (.int .i64 f.n), .lit (.int .i64 f.i), .lit (.int .i64 f.s), .lit (.bool f.g)]
def fE : Value → Option (DataW Unit × List MemPlace)
  | .agg ⟨[.int .i64 a, .int .i64 b, .int .i64 c, .bool g]⟩ => some (fd ⟨a, b, c, g⟩, [])
  | _ => none
/-- the map holds the table -/
def Kept (D : DataW Unit) (T : List Fc) : Prop := ∀ k : Int, Maps.has D (.int .i64 k) = (tget T k).isSome ∧ D.atKey (.int .i64 k) (fd Fc.zero) = fd ((tget T k).getD Fc.zero)
end Go.Proofs.YtibnojbhoepcdaaGreatDoor
/- The library's sort at the register's order. -/
namespace Go.Proofs.YtibnojbhoepcdaaGreatDoor
open Go.ChangeShapes Go.WideShapes Go.ChangeAt Go.RowKit
attribute [local go_sem ↓] Go.wp_at_zero Go.wp_at_succ
open Go.Shelf Go.Lib Go.Sort
end Go.Proofs.YtibnojbhoepcdaaGreatDoor
/- The register takes a fact: the program's way. -/
namespace Go.Proofs.YtibnojbhoepcdaaGreatDoor
open Go.ChangeShapes Go.WideShapes Go.ChangeAt Go.RowKit
attribute [local go_sem ↓] Go.wp_at_zero Go.wp_at_succ
set_option maxRecDepth 20000 in
theorem cell_block {w : World} {b o : Nat} {cs : Array Value} {t : TypeId} {v : Value} (h : w.heap[b]? = some (.cells cs t (0, 0))) (hc : cs[o]? = some v) : w.cell? ⟨b, o, none⟩ = some v := by
  simp [World.cell?, h, hc]
end Go.Proofs.YtibnojbhoepcdaaGreatDoor
/- How facts are written: numbers, words and the texts of facts; the program's way and the model's. -/
namespace Go.Proofs.YtibnojbhoepcdaaGreatDoor
open Go.ChangeShapes Go.WideShapes Go.ChangeAt Go.RowKit
attribute [local go_sem ↓] Go.wp_at_zero Go.wp_at_succ
/-- the two tables that the library reads -/
structure Tabs (w : World) : Prop where
  p : Lib.TabIs Tryz.prog w "internal/strconv.uint64pow10" .u64 Lib.pow10Tab
  s : Lib.TabIs Tryz.prog w "strings.asciiSpace" .u8 Lib.asciiSpaceTab
theorem tabIs_below {n : String} {g : Nat} {k : IntKind} {zs : List Int} {w w' : World} (hg : Tryz.prog.globalNamed n = some g) (h : Lib.TabIs Tryz.prog w n k zs) (hb : Below w.heap.size w w') : Lib.TabIs Tryz.prog w' n k zs := by
  unfold Lib.TabIs World.var? at h ⊢
  rw [hg] at h ⊢
  simp only [Option.bind_some] at h ⊢
  have hlt : g < w.heap.size := by
    rcases Nat.lt_or_ge g w.heap.size with h' | h'
    · exact h'
    · rw [Array.getElem?_eq_none h'] at h
      cases h
  rw [hb.block g hlt]
  exact h
theorem gPow : ∃ g, Tryz.prog.globalNamed "internal/strconv.uint64pow10" = some g := Option.isSome_iff_exists.1 (by kernel_rfl)
theorem gSpace : ∃ g, Tryz.prog.globalNamed "strings.asciiSpace" = some g := Option.isSome_iff_exists.1 (by kernel_rfl)
theorem Tabs.below {w w' : World} (h : Tabs w) (hb : Below w.heap.size w w') : Tabs w' := by
  obtain ⟨g, hg⟩ := gPow
  obtain ⟨g', hg'⟩ := gSpace
  exact ⟨tabIs_below hg h.p hb, tabIs_below hg' h.s hb⟩
theorem qd {a w : World} {B : Nat} (h : Below B a w) : Below B a w.drew := ⟨h.os, h.tape, h.output, h.size, h.block⟩
theorem below_grow {w : World} (k : Nat) (os : Array Obj) : Below w.heap.size w (Go.Sort.grow (w.drewN k) os) :=
  ⟨rfl, rfl, rfl, by simp [Go.Sort.grow], fun i hi => by simp [Go.Sort.grow, Array.getElem?_append, hi]⟩
/-- bytes -/
abbrev bs (l : List UInt8) : ByteArray := ⟨l.toArray⟩
theorem bs_append (a b : List UInt8) : bs a ++ bs b = bs (a ++ b) := by
  apply ByteArray.ext
  simp [ByteArray.data_append]
theorem itoa_any (n : Int) (h0 : 0 ≤ n) (h1 : n ≤ 999) (w : World) (ht : Tabs w) :
    Calls Tryz.prog 49 #[.int .i64 n] w fun e w' => e = .returned (.string (bs (Lib.itoa n))) ∧ Below w.heap.size w w' :=
  (Tryz.strconv_Itoa n (by omega) (by omega) w ht.p).mono (by rintro e w' ⟨rfl, k, os, rfl⟩; exact ⟨rfl, below_grow k os⟩)
def namesL : List UInt8 := [97, 108, 105, 118, 101, 32, 115, 117, 115, 112, 101, 99, 116, 32, 100, 101, 97, 100, 32, 108, 101, 102, 116]
def wa1 : List UInt8 := [97, 108, 105, 118, 101]
def wa2 : List UInt8 := [115, 117, 115, 112, 101, 99, 116]
def wa3 : List UInt8 := [100, 101, 97, 100]
def wa4 : List UInt8 := [108, 101, 102, 116]
theorem names_ascii : ∀ b ∈ namesL, b.toNat < 128 := by decide
theorem fields_names : Lib.fields namesL = [wa1, wa2, wa3, wa4] := by decide
/-- the word for how somebody stands -/
def wordL (s : Int) : List UInt8 := if s = 1 then wa1 else if s = 2 then wa2 else if s = 3 then wa3 else wa4
theorem names_any (w : World) (ht : Tabs w) :
    Calls Tryz.prog 86 #[.string (bs [97, 108, 105, 118, 101, 32, 115, 117, 115, 112, 101, 99, 116, 32, 100, 101, 97, 100, 32, 108, 101, 102, 116])] w fun e w' => e = .returned (.slice (some ⟨w.heap.size, 0, none⟩) 4 4) ∧ w' = w.alloc (.cells #[.string (bs wa1), .string (bs wa2), .string (bs wa3), .string (bs wa4)] 9) := by
  have hf := Tryz.strings_Fields (bs namesL) w (by decide) (fun j b hb => names_ascii b (List.mem_of_getElem? hb)) ht.s
  have e1 : Lib.fields (bs namesL).data.toList = [wa1, wa2, wa3, wa4] := fields_names
  rw [e1] at hf
  go_enter Tryz.func86, Tryz.ntmps86
  go_wp2_with fail
  refine hf.mono ?_
  rintro e w' ⟨rfl, rfl⟩
  go_wp2
  go_ret
  exact ⟨rfl, rfl⟩
theorem of_name (s : Int) (h1 : 1 ≤ s) (h4 : s ≤ 4) (w : World) (ht : Tabs w) :
    Calls Tryz.prog 48 #[.string (bs [97, 108, 105, 118, 101, 32, 115, 117, 115, 112, 101, 99, 116, 32, 100, 101, 97, 100, 32, 108, 101, 102, 116]), .int .i64 s] w fun e w' => e = .returned (.string (bs (wordL s))) ∧ Below w.heap.size w w' := by
  have b1 : Below w.heap.size w (w.alloc (.cells #[.string (bs wa1), .string (bs wa2), .string (bs wa3), .string (bs wa4)] 9)) := balloc _ (Below.refl _ _)
  have p1 : (w.alloc (.cells #[.string (bs wa1), .string (bs wa2), .string (bs wa3), .string (bs wa4)] 9)).heap[w.heap.size]? = some (.cells #[.string (bs wa1), .string (bs wa2), .string (bs wa3), .string (bs wa4)] 9 (0, 0)) := heap_alloc_new _ _
  have c0 := cell_block (o := 0) (v := .string (bs wa1)) p1 rfl
  have c1 := cell_block (o := 1) (v := .string (bs wa2)) p1 rfl
  have c2 := cell_block (o := 2) (v := .string (bs wa3)) p1 rfl
  have c3 := cell_block (o := 3) (v := .string (bs wa4)) p1 rfl
  have hs : s = 1 ∨ s = 2 ∨ s = 3 ∨ s = 4 := by omega
  clear h1 h4
  rcases hs with rfl | rfl | rfl | rfl
  all_goals
    go_enter Tryz.func48, Tryz.ntmps48
    go_wp2_with fail
    refine (names_any w ht).mono ?_
    rintro e w' ⟨rfl, rfl⟩
    go_wp2
    go_ret
    exact ⟨rfl, b1⟩
theorem itoa_lit (n : Int) (x : ByteArray) (h0 : 0 ≤ n) (h1 : n ≤ 999) (hx : bs (Lib.itoa n) = x) (w : World) (ht : Tabs w) :
    Calls Tryz.prog 49 #[.int .i64 n] w fun e w' => e = .returned (.string x) ∧ Below w.heap.size w w' := hx ▸ itoa_any n h0 h1 w ht
theorem ofn_lit (s : Int) (x : ByteArray) (h1 : 1 ≤ s) (h4 : s ≤ 4) (hx : bs (wordL s) = x) (w : World) (ht : Tabs w) :
    Calls Tryz.prog 48 #[.string (bs [97, 108, 105, 118, 101, 32, 115, 117, 115, 112, 101, 99, 116, 32, 100, 101, 97, 100, 32, 108, 101, 102, 116]), .int .i64 s] w fun e w' => e = .returned (.string x) ∧ Below w.heap.size w w' := hx ▸ of_name s h1 h4 w ht
theorem dd_len (n : Nat) (h : n < 1000) : (Lib.decDigits n).length ≤ 3 := by
  rw [Lib.decDigits]
  split
  · simp
  · rw [Lib.decDigits]
    split
    · simp
    · rw [Lib.decDigits, dif_pos (by omega)]
      simp
theorem itoa_len {n : Int} (h0 : 0 ≤ n) (h1 : n ≤ 999) : (bs (Lib.itoa n)).size ≤ 3 := by
  unfold Lib.itoa
  rw [if_neg (by omega)]
  simpa [ByteArray.size] using dd_len n.toNat (by omega)
theorem word_len (s : Int) : (bs (wordL s)).size ≤ 7 := by
  unfold wordL
  split
  · decide
  · split
    · decide
    · split <;> decide
/-- a fact's text -/
def ftx (f : Fc) : List UInt8 := Lib.itoa f.n ++ [58] ++ Lib.itoa f.i ++ [58] ++ wordL f.s ++ (if f.g = true then [42] else [])
theorem fok_all {f : Fc} (h : fok f = true) : 0 ≤ f.n ∧ f.n ≤ 7 ∧ 0 ≤ f.i ∧ f.i ≤ 999 ∧ 1 ≤ f.s ∧ f.s ≤ 4 := by
  unfold fok fokB inb at h
  simp at h
  omega
theorem ftext_any (f : Fc) (hf : fok f = true) (w : World) (ht : Tabs w) :
    Calls Tryz.prog 37 #[.agg #[.int .i64 f.n, .int .i64 f.i, .int .i64 f.s, .bool f.g]] w fun e w' => e = .returned (.string (bs (ftx f))) ∧ Below w.heap.size w w' := by
  obtain ⟨n0, n7, i0, i9, s1, s4⟩ := fok_all hf
  have b0 : Below w.heap.size w (w.alloc (.cells #[.int .i64 f.n, .int .i64 f.i, .int .i64 f.s, .bool f.g] 53)) := balloc _ (Below.refl _ _)
  have p0 : (w.alloc (.cells #[.int .i64 f.n, .int .i64 f.i, .int .i64 f.s, .bool f.g] 53)).heap[w.heap.size]? = some (.cells #[.int .i64 f.n, .int .i64 f.i, .int .i64 f.s, .bool f.g] 53 (0, 0)) := heap_alloc_new _ _
  have t0 := ht.below b0
  go_enter Tryz.func37, Tryz.ntmps37
  go_wp2_with fail
  generalize (w.alloc (.cells #[.int .i64 f.n, .int .i64 f.i, .int .i64 f.s, .bool f.g] 53)) = W0 at *
  have c0 := cell_block (o := 0) (v := .int .i64 f.n) p0 rfl
  have c1 := cell_block (o := 1) (v := .int .i64 f.i) p0 rfl
  have c2 := cell_block (o := 2) (v := .int .i64 f.s) p0 rfl
  have c3 := cell_block (o := 3) (v := .bool f.g) p0 rfl
  obtain ⟨x1, hx1⟩ : ∃ x, Hid (bs (Lib.itoa f.n) = x) := ⟨_, rfl⟩
  obtain ⟨x2, hx2⟩ : ∃ x, Hid (bs (Lib.itoa f.i) = x) := ⟨_, rfl⟩
  obtain ⟨x3, hx3⟩ : ∃ x, Hid (bs (wordL f.s) = x) := ⟨_, rfl⟩
  have z1 := itoa_len n0 (by omega : f.n ≤ 999)
  have z2 := itoa_len i0 i9
  have z3 := word_len f.s
  rw [hx1.out] at z1
  rw [hx2.out] at z2
  rw [hx3.out] at z3
  have k1 : ¬ 9223372036854775807 < x1.size + 1 := by omega
  have k2 : ¬ 9223372036854775807 < x1.size + 1 + x2.size := by omega
  have k3 : ¬ 9223372036854775807 < x1.size + 1 + x2.size + 1 := by omega
  have k4 : ¬ 9223372036854775807 < x1.size + 1 + x2.size + 1 + x3.size := by omega
  have k5 : ¬ 9223372036854775807 < x1.size + 1 + x2.size + 1 + x3.size + 1 := by omega
  have tD : Tabs W0.drew := t0.below (qd (Below.refl _ _))
  have b0d := qd b0
  obtain ⟨b0, hb0⟩ : ∃ b, w.heap.size = b := ⟨_, rfl⟩
  rw [hb0] at c0 c1 c2 c3 ⊢
  clear p0 t0
  refine wp_region_held_drew (S := fun w' => w'.cell? ⟨b0, 0, none⟩ = some (.int .i64 f.n) ∧ w'.cell? ⟨b0, 1, none⟩ = some (.int .i64 f.i) ∧ w'.cell? ⟨b0, 2, none⟩ = some (.int .i64 f.s) ∧ w'.cell? ⟨b0, 3, none⟩ = some (.bool f.g)) (by kernel_rfl) ?_ (fun hHeld => ?_)
  · (try dsimp only); (refine ⟨?_, ?_, ?_, ?_⟩ <;> (repeat (first | with_reducible assumption | with_reducible refine keep_drew ?_ | with_reducible refine keep_below (by assumption) ?_)))
  refine tl (i := 0) (oi := { dst := some 4, op := .fieldAddr 53 (.tmp 1) 0, type := 0, pos := "l3_fact.go:139", after := #[], guard := none }) ?_
  (try simp only [pq])
  refine tl (i := 1) (oi := { dst := some 5, op := .load 3 (.tmp 4), type := 3, pos := "l3_fact.go:139", after := #[{ on := 0, ground := .data }], guard := none }) ?_
  (try simp only [pq])
  refine tl (i := 4) (oi := { dst := some 8, op := .fieldAddr 53 (.tmp 1) 1, type := 0, pos := "l3_fact.go:139", after := #[], guard := none }) ?_
  (try simp only [pq])
  refine tl (i := 5) (oi := { dst := some 9, op := .load 3 (.tmp 8), type := 3, pos := "l3_fact.go:139", after := #[{ on := 4, ground := .data }], guard := none }) ?_
  (try simp only [pq])
  refine tl (i := 9) (oi := { dst := some 13, op := .fieldAddr 53 (.tmp 1) 2, type := 0, pos := "l3_fact.go:139", after := #[], guard := none }) ?_
  (try simp only [pq])
  refine tl (i := 10) (oi := { dst := some 14, op := .load 3 (.tmp 13), type := 3, pos := "l3_fact.go:139", after := #[{ on := 9, ground := .data }], guard := none }) ?_
  (try simp only [pq])
  refine wpAnyH_ready (rs := [2]) (by kernel_rfl) (by simp) ?_
  refine AllReadyH.cons (o := { dst := some 6, op := .call { callee := .value (.func 49), args := #[.tmp 5], argTypes := #[3] }, type := 9, pos := "l3_fact.go:139", after := #[{ on := 1, ground := .data }], guard := none }) rfl (fun K hK => ?_) AllReadyH.nil
  go_simp
  refine (itoa_lit f.n _ n0 (by omega) hx1.out _ tD).mono ?_; rintro e w1 ⟨rfl, b1⟩; have t1 := tD.below b1
  go_wp2_with fail
  refine hK.out _ _ ?_ (fun hHeld => ?_)
  · (try dsimp only); (refine ⟨?_, ?_, ?_, ?_⟩ <;> (repeat (first | with_reducible assumption | with_reducible refine keep_drew ?_ | with_reducible refine keep_below (by assumption) ?_)))
  clear hK K
  (try simp only [pq])
  refine tl (i := 3) (oi := { dst := some 7, op := .binOp .add 9 (.tmp 6) (.const (.string { data := #[58] })) 9, type := 9, pos := "l3_fact.go:139", after := #[{ on := 2, ground := .data }], guard := none }) ?_
  (try simp only [pq])
  refine wpAnyH_ready (rs := [6]) (by kernel_rfl) (by simp) ?_
  refine AllReadyH.cons (o := { dst := some 10, op := .call { callee := .value (.func 49), args := #[.tmp 9], argTypes := #[3] }, type := 9, pos := "l3_fact.go:139", after := #[{ on := 5, ground := .data }, { on := 2, ground := .chain }], guard := none }) rfl (fun K hK => ?_) AllReadyH.nil
  go_simp
  refine (itoa_lit f.i _ i0 i9 hx2.out _ t1).mono ?_; rintro e w2 ⟨rfl, b2⟩; have t2 := t1.below b2
  go_wp2_with fail
  refine hK.out _ _ ?_ (fun hHeld => ?_)
  · (try dsimp only); (refine ⟨?_, ?_, ?_, ?_⟩ <;> (repeat (first | with_reducible assumption | with_reducible refine keep_drew ?_ | with_reducible refine keep_below (by assumption) ?_)))
  clear hK K
  (try simp only [pq])
  refine tl (i := 7) (oi := { dst := some 11, op := .binOp .add 9 (.tmp 7) (.tmp 10) 9, type := 9, pos := "l3_fact.go:139", after := #[{ on := 3, ground := .data }, { on := 6, ground := .data }], guard := none }) ?_
  (try simp only [pq])
  refine tl (i := 8) (oi := { dst := some 12, op := .binOp .add 9 (.tmp 11) (.const (.string { data := #[58] })) 9, type := 9, pos := "l3_fact.go:139", after := #[{ on := 7, ground := .data }], guard := none }) ?_
  (try simp only [pq])
  refine wpAnyH_ready (rs := [11]) (by kernel_rfl) (by simp) ?_
  refine AllReadyH.cons (o := { dst := some 15, op := .call { callee := .value (.func 48), args := #[.const (.string { data := #[97, 108, 105, 118, 101, 32, 115, 117, 115, 112, 101, 99, 116, 32, 100, 101, 97, 100, 32, 108, 101, 102, 116] }), .tmp 14], argTypes := #[66, 3] }, type := 9, pos := "l3_fact.go:139", after := #[{ on := 10, ground := .data }, { on := 6, ground := .chain }], guard := none }) rfl (fun K hK => ?_) AllReadyH.nil
  go_simp
  refine (ofn_lit f.s _ s1 s4 hx3.out _ t2).mono ?_; rintro e w3 ⟨rfl, b3⟩
  go_wp2_with fail
  refine hK.out _ _ ?_ (fun hHeld => ?_)
  · (try dsimp only); (refine ⟨?_, ?_, ?_, ?_⟩ <;> (repeat (first | with_reducible assumption | with_reducible refine keep_drew ?_ | with_reducible refine keep_below (by assumption) ?_)))
  clear hK K
  (try simp only [pq])
  refine tl (i := 12) (oi := { dst := some 16, op := .binOp .add 9 (.tmp 12) (.tmp 15) 9, type := 9, pos := "l3_fact.go:139", after := #[{ on := 8, ground := .data }, { on := 11, ground := .data }], guard := none }) ?_
  (try simp only [pq])
  refine tl (i := 13) (oi := { dst := some 3, op := .assign (.tmp 16), type := 9, pos := "l3_fact.go:139", after := #[{ on := 12, ground := .data }, { on := 11, ground := .chain }, { on := 0, ground := .phase }, { on := 1, ground := .phase }, { on := 2, ground := .phase }, { on := 3, ground := .phase }, { on := 4, ground := .phase }, { on := 5, ground := .phase }, { on := 6, ground := .phase }, { on := 7, ground := .phase }, { on := 8, ground := .phase }, { on := 9, ground := .phase }, { on := 10, ground := .phase }, { on := 11, ground := .phase }, { on := 12, ground := .phase }], guard := none }) ?_
  (try simp only [pq])
  refine wpAnyH_done (by kernel_rfl) ?_ _
  have B3 : Below w.heap.size w w3 := btrans (btrans (btrans b0d b1) b2) b3
  have d3 := keep_below b3 (keep_below b2 (keep_below b1 (keep_drew c3)))
  clear hHeld b1 b2 b3 b0d c0 c1 c2 c3 t1 t2 tD
  cases hg : f.g
  · have e1 : bs (ftx f) = x1 ++ bs [58] ++ x2 ++ bs [58] ++ x3 := by
      rw [← hx1.out, ← hx2.out, ← hx3.out, bs_append, bs_append, bs_append, bs_append]
      unfold ftx
      rw [hg]
      simp
    have e2 : Hid _ := e1
    rw [hg] at d3
    clear hx1 hx2 hx3 e1 hg
    go_wp2
    go_ret
    exact ⟨by rw [e2.out]; rfl, B3⟩
  · have e1 : bs (ftx f) = x1 ++ bs [58] ++ x2 ++ bs [58] ++ x3 ++ bs [42] := by
      rw [← hx1.out, ← hx2.out, ← hx3.out, bs_append, bs_append, bs_append, bs_append, bs_append]
      unfold ftx
      rw [hg]
      simp
    have e2 : Hid _ := e1
    rw [hg] at d3
    clear hx1 hx2 hx3 e1 hg
    go_wp2
    go_ret
    exact ⟨by rw [e2.out]; rfl, B3⟩
theorem conv_one (W : World) (b c d : Nat) (y : UInt8) (hd : d < 10) (hy : UInt8.ofNat (48 + d) = y) (hc : W.cell? ⟨b, 0, none⟩ = some (.int .u8 (48 + (d : Int)))) :
    (convert 22 9 (.slice (some ⟨b, 0, none⟩) 1 c)).run Tryz.prog W = .ok (.string (bs [y])) W := by
  subst hy
  refine run_convert_bytes_back W 22 9 5 ⟨b, 0, none⟩ c [UInt8.ofNat (48 + d)] Tryz.underlying22 Tryz.underlying5 Tryz.underlying9 (fun j hj => ?_)
  simp at hj
  subst hj
  have e : ((UInt8.ofNat (48 + d)).toNat : Int) = 48 + (d : Int) := by
    rw [UInt8.toNat_ofNat']
    omega
  simp only [List.getElem_cons_zero, e]
  exact hc
set_option maxRecDepth 20000 in
set_option maxHeartbeats 2000000 in
theorem dec_any : ∀ (m n : Nat), n < m → n < 1000 → ∀ (w : World), Calls Tryz.prog 81 #[.int .i64 (n : Int)] w fun e w' => e = .returned (.string (bs (Lib.decDigits n))) ∧ Below w.heap.size w w'
  | 0, _, h, _, _ => absurd h (by omega)
  | m + 1, n, h, h9, w => by
    have i0 : ¬ (n : Int) < -9223372036854775807 := by omega
    have i1 : ¬ (n : Int) < 0 := by omega
    by_cases hn : n < 10
    · have i2 : (n : Int) < 10 := by omega
      have b1 : Below w.heap.size w (w.alloc (.cells #[.int .u8 (48 + (n : Int))] 5)) := balloc _ (Below.refl _ _)
      have cv := conv_one (w.alloc (.cells #[.int .u8 (48 + (n : Int))] 5)) w.heap.size 1 n _ hn rfl (by simp)
      rw [Lib.decDigits, dif_pos hn]
      go_enter Tryz.func81, Tryz.ntmps81
      go_wp2
      go_ret
      exact ⟨rfl, b1⟩
    · have i2 : ¬ (n : Int) < 10 := by omega
      have ih := dec_any m (n / 10) (by omega) (by omega)
      have hl := dd_len (n / 10) (by omega)
      rw [Lib.decDigits, dif_neg hn]
      obtain ⟨x, hx⟩ : ∃ x, Hid (bs (Lib.decDigits (n / 10)) = x) := ⟨_, rfl⟩
      have z1 : x.size ≤ 3 := by rw [← hx.out]; simpa [ByteArray.size] using hl
      have ih' : Hid (∀ w, Calls Tryz.prog 81 #[.int .i64 ((n / 10 : Nat) : Int)] w fun e w' => e = .returned (.string x) ∧ Below w.heap.size w w') := by rw [hx.out] at ih; exact ih
      obtain ⟨y, hy⟩ : ∃ y, Hid (UInt8.ofNat (48 + n % 10) = y) := ⟨_, rfl⟩
      have e1 : Hid (bs (Lib.decDigits (n / 10) ++ [UInt8.ofNat (48 + n % 10)]) = x ++ bs [y]) := by
        unfold Hid
        rw [← hx.out, ← hy.out, bs_append]
      have q1 : Int.tdiv (n : Int) 10 = ((n / 10 : Nat) : Int) := by rw [Int.tdiv_eq_ediv_of_nonneg (by omega)]; omega
      have q2 : Int.tmod (n : Int) 10 = ((n % 10 : Nat) : Int) := by rw [Int.tmod_eq_emod_of_nonneg (by omega)]; omega
      have hd : n % 10 < 10 := by omega
      have k1 : ¬ 9223372036854775807 < x.size + 1 := by omega
      have r1 : IntKind.i64.wrap ((n / 10 : Nat) : Int) = ((n / 10 : Nat) : Int) := by rw [IntKind.wrap_i64]; omega
      have r2 : IntKind.i64.wrap (48 + ((n % 10 : Nat) : Int)) = 48 + ((n % 10 : Nat) : Int) := by rw [IntKind.wrap_i64]; omega
      have r3 : IntKind.u8.wrap (48 + ((n % 10 : Nat) : Int)) = 48 + ((n % 10 : Nat) : Int) := by rw [IntKind.wrap_u8]; omega
      clear ih hx hl
      generalize n / 10 = u at *
      generalize n % 10 = d at *
      go_enter Tryz.func81, Tryz.ntmps81
      go_wp2_with fail
      refine wp_region_held_drew (S := fun _ => True) (by kernel_rfl) trivial (fun hHeld => ?_)
      refine tl (i := 0) (oi := { dst := some 18, op := .move (.tmp 0), type := 3, pos := "l1_fix.go:20", after := #[], guard := none }) ?_
      (try simp only [pq])
      refine tl (i := 1) (oi := { dst := some 19, op := .binOp .quo 3 (.tmp 18) (.const (.int .i64 10)) 3, type := 3, pos := "l1_fix.go:20", after := #[{ on := 0, ground := .data }], guard := none }) ?_
      (try simp only [pq])
      refine tl (i := 3) (oi := { dst := some 21, op := .move (.tmp 0), type := 3, pos := "l1_fix.go:20", after := #[], guard := none }) ?_
      (try simp only [pq])
      refine tl (i := 4) (oi := { dst := some 22, op := .binOp .rem 3 (.tmp 21) (.const (.int .i64 10)) 3, type := 3, pos := "l1_fix.go:20", after := #[{ on := 3, ground := .data }], guard := none }) ?_
      (try simp only [pq])
      refine tl (i := 5) (oi := { dst := some 23, op := .binOp .add 3 (.const (.int .i64 48)) (.tmp 22) 3, type := 3, pos := "l1_fix.go:20", after := #[{ on := 4, ground := .data }], guard := none }) ?_
      (try simp only [pq])
      refine tl (i := 6) (oi := { dst := some 24, op := .convert 3 5 (.tmp 23), type := 5, pos := "l1_fix.go:20", after := #[{ on := 5, ground := .data }], guard := none }) ?_
      (try simp only [pq])
      refine wpAnyH_ready (rs := [2, 7]) (by kernel_rfl) (by simp) ?_
      refine AllReadyH.cons (o := { dst := some 20, op := .call { callee := .value (.func 81), args := #[.tmp 19], argTypes := #[3] }, type := 9, pos := "l1_fix.go:20", after := #[{ on := 1, ground := .data }], guard := none }) rfl (fun K hK => ?_) (AllReadyH.cons (o := { dst := some 25, op := .buildSlice 22 1 #[(0, .tmp 24)], type := 22, pos := "l1_fix.go:20", after := #[{ on := 6, ground := .data }], guard := none }) rfl (fun K hK => ?_) AllReadyH.nil)
      · go_simp
        refine (ih'.out _).mono ?_
        rintro e w1 ⟨rfl, b1⟩
        go_wp2_with fail
        refine hK.out _ _ trivial (fun hHeld => ?_)
        clear hK K
        (try simp only [pq])
        refine wpAnyH_ready (rs := [7]) (by kernel_rfl) (by simp) ?_
        refine AllReadyH.cons (o := { dst := some 25, op := .buildSlice 22 1 #[(0, .tmp 24)], type := 22, pos := "l1_fix.go:20", after := #[{ on := 6, ground := .data }], guard := none }) rfl (fun K hK => ?_) AllReadyH.nil
        go_simp
        refine hK.out _ _ trivial (fun hHeld => ?_)
        clear hK K
        (try simp only [pq])
        refine wpAnyH_ready (rs := [8]) (by kernel_rfl) (by simp) ?_
        refine AllReadyH.cons (o := { dst := some 26, op := .convert 22 9 (.tmp 25), type := 9, pos := "l1_fix.go:20", after := #[{ on := 7, ground := .data }], guard := none }) rfl (fun K hK => ?_) AllReadyH.nil
        have cv := conv_one (w1.alloc (.cells #[.int .u8 (48 + (d : Int))] 5)) w1.heap.size 1 d y hd hy.out (by simp)
        go_simp
        refine hK.out _ _ trivial (fun hHeld => ?_)
        clear hK K cv
        (try simp only [pq])
        refine tl (i := 9) (oi := { dst := some 27, op := .binOp .add 9 (.tmp 20) (.tmp 26) 9, type := 9, pos := "l1_fix.go:20", after := #[{ on := 2, ground := .data }, { on := 8, ground := .data }], guard := none }) ?_
        (try simp only [pq])
        refine tl (i := 10) (oi := { dst := some 2, op := .assign (.tmp 27), type := 9, pos := "l1_fix.go:20", after := #[{ on := 9, ground := .data }, { on := 2, ground := .chain }, { on := 0, ground := .phase }, { on := 1, ground := .phase }, { on := 2, ground := .phase }, { on := 3, ground := .phase }, { on := 4, ground := .phase }, { on := 5, ground := .phase }, { on := 6, ground := .phase }, { on := 7, ground := .phase }, { on := 8, ground := .phase }, { on := 9, ground := .phase }], guard := none }) ?_
        (try simp only [pq])
        refine wpAnyH_done (by kernel_rfl) ?_ _
        have BB : Below w.heap.size w (w1.alloc (.cells #[.int .u8 (48 + (d : Int))] 5)) := balloc _ (btrans (qd (Below.refl _ _)) b1)
        go_wp2
        go_ret
        exact ⟨by rw [e1.out]; rfl, BB⟩
      · go_simp
        refine hK.out _ _ trivial (fun hHeld => ?_)
        clear hK K
        (try simp only [pq])
        have b0 : Below w.heap.size w (w.alloc (.cells #[.int .u8 (48 + (d : Int))] 5)).drew := qd (balloc _ (Below.refl _ _))
        have c0 : (w.alloc (.cells #[.int .u8 (48 + (d : Int))] 5)).drew.cell? ⟨w.heap.size, 0, none⟩ = some (.int .u8 (48 + (d : Int))) := by simp
        generalize (w.alloc (.cells #[.int .u8 (48 + (d : Int))] 5)).drew = w0 at *
        obtain ⟨bb, hbb⟩ : ∃ bb, w.heap.size = bb := ⟨_, rfl⟩
        rw [hbb] at c0 ⊢
        refine wpAnyH_ready (rs := [2, 8]) (by kernel_rfl) (by simp) ?_
        refine AllReadyH.cons (o := { dst := some 20, op := .call { callee := .value (.func 81), args := #[.tmp 19], argTypes := #[3] }, type := 9, pos := "l1_fix.go:20", after := #[{ on := 1, ground := .data }], guard := none }) rfl (fun K hK => ?_) (AllReadyH.cons (o := { dst := some 26, op := .convert 22 9 (.tmp 25), type := 9, pos := "l1_fix.go:20", after := #[{ on := 7, ground := .data }], guard := none }) rfl (fun K hK => ?_) AllReadyH.nil)
        · go_simp
          refine (ih'.out _).mono ?_
          rintro e w1 ⟨rfl, b1⟩
          go_wp2_with fail
          refine hK.out _ _ trivial (fun hHeld => ?_)
          clear hK K
          (try simp only [pq])
          refine wpAnyH_ready (rs := [8]) (by kernel_rfl) (by simp) ?_
          refine AllReadyH.cons (o := { dst := some 26, op := .convert 22 9 (.tmp 25), type := 9, pos := "l1_fix.go:20", after := #[{ on := 7, ground := .data }], guard := none }) rfl (fun K hK => ?_) AllReadyH.nil
          have cv := conv_one w1 bb 1 d y hd hy.out (keep_below b1 c0)
          go_simp
          refine hK.out _ _ trivial (fun hHeld => ?_)
          clear hK K cv
          (try simp only [pq])
          refine tl (i := 9) (oi := { dst := some 27, op := .binOp .add 9 (.tmp 20) (.tmp 26) 9, type := 9, pos := "l1_fix.go:20", after := #[{ on := 2, ground := .data }, { on := 8, ground := .data }], guard := none }) ?_
          (try simp only [pq])
          refine tl (i := 10) (oi := { dst := some 2, op := .assign (.tmp 27), type := 9, pos := "l1_fix.go:20", after := #[{ on := 9, ground := .data }, { on := 2, ground := .chain }, { on := 0, ground := .phase }, { on := 1, ground := .phase }, { on := 2, ground := .phase }, { on := 3, ground := .phase }, { on := 4, ground := .phase }, { on := 5, ground := .phase }, { on := 6, ground := .phase }, { on := 7, ground := .phase }, { on := 8, ground := .phase }, { on := 9, ground := .phase }], guard := none }) ?_
          (try simp only [pq])
          refine wpAnyH_done (by kernel_rfl) ?_ _
          have BB : Below w.heap.size w w1 := btrans b0 b1
          go_wp2
          go_ret
          exact ⟨by rw [e1.out]; rfl, BB⟩
        · have cv := conv_one w0 bb 1 d y hd hy.out c0
          go_simp
          refine hK.out _ _ trivial (fun hHeld => ?_)
          clear hK K cv
          (try simp only [pq])
          refine wpAnyH_ready (rs := [2]) (by kernel_rfl) (by simp) ?_
          refine AllReadyH.cons (o := { dst := some 20, op := .call { callee := .value (.func 81), args := #[.tmp 19], argTypes := #[3] }, type := 9, pos := "l1_fix.go:20", after := #[{ on := 1, ground := .data }], guard := none }) rfl (fun K hK => ?_) AllReadyH.nil
          go_simp
          refine (ih'.out _).mono ?_
          rintro e w1 ⟨rfl, b1⟩
          go_wp2_with fail
          refine hK.out _ _ trivial (fun hHeld => ?_)
          clear hK K
          (try simp only [pq])
          refine tl (i := 9) (oi := { dst := some 27, op := .binOp .add 9 (.tmp 20) (.tmp 26) 9, type := 9, pos := "l1_fix.go:20", after := #[{ on := 2, ground := .data }, { on := 8, ground := .data }], guard := none }) ?_
          (try simp only [pq])
          refine tl (i := 10) (oi := { dst := some 2, op := .assign (.tmp 27), type := 9, pos := "l1_fix.go:20", after := #[{ on := 9, ground := .data }, { on := 2, ground := .chain }, { on := 0, ground := .phase }, { on := 1, ground := .phase }, { on := 2, ground := .phase }, { on := 3, ground := .phase }, { on := 4, ground := .phase }, { on := 5, ground := .phase }, { on := 6, ground := .phase }, { on := 7, ground := .phase }, { on := 8, ground := .phase }, { on := 9, ground := .phase }], guard := none }) ?_
          (try simp only [pq])
          refine wpAnyH_done (by kernel_rfl) ?_ _
          have BB : Below w.heap.size w w1 := btrans b0 b1
          go_wp2
          go_ret
          exact ⟨by rw [e1.out]; rfl, BB⟩
end Go.Proofs.YtibnojbhoepcdaaGreatDoor
/- Registers of lists, and what they tell: the program's tables. -/
namespace Go.Proofs.YtibnojbhoepcdaaGreatDoor
open Go.ChangeShapes Go.WideShapes Go.ChangeAt Go.RowKit
attribute [local go_sem ↓] Go.wp_at_zero Go.wp_at_succ
/-- a list of facts -/
def seqF (F : Nat → Fc) (n : Nat) : List Fc := (List.range n).map F
set_option maxRecDepth 20000 in
theorem seqF_succ (F : Nat → Fc) (n : Nat) : seqF F (n + 1) = seqF F n ++ [F n] := by simp [seqF, List.range_succ]
set_option maxRecDepth 20000 in
theorem seqF_len (F : Nat → Fc) (n : Nat) : (seqF F n).length = n := by simp [seqF]
set_option maxRecDepth 20000 in
theorem seqF_mem {F : Nat → Fc} {n : Nat} {f : Fc} (h : f ∈ seqF F n) : ∃ k, k < n ∧ F k = f := by
  obtain ⟨k, hk, rfl⟩ := List.mem_map.1 h
  exact ⟨k, by simpa using hk, rfl⟩
set_option maxRecDepth 20000 in
theorem asc_mono {F : Nat → Fc} {len : Nat} (h : ∀ k, k < len → 0 < k → (F (k - 1)).n < (F k).n) : ∀ j k, j < k → k < len → (F j).n < (F k).n
  | j, 0, h1, _ => by omega
  | j, k + 1, h1, h2 => by
    have e := h (k + 1) h2 (by omega)
    simp at e
    rcases Nat.lt_or_ge j k with h3 | h3
    · have := asc_mono h j k h3 (by omega); omega
    · obtain rfl : j = k := by omega
      exact e
set_option maxRecDepth 20000 in
theorem tok_all {len : Nat} {F : Nat → Fc} (h : tokB len F = true) : (∀ k, k < len → fok (F k) = true) ∧ ∀ j k, j < k → k < len → (F j).n < (F k).n := by
  unfold tokB at h
  rw [Bool.and_eq_true] at h
  exact ⟨fun k hk => (of_decide_eq_true h.1) k hk, asc_mono (of_decide_eq_true h.2)⟩
set_option maxRecDepth 20000 in
theorem seqF_asc {F : Nat → Fc} {len : Nat} (h : ∀ j k, j < k → k < len → (F j).n < (F k).n) : ∀ n, n ≤ len → Asc (seqF F n)
  | 0, _ => List.Pairwise.nil
  | n + 1, hn => by
    rw [seqF_succ]
    unfold Asc
    rw [List.pairwise_append]
    refine ⟨seqF_asc h n (by omega), List.pairwise_singleton _ _, fun a ha b hb => ?_⟩
    obtain ⟨k, hk, rfl⟩ := seqF_mem ha
    simp at hb
    subst hb
    exact h k n hk (by omega)
set_option maxRecDepth 20000 in
theorem tok_len {len : Nat} {F : Nat → Fc} (h : tokB len F = true) : len ≤ 8 := by
  obtain ⟨h1, h2⟩ := tok_all h
  rcases asc_short (seqF F len) 0 (seqF_asc h2 len (Nat.le_refl _)) (fun g hg => by obtain ⟨k, hk, rfl⟩ := seqF_mem hg; have := h1 k hk; unfold fok fokB inb at this; simp at this; omega) with h | h
  · rw [seqF_len] at h; omega
  · have := congrArg List.length h; rw [seqF_len] at this; simp at this; omega
/-- the facts as cells -/
def fl (T : List Fc) : List Value := T.flatMap fun f => [.int .i64 f.n, .int .i64 f.i, .int .i64 f.s, .bool f.g]
set_option maxRecDepth 20000 in
theorem fl_len (T : List Fc) : (fl T).length = T.length * 4 := by
  induction T with
  | nil => rfl
  | cons f r ih => simp [fl] at *; omega
set_option maxRecDepth 20000 in
theorem fl_snoc (T : List Fc) (f : Fc) : fl (T ++ [f]) = fl T ++ [.int .i64 f.n, .int .i64 f.i, .int .i64 f.s, .bool f.g] := by simp [fl]
set_option maxRecDepth 20000 in
theorem fl_append (T T' : List Fc) : fl (T ++ T') = fl T ++ fl T' := by simp [fl]
set_option maxRecDepth 20000 in
theorem fl_get (T : List Fc) : ∀ k, k < T.length → (fl T)[k * 4]? = some (.int .i64 (T.getD k Fc.zero).n) ∧ (fl T)[k * 4 + 1]? = some (.int .i64 (T.getD k Fc.zero).i) ∧ (fl T)[k * 4 + 2]? = some (.int .i64 (T.getD k Fc.zero).s) ∧ (fl T)[k * 4 + 3]? = some (.bool (T.getD k Fc.zero).g) := by
  induction T with
  | nil => intro k hk; simp at hk
  | cons f r ih =>
    intro k hk
    have e : fl (f :: r) = [.int .i64 f.n, .int .i64 f.i, .int .i64 f.s, .bool f.g] ++ fl r := by simp [fl]
    rw [e]
    match k, hk with
    | 0, _ => simp
    | k + 1, hk =>
      have := ih k (by simpa using hk)
      rw [show (k + 1) * 4 = k * 4 + 4 by omega]
      simpa [List.getElem?_append] using this
set_option maxRecDepth 20000 in
/-- a list of its own, as the laws read it -/
theorem own_facts {w : World} {base : Nat} {v : Value} {n : Nat} {T : List Fc} (h : w.ownsRow base 53 4 v n (fl T)) : ∃ a cap, v = .slice a n cap ∧ n ≤ cap ∧ T.length = n ∧ FSl w a n (fun k => T.getD k Fc.zero) := by
  have h0 := h
  have hl : T.length = n := by have := h.1; rw [fl_len] at this; omega
  rcases h.2 with ⟨rfl, rfl⟩ | ⟨g, cap, cur, rfl, hg, hh, hc, _⟩
  · exact ⟨none, 0, rfl, Nat.le_refl _, hl, fun h => by omega⟩
  · refine ⟨_, cap, rfl, hc, hl, fun _ => ⟨g, 0, rfl, lt_of_block hh, fun k hk => ?_⟩⟩
    obtain ⟨e0, e1, e2, e3⟩ := fl_get T k (by omega)
    simp only [Nat.zero_add]
    exact ⟨(h0.cellAt _ (by omega)).trans e0, (h0.cellAt _ (by omega)).trans e1, (h0.cellAt _ (by omega)).trans e2, (h0.cellAt _ (by omega)).trans e3⟩
end Go.Proofs.YtibnojbhoepcdaaGreatDoor
/- What a register tells; the program's TableOf, TablePut, TableJoin. -/
namespace Go.Proofs.YtibnojbhoepcdaaGreatDoor
open Go.ChangeShapes Go.WideShapes Go.ChangeAt Go.RowKit
attribute [local go_sem ↓] Go.wp_at_zero Go.wp_at_succ
end Go.Proofs.YtibnojbhoepcdaaGreatDoor
/- What a table says of a node: the program's way and the model's; the exact law. -/
namespace Go.Proofs.YtibnojbhoepcdaaGreatDoor
open Go.ChangeShapes Go.WideShapes Go.ChangeAt Go.RowKit
attribute [local go_sem ↓] Go.wp_at_zero Go.wp_at_succ
/-- what a table says of a node -/
def tof (len : Nat) (F : Nat → Fc) (x : Int) : Option Fc := if tokB len F = true then tget (seqF F len) x else none
set_option maxRecDepth 20000 in
theorem blk_below {w w' : World} {b : Nat} {o : Obj} (hb : Below w.heap.size w w') (h : w.heap[b]? = some o) : w'.heap[b]? = some o := (hb.block b (lt_of_block h)).trans h
set_option maxRecDepth 20000 in
theorem set4 {w w' : World} {x y z e : Value} (h : Below w.heap.size w w') :
    Below w.heap.size w ((((w'.setCell ⟨w.heap.size, 0, none⟩ x).setCell ⟨w.heap.size, 1, none⟩ y).setCell ⟨w.heap.size, 2, none⟩ z).setCell ⟨w.heap.size, 3, none⟩ e) :=
  (((h.setCell (p := ⟨w.heap.size, 0, none⟩) (Nat.le_refl _) x).setCell (p := ⟨w.heap.size, 1, none⟩) (Nat.le_refl _) y).setCell (p := ⟨w.heap.size, 2, none⟩) (Nat.le_refl _) z).setCell (p := ⟨w.heap.size, 3, none⟩) (Nat.le_refl _) e
/-- where the first fact of a node lies -/
def Found (len : Nat) (F : Nat → Fc) (x r : Int) : Prop := (r = -1 ∧ ∀ k, k < len → (F k).n ≠ x) ∨ ∃ k : Nat, k < len ∧ r = k ∧ (F k).n = x ∧ ∀ j, j < k → (F j).n ≠ x
set_option maxRecDepth 20000 in
theorem found_none {len : Nat} {F : Nat → Fc} {x : Int} (h : ∀ k, k < len → (F k).n ≠ x) : tget (seqF F len) x = none := by
  unfold tget
  rw [List.find?_eq_none]
  intro g hg
  obtain ⟨k, hk, rfl⟩ := seqF_mem hg
  simpa using h k hk
set_option maxRecDepth 20000 in
theorem found_some {len k : Nat} {F : Nat → Fc} {x : Int} (hk : k < len) (e : (F k).n = x) (h : ∀ j, j < k → (F j).n ≠ x) : tget (seqF F len) x = some (F k) := by
  induction len with
  | zero => omega
  | succ n ih =>
    rw [seqF_succ]
    unfold tget
    rw [List.find?_append]
    rcases Nat.lt_or_ge k n with h1 | h1
    · have := ih h1
      unfold tget at this
      rw [this]
      rfl
    · obtain rfl : k = n := by omega
      have := found_none h
      unfold tget at this
      rw [this]
      simp [e]
end Go.Proofs.YtibnojbhoepcdaaGreatDoor
/- A fact more, the model's way: one of a node that was not known. -/
namespace Go.Proofs.YtibnojbhoepcdaaGreatDoor
open Go.ChangeShapes Go.WideShapes Go.ChangeAt Go.RowKit
attribute [local go_sem ↓] Go.wp_at_zero Go.wp_at_succ
set_option maxRecDepth 20000 in
theorem facts_cell {w : World} {b off n : Nat} {T : List Fc} (h : FactsIn w b off n (fun k => T.getD k Fc.zero)) (hl : T.length = n) : ∀ j u, (fl T)[j]? = some u → w.cell? ((⟨b, off, none⟩ : Addr).add j) = some u := by
  intro j u hj
  have e : (⟨b, off, none⟩ : Addr).add j = ⟨b, off + j, none⟩ := by unfold Addr.add; split <;> simp_all
  rw [e]
  have hlt : j < n * 4 := by
    have := (List.getElem?_eq_some_iff.1 hj).1
    rw [fl_len] at this
    omega
  obtain ⟨h0, h1, h2, h3⟩ := h (j / 4) (by omega)
  obtain ⟨e0, e1, e2, e3⟩ := fl_get T (j / 4) (by omega)
  have : j % 4 = 0 ∨ j % 4 = 1 ∨ j % 4 = 2 ∨ j % 4 = 3 := by omega
  rcases this with hr | hr | hr | hr
  · rw [show j / 4 * 4 = j by omega] at e0 h0
    rw [e0] at hj
    rw [h0, ← hj]
  · rw [show off + j / 4 * 4 + 1 = off + j by omega] at h1
    rw [show j / 4 * 4 + 1 = j by omega] at e1
    rw [e1] at hj
    rw [h1, ← hj]
  · rw [show off + j / 4 * 4 + 2 = off + j by omega] at h2
    rw [show j / 4 * 4 + 2 = j by omega] at e2
    rw [e2] at hj
    rw [h2, ← hj]
  · rw [show off + j / 4 * 4 + 3 = off + j by omega] at h3
    rw [show j / 4 * 4 + 3 = j by omega] at e3
    rw [e3] at hj
    rw [h3, ← hj]
set_option maxRecDepth 20000 in
theorem fl_one {T : List Fc} : ∀ u ∈ fl T, u.oneCell' = true := by
  intro u hu
  obtain ⟨f, _, hf⟩ := List.mem_flatMap.1 hu
  simp at hf
  rcases hf with rfl | rfl | rfl | rfl <;> rfl
set_option maxRecDepth 20000 in
theorem own_sliceF {w : World} {base n : Nat} {v : Value} {xs : List Value} (h : w.ownsRow base 53 4 v n xs) : (v = .slice none 0 0 ∧ n = 0) ∨ ∃ g cap, v = .slice (some ⟨g, 0, none⟩) n cap ∧ base ≤ g ∧ g < w.heap.size ∧ n ≤ cap := by
  rcases h.2 with ⟨rfl, hn⟩ | ⟨g, cap, cur, rfl, hg, hh, hc, _⟩
  · exact .inl ⟨rfl, hn⟩
  · exact .inr ⟨g, cap, rfl, hg, lt_of_block hh, hc⟩
set_option maxRecDepth 20000 in
theorem step_appF {w : World} {ops : Array Oper} {o : Oper} {a : Act} {K : Act → World → Prop} {Q : Exit → Act → World → Prop} {E : Prop} (hgd : o.guard = none) (s x : Operand)
    (ho : o.op = .call { callee := .builtin .append, args := #[s, x], argTypes := #[24, 24] })
    (base : Nat) (v : Value) (n : Nat) (T : List Fc) (hs : a.eval s = v) (hv : v ≠ .slice none 0 0) (hown : w.ownsRow base 53 4 v n (fl T))
    (ao : Option Addr) (g o' : Nat) (hao : ao = some ⟨g, o', none⟩) (m c : Nat) (T' : List Fc) (hx : a.eval x = .slice ao m c) (hl : T'.length = m)
    (hnews : FactsIn w g o' m (fun k => T'.getD k Fc.zero)) (nm : Nat) (hnm : n + m = nm) (hn : nm ≤ 2000000) (hbase : base ≤ w.heap.size)
    (h : ∀ g' cap' w', w'.ownsRow base 53 4 (.slice (some ⟨g', 0, none⟩) nm cap') nm (fl (T ++ T')) → w.grownBy w' v.ownBlock → nm ≤ cap' → K (a.put o.dst (.slice (some ⟨g', 0, none⟩) nm cap')) w') :
    if Region.wanted o (yielded ops a.tmps) = true then Oper.wp Tryz.prog o a w K Q else E := by
  have hw : Region.wanted o (yielded ops a.tmps) = true := by simp [Region.wanted, hgd]
  rw [if_pos hw]
  subst hao hnm
  obtain ⟨ti, hi, hz0, hz1, hz2⟩ := info_parts info24
  refine wp_append_own w s x 24 ho base 53 ti (fval Fc.zero) 4 32 Tryz.underlying24 hi hz0 hz1 hz2 rfl (by decide) v n (fl T) hs hown ⟨g, o', none⟩ m c (fl T') hx (by rw [fl_len, hl]) (facts_cell hnews hl) fl_one (by unfold maxLen; omega) (by omega) hbase (fun v' w' h1 h2 h3 => ?_)
  rw [← fl_append] at h1
  rcases own_sliceF h1 with ⟨e, _⟩ | ⟨g', cap', rfl, _, _, hc⟩
  · exact absurd (h3.1 e).1 hv
  · exact h g' cap' w' h1 h2 hc
set_option maxRecDepth 20000 in
theorem QB1 {a w : World} {B : Nat} (h : Below B a w) : Below B a w.drew := ⟨h.os, h.tape, h.output, h.size, h.block⟩
set_option maxRecDepth 20000 in
theorem facts_take {w : World} {b off len k : Nat} {F : Nat → Fc} (h : FactsIn w b off len F) (hk : k ≤ len) : FactsIn w b off k (fun j => ((seqF F len).take k).getD j Fc.zero) := fun j hj => by
  have e : ((seqF F len).take k).getD j Fc.zero = F j := by simp [List.getD, hj, seqF, show j < len by omega]
  simp only [e]
  exact h j (by omega)
set_option maxRecDepth 20000 in
theorem facts_drop {w : World} {b off len k : Nat} {F : Nat → Fc} (h : FactsIn w b off len F) (hk : k ≤ len) : FactsIn w b (off + k * 4) (len - k) (fun j => ((seqF F len).drop k).getD j Fc.zero) := fun j hj => by
  have e : ((seqF F len).drop k).getD j Fc.zero = F (k + j) := by simp [List.getD, List.getElem?_drop, seqF, show k + j < len by omega]
  simp only [e]
  have := h (k + j) (by omega)
  rw [show off + k * 4 + j * 4 = off + (k + j) * 4 by omega]
  exact this
set_option maxRecDepth 20000 in
theorem FactsIn.grown {w w' : World} {r : Option Nat} {b off len : Nat} {F : Nat → Fc} (h : FactsIn w b off len F) (hg : w.grownBy w' r) (hb : some b ≠ r) : FactsIn w' b off len F := fun k hk => by
  obtain ⟨h0, h1, h2, h3⟩ := h k hk
  exact ⟨hg.cell h0 hb, hg.cell h1 hb, hg.cell h2 hb, hg.cell h3 hb⟩
set_option maxRecDepth 20000 in
theorem tput_at {T : List Fc} {f : Fc} : ∀ (k : Nat), k ≤ T.length → (∀ j, j < k → (T.getD j Fc.zero).n < f.n) → (k < T.length → f.n < (T.getD k Fc.zero).n) → tput T f = T.take k ++ [f] ++ T.drop k := by
  induction T with
  | nil => intro k hk _ _; obtain rfl : k = 0 := by simpa using hk
           rfl
  | cons g r ih =>
    intro k hk h1 h2
    match k, hk, h1, h2 with
    | 0, _, _, h2 =>
      have := h2 (by simp)
      simp at this
      unfold tput
      rw [if_neg (by omega), if_neg (by omega)]
      rfl
    | k + 1, hk, h1, h2 =>
      have := h1 0 (by omega)
      simp at this
      unfold tput
      rw [if_pos this, ih k (by simpa using hk) (fun j hj => by have := h1 (j + 1) (by omega); simpa using this) (fun h => by have := h2 (by simpa using h); simpa using this)]
      rfl
set_option maxRecDepth 20000 in
theorem new_one (V : World) (f : Fc) : FactsIn (V.alloc (.cells #[.int .i64 f.n, .int .i64 f.i, .int .i64 f.s, .bool f.g] 53)) V.heap.size 0 1 (fun j => [f].getD j Fc.zero) := fun j hj => by
  obtain rfl : j = 0 := by omega
  exact ⟨by simp [go_sem], by simp [go_sem], by simp [go_sem], by simp [go_sem]⟩
set_option maxRecDepth 20000 in
theorem facts_lt {w : World} {b off n : Nat} {F : Nat → Fc} (h : FactsIn w b off (n + 1) F) : b < w.heap.size := World.block_lt_of_cell? w _ (h 0 (by omega)).1
set_option maxRecDepth 20000 in
theorem FactsIn.alloc {w : World} {b off len : Nat} {F : Nat → Fc} (h : FactsIn w b off len F) (o : Obj) : FactsIn (w.alloc o) b off len F := fun k hk => by
  obtain ⟨h0, h1, h2, h3⟩ := h k hk
  exact ⟨keep_alloc o h0, keep_alloc o h1, keep_alloc o h2, keep_alloc o h3⟩
set_option maxRecDepth 20000 in
theorem seqF_getD (F : Nat → Fc) {len k : Nat} (h : k < len) : (seqF F len).getD k Fc.zero = F k := by simp [List.getD, seqF, h]
end Go.Proofs.YtibnojbhoepcdaaGreatDoor
/- A fact more, the model's way. -/
namespace Go.Proofs.YtibnojbhoepcdaaGreatDoor
open Go.ChangeShapes Go.WideShapes Go.ChangeAt Go.RowKit
attribute [local go_sem ↓] Go.wp_at_zero Go.wp_at_succ
set_option maxRecDepth 20000 in
theorem fl_set (T : List Fc) : ∀ (j : Nat) (f : Fc), j < T.length → fl (T.set j f) = ((((fl T).set (j * 4) (.int .i64 f.n)).set (j * 4 + 1) (.int .i64 f.i)).set (j * 4 + 2) (.int .i64 f.s)).set (j * 4 + 3) (.bool f.g) := by
  induction T with
  | nil => intro j f h; simp at h
  | cons g r ih =>
    intro j f h
    have e : ∀ (g : Fc) (r : List Fc), fl (g :: r) = .int .i64 g.n :: .int .i64 g.i :: .int .i64 g.s :: .bool g.g :: fl r := fun g r => by simp [fl]
    match j, h with
    | 0, _ => rw [List.set_cons_zero, e, e]; rfl
    | j + 1, h =>
      rw [List.set_cons_succ, e, e, ih j f (by simpa using h), show (j + 1) * 4 = j * 4 + 4 by omega]
      rfl
set_option maxRecDepth 20000 in
theorem tput_set : ∀ (T : List Fc) (j : Nat) (f : Fc), Asc T → j < T.length → (T.getD j Fc.zero).n = f.n → ovr f (T.getD j Fc.zero) = true → tput T f = T.set j f
  | [], j, f, _, h, _, _ => by simp at h
  | g :: r, 0, f, _, _, h1, h2 => by
    simp at h1 h2
    unfold tput
    rw [if_neg (by omega), if_pos h1, if_pos h2]
    rfl
  | g :: r, j + 1, f, hA, h, h1, h2 => by
    obtain ⟨a1, a2⟩ := asc_cons.1 hA
    have hj : j < r.length := by simpa using h
    have e : (g :: r).getD (j + 1) Fc.zero = r.getD j Fc.zero := by simp
    rw [e] at h1 h2
    have := a1 (r.getD j Fc.zero) (by simp [List.getD, hj])
    unfold tput
    rw [if_pos (by omega), tput_set r j f a2 hj h1 h2]
    rfl
end Go.Proofs.YtibnojbhoepcdaaGreatDoor
/- A table with a fact more: the program's way and the model's. -/
namespace Go.Proofs.YtibnojbhoepcdaaGreatDoor
open Go.ChangeShapes Go.WideShapes Go.ChangeAt Go.RowKit
attribute [local go_sem ↓] Go.wp_at_zero Go.wp_at_succ
set_option maxRecDepth 20000 in
theorem seqF_getD_self (T : List Fc) : seqF (fun k => T.getD k Fc.zero) T.length = T := by
  apply List.ext_getElem
  · simp [seqF]
  · intro i h1 h2
    simp [seqF, List.getD, h2]
set_option maxRecDepth 20000 in
theorem getD_asc {T : List Fc} (h : Asc T) : ∀ j k, j < k → k < T.length → (T.getD j Fc.zero).n < (T.getD k Fc.zero).n := fun j k hj hk => by
  have := List.pairwise_iff_getElem.1 h j k (by omega) hk hj
  simpa [List.getD, hk, show j < T.length by omega] using this
def tpT (len : Nat) (F : Nat → Fc) (f : Fc) : List Fc := if (tokB len F && fok f) = true then tput (seqF F len) f else []
def tpQ (len : Nat) (F : Nat → Fc) (f : Fc) : Bool := (tokB len F && fok f) && tnew (seqF F len) f
set_option maxRecDepth 20000 in
theorem own_emptyF (w : World) (base : Nat) (h : base ≤ w.heap.size) : (w.alloc (.cells #[] 53)).ownsRow base 53 4 (.slice (some ⟨w.heap.size, 0, none⟩) 0 0) 0 (fl []) := World.ownsRow_lit w #[] 0 h (by unfold maxLen; omega) rfl
end Go.Proofs.YtibnojbhoepcdaaGreatDoor
/- How tables are written: the program's way and the model's. -/
namespace Go.Proofs.YtibnojbhoepcdaaGreatDoor
open Go.ChangeShapes Go.WideShapes Go.ChangeAt Go.RowKit
attribute [local go_sem ↓] Go.wp_at_zero Go.wp_at_succ
theorem dec_lit (n : Int) (x : ByteArray) (h0 : 0 ≤ n) (h1 : n ≤ 999) (hx : bs (Lib.itoa n) = x) (w : World) :
    Calls Tryz.prog 81 #[.int .i64 n] w fun e w' => e = .returned (.string x) ∧ Below w.heap.size w w' := by
  have := dec_any (n.toNat + 1) n.toNat (by omega) (by omega) w
  have e1 : ((n.toNat : Nat) : Int) = n := by omega
  rw [e1] at this
  have e2 : Lib.itoa n = Lib.decDigits n.toNat := by unfold Lib.itoa; rw [if_neg (by omega)]
  rw [← hx, e2]
  exact this
theorem sword_any (s : Int) (h1 : 1 ≤ s) (h4 : s ≤ 4) (w : World) :
    Calls Tryz.prog 82 #[.int .i64 s] w fun e w' => e = .returned (.string (bs (wordL s))) ∧ Below w.heap.size w w' := by
  have hs : s = 1 ∨ s = 2 ∨ s = 3 ∨ s = 4 := by omega
  clear h1 h4
  rcases hs with rfl | rfl | rfl | rfl
  all_goals
    go_enter Tryz.func82, Tryz.ntmps82
    go_wp2
    go_ret
    exact ⟨rfl, balloc _ (Below.refl _ _)⟩
theorem sword_lit (s : Int) (x : ByteArray) (h1 : 1 ≤ s) (h4 : s ≤ 4) (hx : bs (wordL s) = x) (w : World) :
    Calls Tryz.prog 82 #[.int .i64 s] w fun e w' => e = .returned (.string x) ∧ Below w.heap.size w w' := hx ▸ sword_any s h1 h4 w
/-- a table's text -/
def ttx (T : List Fc) : List UInt8 := Lib.join (T.map ftx) [44]
theorem ttx_nil : ttx [] = [] := rfl
theorem join_snoc (sep : List UInt8) (x : List UInt8) : ∀ (r : List (List UInt8)), r ≠ [] → Lib.join (r ++ [x]) sep = Lib.join r sep ++ sep ++ x
  | [], h => absurd rfl h
  | y :: r, _ => by
    rw [List.cons_append, Lib.join_cons, Lib.join_cons]
    simp [Lib.joinTail]
theorem ttx_snoc (T : List Fc) (f : Fc) : ttx (T ++ [f]) = ttx T ++ (if T = [] then [] else [44]) ++ ftx f := by
  unfold ttx
  cases T with
  | nil => simp [Lib.join_one, Lib.join_nil]
  | cons g r =>
    rw [List.map_append, show List.map ftx [f] = [ftx f] from rfl, join_snoc _ _ _ (by simp), if_neg (by simp)]
theorem ftx_len {f : Fc} (h : fok f = true) : (ftx f).length ≤ 16 := by
  obtain ⟨n0, n7, i0, i9, _, _⟩ := fok_all h
  have a1 := itoa_len n0 (by omega : f.n ≤ 999)
  have a2 := itoa_len i0 i9
  have a3 := word_len f.s
  simp only [ByteArray.size, List.size_toArray] at a1 a2 a3
  unfold ftx
  simp only [List.length_append, List.length_cons, List.length_nil]
  split <;> simp <;> omega
theorem ttx_len (F : Nat → Fc) : ∀ k, (∀ j, j < k → fok (F j) = true) → (ttx (seqF F k)).length ≤ 17 * k
  | 0, _ => by simp [seqF, ttx_nil]
  | k + 1, h => by
    rw [seqF_succ, ttx_snoc]
    have h1 := ttx_len F k (fun j hj => h j (by omega))
    have h2 := ftx_len (h k (by omega))
    simp only [List.length_append]
    split <;> simp <;> omega
theorem info9 : (Tryz.prog.info? 9).map (fun i => (i.zero, i.size, i.bytes)) = some (some (.string ByteArray.empty), 1, 16) := by kernel_rfl
/-- the texts of facts, in memory -/
def sl (T : List Fc) : List Value := T.map fun f => .string (bs (ftx f))
/-- what TableText writes -/
def txt (len : Nat) (F : Nat → Fc) : ByteArray := if tokB len F = true then (if len = 0 then bs [45] else bs (ttx (seqF F len))) else bs []
theorem ftext_lit (f : Fc) (x : ByteArray) (hf : fok f = true) (hx : bs (ftx f) = x) (w : World) (ht : Tabs w) :
    Calls Tryz.prog 37 #[.agg #[.int .i64 f.n, .int .i64 f.i, .int .i64 f.s, .bool f.g]] w fun e w' => e = .returned (.string x) ∧ Below w.heap.size w w' := hx ▸ ftext_any f hf w ht
theorem tok_litt (a : Option Addr) (len cap : Nat) (F : Nat → Fc) (q : Bool) (w : World) (h : FSl w a len F) (hl : len ≤ 1048576) (hq : tokB len F = q) :
    Calls Tryz.prog 35 #[.slice a len cap] w fun e w' => e = .returned (.bool q) ∧ Below w.heap.size w w' := hq ▸ tok_any a len cap F w h hl
theorem stok_litt (a : Option Addr) (len cap : Nat) (F : Nat → Fc) (q : Bool) (w : World) (h : FSl w a len F) (hl : len ≤ 1048576) (hq : tokB len F = q) :
    Calls Tryz.prog 15 #[.slice a len cap] w fun e w' => e = .returned (.bool q) ∧ Below w.heap.size w w' := hq ▸ stok_any a len cap F w h hl
theorem own_str {w : World} {base n : Nat} {v : Value} {xs : List Value} (h : w.ownsRow base 9 1 v n xs) : (v = .slice none 0 0 ∧ n = 0) ∨ ∃ g cap, v = .slice (some ⟨g, 0, none⟩) n cap ∧ base ≤ g ∧ g < w.heap.size ∧ n ≤ cap := by
  rcases h.2 with ⟨rfl, rfl⟩ | ⟨g, cap, cur, rfl, hg, hh, hc, _⟩
  · exact .inl ⟨rfl, rfl⟩
  · exact .inr ⟨g, cap, rfl, hg, (Array.getElem?_eq_some_iff.1 hh).1, hc⟩
set_option maxRecDepth 20000 in
set_option maxHeartbeats 4000000 in
theorem text_any (a : Option Addr) (len cap : Nat) (F : Nat → Fc) (w : World) (h : FSl w a len F) (hl : len ≤ 1048576) (ht : Tabs w) :
    Calls Tryz.prog 12 #[.slice a len cap] w fun e w' => e = .returned (.string (txt len F)) ∧ Below w.heap.size w w' := by
  cases hok0 : tokB len F
  · have hok : Hid (tokB len F = false) := hok0
    have e1 : txt len F = bs [] := by unfold txt; rw [hok0]; rfl
    rw [e1]
    clear hok0 e1
    go_enter Tryz.func12, Tryz.ntmps12
    go_wp2_with fail
    refine (tok_litt a len cap F false _ h hl hok.out).mono ?_
    rintro r w1 ⟨rfl, b1⟩
    go_wp2
    go_ret
    exact ⟨rfl, b1⟩
  · have hok : Hid (tokB len F = true) := hok0
    by_cases h0 : len = 0
    · have e1 : txt len F = bs [45] := by unfold txt; rw [hok0, if_pos rfl, if_pos h0]
      rw [e1]
      subst h0
      clear hok0 e1
      go_enter Tryz.func12, Tryz.ntmps12
      go_wp2_with fail
      refine (tok_litt a 0 cap F true _ h hl hok.out).mono ?_
      rintro r w1 ⟨rfl, b1⟩
      go_wp2
      go_ret
      exact ⟨rfl, b1⟩
    · have e1 : txt len F = bs (ttx (seqF F len)) := by unfold txt; rw [hok0, if_pos rfl, if_neg h0]
      obtain ⟨t1, _⟩ := tok_all hok0
      have hm8 := tok_len hok0
      have hj : ¬ (len : Int) = 0 := by omega
      have hjb : ((len : Int) == 0) = false := by simpa using hj
      have hlen := ttx_len F len t1
      rw [e1]
      clear hok0 e1
      obtain ⟨ti, hi, hz0, hz1, hz2⟩ := info_parts info9
      go_enter Tryz.func12, Tryz.ntmps12
      go_wp2_with fail
      refine (tok_litt a len cap F true _ h hl hok.out).mono ?_
      rintro r w1 ⟨rfl, B1⟩
      go_wp2_with fail
      go_loopw [3, 14] (fun v i wr => ∃ k : Nat, i = .int .i64 k ∧ k ≤ len ∧ wr.ownsRow w.heap.size 9 1 v k (sl (seqF F k)) ∧ Below w.heap.size w wr) (fun _ i _ => len - (intOf i).toNat)
      case atStart => exact ⟨0, rfl, Nat.zero_le _, World.ownsRow_nil _ _ _ _, B1⟩
      case round =>
        obtain ⟨k, rfl, hk, hown, hb⟩ := hrel
        by_cases hlt : k < len
        · have i0 : (0 : Int) ≤ (k : Int) := by omega
          have i1 : (k : Int) < (len : Int) := by omega
          obtain ⟨b, off, rfl, hbl, hfi⟩ := h (by omega)
          obtain ⟨c0, c1, c2, c3⟩ := (hfi.below hb hbl) k hlt
          have hfk := t1 k hlt
          have hs : Hid (sl (seqF F (k + 1)) = sl (seqF F k) ++ [.string (bs (ftx (F k)))]) := by unfold Hid sl; rw [seqF_succ, List.map_append]; rfl
          generalize F k = f at *
          obtain ⟨x, hx⟩ : ∃ x, Hid (bs (ftx f) = x) := ⟨_, rfl⟩
          rw [hx.out] at hs
          have b2 : Below wr.heap.size wr (wr.alloc (.cells #[.int .i64 f.n, .int .i64 f.i, .int .i64 f.s, .bool f.g] 53)) := balloc _ (Below.refl _ _)
          go_wp2_with fail
          have B2 := btrans hb b2
          have O2 := own_below hown b2
          clear c0 c1 c2 c3 b2 hown hb
          generalize (wr.alloc (.cells #[.int .i64 f.n, .int .i64 f.i, .int .i64 f.s, .bool f.g] 53)) = w2 at *
          refine (ftext_lit f x hfk hx.out _ (ht.below B2)).mono ?_
          rintro r w3 ⟨rfl, b3⟩
          have B3 := btrans B2 b3
          have O3 := own_below O2 b3
          clear b3 B2 O2
          go_wp2_with (at_builtin; refine wpList_append_own _ rfl _ _ 48 rfl w.heap.size 9 ti (.string ByteArray.empty) 1 16 Tryz.underlying48 hi hz0 hz1 hz2 rfl (by decide) _ _ _ rfl (O3.alloc _) ⟨w3.heap.size, 0, none⟩ 1 1 [.string x] rfl rfl ?c1 ?c2 ?c3 ?c4 ?c5 ?_)
          case c1 =>
            intro j u hj
            match j, hj with
            | 0, hj => simp at hj; subst hj; simp [Addr.add]
          case c2 => intro u hu; simp at hu; subst hu; rfl
          case c3 => unfold maxLen; omega
          case c4 => omega
          case c5 => have := B3.size; simp; omega
          · intro v' w4 hown' hgrow _
            have B4 := own_grow (balloc (.cells #[.string x] 9) B3) (by have := B3.size; simp; omega) (O3.alloc _) hgrow
            clear O3 hgrow B3
            go_wp2
            go_roundw
            case rel => exact ⟨k + 1, by go_num, by omega, by rw [hs.out]; exact hown', B4⟩
            case measure => simp [intOf]; omega
        · obtain rfl : k = len := by omega
          rcases own_str hown with ⟨_, e0⟩ | ⟨g, cc, rfl, hg1, hg2, hg3⟩
          · exact absurd e0 h0
          have hJ := Tryz.strings_Join g 0 cc ((seqF F k).map fun f => bs (ftx f)) (bs [44]) wr (fun j x hx => by
            have := hown.cells (g := g) rfl j (.string x) (by
              unfold sl
              simp only [List.getElem?_map, Option.map_eq_some_iff] at hx ⊢
              obtain ⟨f, hf, rfl⟩ := hx
              exact ⟨f, hf, rfl⟩)
            cases j <;> simpa [Addr.add] using this) hg2 (by simp [seqF]; omega) (by simp [seqF]; omega) (by
              have e1 : (((seqF F k).map fun f => bs (ftx f)).map (·.data.toList)) = (seqF F k).map ftx := by simp [List.map_map, Function.comp_def]
              rw [e1]
              have : (ttx (seqF F k)).length ≤ 17 * k := hlen
              unfold ttx at this
              show (Lib.join (List.map ftx (seqF F k)) [44]).length ≤ _
              omega)
          have e1 : (((seqF F k).map fun f => bs (ftx f)).map (·.data.toList)) = (seqF F k).map ftx := by simp [List.map_map, Function.comp_def]
          have e2 : ((seqF F k).map fun f => bs (ftx f)).length = k := by simp [seqF]
          rw [e1, e2] at hJ
          have hJ' : Calls Tryz.prog 38 #[.slice (some ⟨g, 0, none⟩) k cc, .string (bs [44])] wr fun e w' => e = .returned (.string (bs (ttx (seqF F k)))) ∧ Below wr.heap.size wr w' := hJ
          obtain ⟨y, hy⟩ : ∃ y, Hid (bs (ttx (seqF F k)) = y) := ⟨_, rfl⟩
          rw [hy.out] at hJ'
          clear hJ e1 e2 hown
          go_wp2_with fail
          refine hJ'.mono ?_
          rintro r w5 ⟨rfl, b5⟩
          have B5 := btrans hb b5
          clear b5 hJ'
          go_wp2
          go_ret
          exact ⟨by rw [hy.out]; rfl, B5⟩
end Go.Proofs.YtibnojbhoepcdaaGreatDoor
/- Texts cut at a byte, and the numbers that figures spell (no program in this text). -/
namespace Go.Proofs.YtibnojbhoepcdaaGreatDoor
/-- a text cut at each byte c -/
def cutL (c : UInt8) : List UInt8 → List (List UInt8)
  | [] => [[]]
  | x :: xs => if x = c then [] :: cutL c xs else match cutL c xs with
    | [] => [[x]]
    | p :: ps => (x :: p) :: ps
theorem cutL_ne (c : UInt8) : ∀ s, cutL c s ≠ []
  | [] => by simp [cutL]
  | x :: xs => by
    unfold cutL
    split
    · simp
    · split <;> simp
theorem cutL_free (c : UInt8) : ∀ s, c ∉ s → cutL c s = [s]
  | [], _ => rfl
  | x :: xs, h => by
    have h1 : ¬ x = c := fun e => h (by rw [e]; exact List.mem_cons_self ..)
    have h2 : c ∉ xs := fun e => h (List.mem_cons_of_mem _ e)
    rw [cutL, if_neg h1, cutL_free c xs h2]
theorem cutL_hit (c : UInt8) : ∀ a s, c ∉ a → cutL c (a ++ c :: s) = a :: cutL c s
  | [], s, _ => by simp [cutL]
  | x :: xs, s, h => by
    have h1 : ¬ x = c := fun e => h (by rw [e]; exact List.mem_cons_self ..)
    have h2 : c ∉ xs := fun e => h (List.mem_cons_of_mem _ e)
    rw [List.cons_append, cutL, if_neg h1, cutL_hit c xs s h2]
theorem cutL_split (c : UInt8) : ∀ s, c ∉ s ∨ ∃ a r, s = a ++ c :: r ∧ c ∉ a
  | [] => Or.inl (by simp)
  | x :: xs => by
    by_cases h : x = c
    · exact Or.inr ⟨[], xs, by simp [h], by simp⟩
    · rcases cutL_split c xs with h' | ⟨a, r, e, ha⟩
      · refine Or.inl (fun hm => ?_)
        rcases List.mem_cons.1 hm with e | e
        · exact h e.symm
        · exact h' e
      · refine Or.inr ⟨x :: a, r, by rw [e]; rfl, fun hm => ?_⟩
        rcases List.mem_cons.1 hm with e | e
        · exact h e.symm
        · exact ha e
theorem join_two (a : List UInt8) (r : List (List UInt8)) (sep : List UInt8) (h : r ≠ []) : Lib.join (a :: r) sep = a ++ sep ++ Lib.join r sep := by
  cases r with
  | nil => exact absurd rfl h
  | cons b q => simp [Lib.join, List.intercalate, List.intersperse]
theorem join_cutL (c : UInt8) : ∀ n (s : List UInt8), s.length ≤ n → Lib.join (cutL c s) [c] = s := by
  intro n
  induction n with
  | zero =>
    intro s hs
    have : s = [] := List.length_eq_zero_iff.1 (by omega)
    subst this
    simp [cutL, Lib.join_one]
  | succ n ih =>
    intro s hs
    rcases cutL_split c s with h | ⟨a, r, e, ha⟩
    · rw [cutL_free c s h, Lib.join_one]
    · subst e
      rw [cutL_hit c a r ha, join_two _ _ _ (cutL_ne c r), ih r (by simp at hs; omega)]
      simp
theorem cutL_join (c : UInt8) : ∀ (r : List (List UInt8)), r ≠ [] → (∀ p ∈ r, c ∉ p) → cutL c (Lib.join r [c]) = r
  | [], h, _ => absurd rfl h
  | [a], _, hp => by rw [Lib.join_one, cutL_free c a (hp a (List.mem_cons_self ..))]
  | a :: b :: q, _, hp => by
    rw [join_two _ _ _ (by simp), List.append_assoc, List.singleton_append, cutL_hit c a _ (hp a (List.mem_cons_self ..)), cutL_join c (b :: q) (by simp) (fun p h => hp p (List.mem_cons_of_mem _ h))]
theorem indexByte_free (c : UInt8) : ∀ s : List UInt8, c ∉ s → Lib.indexByte s c = -1
  | [], _ => rfl
  | x :: xs, h => by
    have h1 : ¬ x = c := fun e => h (by rw [e]; exact List.mem_cons_self ..)
    have h2 : c ∉ xs := fun e => h (List.mem_cons_of_mem _ e)
    rw [Lib.indexByte, indexByte_free c xs h2]
    simp [h1]
theorem indexByte_hit (c : UInt8) : ∀ (a r : List UInt8), c ∉ a → Lib.indexByte (a ++ c :: r) c = (a.length : Int)
  | [], r, _ => by simp [Lib.indexByte]
  | x :: xs, r, h => by
    have h1 : ¬ x = c := fun e => h (by rw [e]; exact List.mem_cons_self ..)
    have h2 : c ∉ xs := fun e => h (List.mem_cons_of_mem _ e)
    rw [List.cons_append, Lib.indexByte, indexByte_hit c xs r h2]
    have : ¬ ((xs.length : Int) == -1) = true := fun e => by have := beq_iff_eq.1 e; omega
    simp [h1, this]
/-- strings.Split at one byte -/
theorem split_cutL (c : UInt8) : ∀ n (s : List UInt8), s.length ≤ n → Lib.split s [c] = cutL c s := by
  intro n
  induction n with
  | zero =>
    intro s hs
    have : s = [] := List.length_eq_zero_iff.1 (by omega)
    subst this
    rfl
  | succ n ih =>
    intro s hs
    rcases cutL_split c s with h | ⟨a, r, e, ha⟩
    · have hi : Lib.index s [c] = -1 := by rw [Lib.index_one, indexByte_free c s h]
      rw [cutL_free c s h, Lib.split, Lib.count_miss hi]
      rfl
    · subst e
      have hi : Lib.index (a ++ c :: r) [c] = (a.length : Int) := by rw [Lib.index_one, indexByte_hit c a r ha]
      have hn : ¬ ((a.length : Int) == -1) = true := fun e => by have := beq_iff_eq.1 e; omega
      have hd : (a ++ c :: r).drop (a.length + 1) = r := by simp [List.drop_append]
      rw [cutL_hit c a r ha, Lib.split, Lib.count_hit (by simp) hi]
      simp only [List.length_singleton, hd]
      rw [Nat.add_comm 1, Lib.splitK, hi, if_neg hn]
      simp only [Int.toNat_natCast, Nat.add_zero, List.length_singleton, hd]
      have := ih r (by simp at hs; omega)
      rw [Lib.split] at this
      rw [this]
      simp
/-- a figure's byte -/
theorem fig {d : Nat} (h : d < 10) : (UInt8.ofNat (48 + d)).toNat = 48 + d := by
  rw [UInt8.toNat_ofNat']
  exact Nat.mod_eq_of_lt (by omega)
theorem dd_cases (u : Nat) (h : u < 1000) : (u < 10 ∧ Lib.decDigits u = [UInt8.ofNat (48 + u)]) ∨ (10 ≤ u ∧ u < 100 ∧ Lib.decDigits u = [UInt8.ofNat (48 + u / 10), UInt8.ofNat (48 + u % 10)]) ∨ (100 ≤ u ∧ Lib.decDigits u = [UInt8.ofNat (48 + u / 100), UInt8.ofNat (48 + u / 10 % 10), UInt8.ofNat (48 + u % 10)]) := by
  by_cases h1 : u < 10
  · left
    refine ⟨h1, ?_⟩
    rw [Lib.decDigits, dif_pos h1]
  · right
    by_cases h2 : u < 100
    · left
      refine ⟨by omega, h2, ?_⟩
      rw [Lib.decDigits, dif_neg h1, Lib.decDigits, dif_pos (by omega)]
      rfl
    · right
      refine ⟨by omega, ?_⟩
      rw [Lib.decDigits, dif_neg h1, Lib.decDigits, dif_neg (by omega), Lib.decDigits, dif_pos (by omega), Nat.div_div_eq_div_mul]
      rfl
/-- the number that figures spell; -1 if one is none -/
def mdig : Int → List UInt8 → Int
  | acc, [] => acc
  | acc, c :: r => if c.toNat < 48 ∨ 57 < c.toNat then -1 else mdig (acc * 10 + ((c.toNat : Int) - 48)) r
/-- the model's number -/
def mnum (s : List UInt8) : Int := if s.length < 1 ∨ 6 < s.length ∨ (1 < s.length ∧ s.head? = some 48) then -1 else mdig 0 s
/-- the program's number, and whether it is one -/
def pnum (s : List UInt8) : Int × Bool := match Lib.atoiAll s with
  | .ok n => (n, Lib.itoa n == s)
  | .syntax => (0, false)
  | .range => (Lib.atoiSat s, false)
theorem pnum_say {s : List UInt8} (h : (pnum s).2 = true) : Lib.itoa (pnum s).1 = s := by
  unfold pnum at h ⊢
  split at h
  · exact beq_iff_eq.1 h
  · cases h
  · cases h
theorem itoa_nat {n : Int} (h0 : 0 ≤ n) : Lib.itoa n = Lib.decDigits n.toNat := by
  rw [Lib.itoa, if_neg (by omega)]
theorem itoa_fig {n : Int} (h0 : 0 ≤ n) (h1 : n ≤ 999) : ∀ c ∈ Lib.itoa n, 48 ≤ c.toNat ∧ c.toNat ≤ 57 := by
  rw [itoa_nat h0]
  intro c hc
  rcases dd_cases n.toNat (by omega) with ⟨a, e⟩ | ⟨a, b, e⟩ | ⟨a, e⟩ <;> rw [e] at hc <;> simp only [List.mem_cons, List.not_mem_nil, or_false] at hc
  · subst hc
    rw [fig (by omega)]
    omega
  · rcases hc with rfl | rfl <;> rw [fig (by omega)] <;> omega
  · rcases hc with rfl | rfl | rfl <;> rw [fig (by omega)] <;> omega
theorem itoa_miss {n : Int} (h0 : 0 ≤ n) (h1 : n ≤ 999) (c : UInt8) (hc : c.toNat < 48 ∨ 57 < c.toNat) : c ∉ Lib.itoa n := fun hm => by
  have := itoa_fig h0 h1 c hm
  omega
theorem pnum_itoa {n : Int} (h0 : 0 ≤ n) (h1 : n ≤ 999) : pnum (Lib.itoa n) = (n, true) := by
  have key : Lib.atoiAll (Lib.itoa n) = .ok n := by
    rw [itoa_nat h0]
    rcases dd_cases n.toNat (by omega) with ⟨a, e⟩ | ⟨a, b, e⟩ | ⟨a, e⟩
    · have f1 := fig (d := n.toNat) (by omega)
      rw [e, Lib.atoiAll]
      generalize UInt8.ofNat (48 + n.toNat) = y at f1 ⊢
      have q1 : ¬ (y.toNat = 43 ∨ y.toNat = 45) := by omega
      have q2 : ¬ y.toNat = 45 := by omega
      have r1 : Lib.parseMag [y] = .ok n.toNat := by
        simp only [Lib.parseMag, Lib.parseUint10]
        rw [if_neg (by simp), if_pos (by omega), if_neg (by omega), if_neg (by omega)]
        congr 1; omega
      simp only [if_neg q1, r1]
      rw [if_neg (by omega), if_neg (by omega), if_neg q2]
      congr 1; omega
    · have f1 := fig (d := n.toNat / 10) (by omega)
      have f2 := fig (d := n.toNat % 10) (by omega)
      rw [e, Lib.atoiAll]
      generalize UInt8.ofNat (48 + n.toNat / 10) = y at f1 ⊢
      generalize UInt8.ofNat (48 + n.toNat % 10) = z at f2 ⊢
      have q1 : ¬ (y.toNat = 43 ∨ y.toNat = 45) := by omega
      have q2 : ¬ y.toNat = 45 := by omega
      have r1 : Lib.parseMag [y, z] = .ok n.toNat := by
        simp only [Lib.parseMag, Lib.parseUint10]
        rw [if_neg (by simp), if_pos (by omega), if_neg (by omega), if_neg (by omega), if_pos (by omega), if_neg (by omega), if_neg (by omega)]
        congr 1; omega
      simp only [if_neg q1, r1]
      rw [if_neg (by omega), if_neg (by omega), if_neg q2]
      congr 1; omega
    · have f1 := fig (d := n.toNat / 100) (by omega)
      have f2 := fig (d := n.toNat / 10 % 10) (by omega)
      have f3 := fig (d := n.toNat % 10) (by omega)
      rw [e, Lib.atoiAll]
      generalize UInt8.ofNat (48 + n.toNat / 100) = y at f1 ⊢
      generalize UInt8.ofNat (48 + n.toNat / 10 % 10) = z at f2 ⊢
      generalize UInt8.ofNat (48 + n.toNat % 10) = x at f3 ⊢
      have q1 : ¬ (y.toNat = 43 ∨ y.toNat = 45) := by omega
      have q2 : ¬ y.toNat = 45 := by omega
      have r1 : Lib.parseMag [y, z, x] = .ok n.toNat := by
        simp only [Lib.parseMag, Lib.parseUint10]
        rw [if_neg (by simp), if_pos (by omega), if_neg (by omega), if_neg (by omega), if_pos (by omega), if_neg (by omega), if_neg (by omega), if_pos (by omega), if_neg (by omega), if_neg (by omega)]
        congr 1; omega
      simp only [if_neg q1, r1]
      rw [if_neg (by omega), if_neg (by omega), if_neg q2]
      congr 1; omega
  unfold pnum
  rw [key]
  simp
theorem mnum_itoa {n : Int} (h0 : 0 ≤ n) (h1 : n ≤ 999) : mnum (Lib.itoa n) = n := by
  rw [itoa_nat h0]
  rcases dd_cases n.toNat (by omega) with ⟨a, e⟩ | ⟨a, b, e⟩ | ⟨a, e⟩
  · have f1 := fig (d := n.toNat) (by omega)
    rw [e, mnum, if_neg (by simp)]
    generalize UInt8.ofNat (48 + n.toNat) = y at f1 ⊢
    simp only [mdig]
    rw [if_neg (by omega)]
    omega
  · have f1 := fig (d := n.toNat / 10) (by omega)
    have f2 := fig (d := n.toNat % 10) (by omega)
    rw [e, mnum]
    generalize UInt8.ofNat (48 + n.toNat / 10) = y at f1 ⊢
    generalize UInt8.ofNat (48 + n.toNat % 10) = z at f2 ⊢
    have q : ¬ y = 48 := fun e => by rw [e] at f1; change 48 = _ at f1; omega
    rw [if_neg (by simp [q])]
    simp only [mdig]
    rw [if_neg (by omega), if_neg (by omega)]
    omega
  · have f1 := fig (d := n.toNat / 100) (by omega)
    have f2 := fig (d := n.toNat / 10 % 10) (by omega)
    have f3 := fig (d := n.toNat % 10) (by omega)
    rw [e, mnum]
    generalize UInt8.ofNat (48 + n.toNat / 100) = y at f1 ⊢
    generalize UInt8.ofNat (48 + n.toNat / 10 % 10) = z at f2 ⊢
    generalize UInt8.ofNat (48 + n.toNat % 10) = x at f3 ⊢
    have q : ¬ y = 48 := fun e => by rw [e] at f1; change 48 = _ at f1; omega
    rw [if_neg (by simp [q])]
    simp only [mdig]
    rw [if_neg (by omega), if_neg (by omega), if_neg (by omega)]
    omega
end Go.Proofs.YtibnojbhoepcdaaGreatDoor
/- How facts are read: the program's way and the model's answer alike (no program in this text). -/
namespace Go.Proofs.YtibnojbhoepcdaaGreatDoor
/-- the place of a word, 0 if it is none -/
def wnum (s : List UInt8) : Int := if s = wa1 then 1 else if s = wa2 then 2 else if s = wa3 then 3 else if s = wa4 then 4 else 0
theorem word_wnum {s : List UInt8} (h : wnum s ≠ 0) : wordL (wnum s) = s := by
  unfold wnum at h ⊢
  split
  · next e => exact e ▸ rfl
  · split
    · next e => exact e ▸ rfl
    · split
      · next e => exact e ▸ rfl
      · split
        · next e => exact e ▸ rfl
        · next h1 h2 h3 h4 => rw [if_neg h1, if_neg h2, if_neg h3, if_neg h4] at h; exact absurd rfl h
/-- what the program reads in a text of a fact -/
def pf (s : List UInt8) : Option Fc := match cutL 58 s with
  | [a, b, c] => if (pnum a).2 = true ∧ (pnum b).2 = true ∧ wnum (Lib.trimSuffix c [42]) ≠ 0 then some ⟨(pnum a).1, (pnum b).1, wnum (Lib.trimSuffix c [42]), Lib.hasSuffix c [42]⟩ else none
  | _ => none
/-- what the model reads in it -/
def mst (s : List UInt8) : Bool := s.getLast? == some 42
def mf (s : List UInt8) : Option Fc := match cutL 58 (if mst s = true then s.dropLast else s) with
  | [a, b, c] => if fok ⟨mnum a, mnum b, wnum c, mst s⟩ = true then some ⟨mnum a, mnum b, wnum c, mst s⟩ else none
  | _ => none
theorem star_back (c : List UInt8) : Lib.trimSuffix c [42] ++ (if Lib.hasSuffix c [42] = true then [42] else []) = c := by
  unfold Lib.trimSuffix
  by_cases h : Lib.hasSuffix c [42] = true
  · rw [if_pos h, if_pos h]
    obtain ⟨t, e⟩ := List.isSuffixOf_iff_suffix.1 h
    subst e
    simp
  · rw [if_neg h, if_neg h]
    simp
theorem pf_say {s : List UInt8} {f : Fc} (h : pf s = some f) : ftx f = s := by
  unfold pf at h
  split at h
  · next a b c e =>
    split at h
    · next hq =>
      injection h with h
      subst h
      have j := join_cutL 58 s.length s (Nat.le_refl _)
      rw [e, join_two _ _ _ (by simp), join_two _ _ _ (by simp), Lib.join_one] at j
      unfold ftx
      simp only
      rw [pnum_say hq.1, pnum_say hq.2.1, word_wnum hq.2.2, List.append_assoc (_ ++ [58]), star_back]
      rw [← j]
      simp
    · cases h
  · cases h
theorem word_miss (s : Int) (c : UInt8) (hc : c.toNat < 97) : c ∉ wordL s := by
  have key : ∀ x ∈ wordL s, 97 ≤ x.toNat := by
    unfold wordL
    split
    · decide
    · split
      · decide
      · split
        · decide
        · decide
  exact fun hm => by have := key c hm; omega
theorem star_miss (g : Bool) (c : UInt8) (hc : c ≠ 42) : c ∉ (if g = true then [42] else [] : List UInt8) := by
  cases g <;> simp [hc]
theorem ftx_form (f : Fc) : ftx f = Lib.itoa f.n ++ 58 :: (Lib.itoa f.i ++ 58 :: (wordL f.s ++ (if f.g = true then [42] else []))) := by
  simp [ftx]
theorem ftx_miss {f : Fc} (h : fok f = true) : (44 : UInt8) ∉ ftx f := by
  obtain ⟨a, b, c, d, -, -⟩ := fok_all h
  rw [ftx_form]
  intro hm
  simp only [List.mem_append, List.mem_cons] at hm
  rcases hm with hm | hm | hm | hm | hm | hm
  · exact itoa_miss a (by omega) 44 (by decide) hm
  · exact absurd hm (by decide)
  · exact itoa_miss c d 44 (by decide) hm
  · exact absurd hm (by decide)
  · exact word_miss _ 44 (by decide) hm
  · exact star_miss _ 44 (by decide) hm
theorem cut3 {f : Fc} (h : fok f = true) (e : List UInt8) (he : (58 : UInt8) ∉ e) : cutL 58 (Lib.itoa f.n ++ 58 :: (Lib.itoa f.i ++ 58 :: e)) = [Lib.itoa f.n, Lib.itoa f.i, e] := by
  obtain ⟨a, b, c, d, -, -⟩ := fok_all h
  rw [cutL_hit 58 _ _ (itoa_miss a (by omega) 58 (by decide)), cutL_hit 58 _ _ (itoa_miss c d 58 (by decide)), cutL_free 58 e he]
theorem pf_ftx {f : Fc} (h : fok f = true) : pf (ftx f) = some f := by
  obtain ⟨a, b, c, d, s1, s4⟩ := fok_all h
  have e58 : (58 : UInt8) ∉ wordL f.s ++ (if f.g = true then [42] else []) := by
    intro hm
    rcases List.mem_append.1 hm with hm | hm
    · exact word_miss _ 58 (by decide) hm
    · exact star_miss _ 58 (by decide) hm
  have hw : wnum (Lib.trimSuffix (wordL f.s ++ (if f.g = true then [42] else [])) [42]) = f.s ∧ Lib.hasSuffix (wordL f.s ++ (if f.g = true then [42] else [])) [42] = f.g := by
    have hs : f.s = 1 ∨ f.s = 2 ∨ f.s = 3 ∨ f.s = 4 := by omega
    rcases hs with e | e | e | e <;> rw [e] <;> cases f.g <;> decide
  unfold pf
  rw [ftx_form, cut3 h _ e58]
  simp only
  rw [pnum_itoa a (by omega), pnum_itoa c d, hw.1, hw.2, if_pos ⟨rfl, rfl, by omega⟩]
theorem mf_nil : mf [] = none := rfl
theorem mf_ftx {f : Fc} (h : fok f = true) : mf (ftx f) = some f := by
  obtain ⟨a, b, c, d, s1, s4⟩ := fok_all h
  have hm : mst (ftx f) = f.g := by
    have hs : f.s = 1 ∨ f.s = 2 ∨ f.s = 3 ∨ f.s = 4 := by omega
    have : (ftx f).getLast? = (wordL f.s ++ (if f.g = true then [42] else [])).getLast? := by
      have hn : wordL f.s ++ (if f.g = true then [42] else []) ≠ [] := by
        rcases hs with e | e | e | e <;> rw [e] <;> cases f.g <;> decide
      have he : ftx f = (Lib.itoa f.n ++ [58] ++ Lib.itoa f.i ++ [58]) ++ (wordL f.s ++ (if f.g = true then [42] else [])) := by simp [ftx]
      rw [he, List.getLast?_append]
      cases hl : (wordL f.s ++ (if f.g = true then [42] else [])).getLast? with
      | none => exact absurd (List.getLast?_eq_none_iff.1 hl) hn
      | some x => rfl
    unfold mst
    rw [this]
    rcases hs with e | e | e | e <;> rw [e] <;> cases f.g <;> decide
  have hd : (if mst (ftx f) = true then (ftx f).dropLast else ftx f) = Lib.itoa f.n ++ 58 :: (Lib.itoa f.i ++ 58 :: wordL f.s) := by
    rw [hm]
    cases hg : f.g
    · simp [ftx_form, hg]
    · rw [if_pos rfl, ftx_form, hg, if_pos rfl]
      have : Lib.itoa f.n ++ 58 :: (Lib.itoa f.i ++ 58 :: (wordL f.s ++ [42])) = (Lib.itoa f.n ++ 58 :: (Lib.itoa f.i ++ 58 :: wordL f.s)) ++ [42] := by simp
      rw [this, List.dropLast_concat]
  have hw : wnum (wordL f.s) = f.s := by
    have hs : f.s = 1 ∨ f.s = 2 ∨ f.s = 3 ∨ f.s = 4 := by omega
    rcases hs with e | e | e | e <;> rw [e] <;> decide
  unfold mf
  rw [hd, cut3 h _ (word_miss _ 58 (by decide))]
  simp only
  rw [mnum_itoa a (by omega), mnum_itoa c d, hw, hm, if_pos (show fok ⟨f.n, f.i, f.s, f.g⟩ = true from h)]
/-- all pieces read; none if one is none -/
def alls (r : List UInt8 → Option Fc) : List (List UInt8) → Option (List Fc)
  | [] => some []
  | p :: ps => match r p with
    | none => none
    | some f => match alls r ps with
      | none => none
      | some T => some (f :: T)
theorem alls_map (r : List UInt8 → Option Fc) : ∀ T : List Fc, (∀ f ∈ T, r (ftx f) = some f) → alls r (T.map ftx) = some T
  | [], _ => rfl
  | f :: T, h => by
    rw [List.map_cons, alls, h f (List.mem_cons_self ..), alls_map r T (fun g hg => h g (List.mem_cons_of_mem _ hg))]
theorem alls_say (r : List UInt8 → Option Fc) (hr : ∀ s f, r s = some f → ftx f = s) : ∀ ps T, alls r ps = some T → T.map ftx = ps
  | [], T, h => by
    injection h with h
    subst h
    rfl
  | p :: ps, T, h => by
    rw [alls] at h
    split at h
    · cases h
    · next f hf =>
      split at h
      · cases h
      · next T' hT =>
        injection h with h
        subst h
        rw [List.map_cons, hr p f hf, alls_say r hr ps T' hT]
/-- a list's facts, one by one -/
def atF (T : List Fc) (j : Nat) : Fc := T.getD j ⟨0, 0, 0, false⟩
def tokL (T : List Fc) : Bool := tokB T.length (atF T)
theorem seqF_atF (T : List Fc) : seqF (atF T) T.length = T := by
  unfold seqF atF
  apply List.ext_getElem
  · simp
  · intro i h1 h2
    simp [List.getD_eq_getElem?_getD, List.getElem?_eq_getElem h2]
/-- a table's text -/
def txL (T : List Fc) : List UInt8 := if tokL T = true then (if T = [] then [45] else ttx T) else []
theorem txt_txL (T : List Fc) : txt T.length (atF T) = bs (txL T) := by
  unfold txt txL tokL
  by_cases h : tokB T.length (atF T) = true
  · rw [if_pos h, if_pos h, seqF_atF]
    cases T with
    | nil => rfl
    | cons f T => simp
  · rw [if_neg h, if_neg h]
/-- what the program reads in a table's text -/
def pt (s : List UInt8) : Option (List Fc) := if s = [45] then some [] else match alls pf (cutL 44 s) with
  | none => none
  | some T => if tokL T = true then some T else none
/-- what the model reads in it -/
def mt (s : List UInt8) : Option (List Fc) := if s = [45] then some [] else match alls mf (cutL 44 s) with
  | none => none
  | some T => if txL T = s then some T else none
theorem allB_fok {len : Nat} {F : Nat → Fc} (h : tokB len F = true) : ∀ j, j < len → fok (F j) = true := (tok_all h).1
theorem tokL_fok {T : List Fc} (h : tokL T = true) : ∀ f ∈ T, fok f = true := by
  intro f hf
  obtain ⟨i, hi, e⟩ := List.getElem_of_mem hf
  have := allB_fok h i hi
  rw [atF, List.getD_eq_getElem?_getD, List.getElem?_eq_getElem hi] at this
  rw [← e]
  exact this
theorem cut_ttx {T : List Fc} (hT : ∀ f ∈ T, fok f = true) (hn : T ≠ []) : cutL 44 (ttx T) = T.map ftx := by
  unfold ttx
  refine cutL_join 44 _ (by simpa using hn) (fun p hp => ?_)
  obtain ⟨f, hf, e⟩ := List.mem_map.1 hp
  rw [← e]
  exact ftx_miss (hT f hf)
theorem pt_say {s : List UInt8} {T : List Fc} (h : pt s = some T) : tokL T = true ∧ txL T = s := by
  unfold pt at h
  split at h
  · next e =>
    injection h with h
    subst h
    subst e
    exact ⟨rfl, rfl⟩
  · split at h
    · cases h
    · next T' hT =>
      split at h
      · next ht =>
        injection h with h
        subst h
        have e := alls_say pf (fun s f => pf_say) _ _ hT
        have hn : T' ≠ [] := by
          intro e0
          subst e0
          exact cutL_ne 44 s e.symm
        refine ⟨ht, ?_⟩
        unfold txL
        rw [if_pos ht, if_neg hn, ttx, e, join_cutL 44 s.length s (Nat.le_refl _)]
      · cases h
theorem say_pt {s : List UInt8} {T : List Fc} (hk : tokL T = true) (hs : txL T = s) : pt s = some T ∧ mt s = some T := by
  have hs0 := hs
  unfold txL at hs
  rw [if_pos hk] at hs
  by_cases hn : T = []
  · subst hn
    subst hs
    exact ⟨rfl, rfl⟩
  · rw [if_neg hn] at hs
    have hf := tokL_fok hk
    have hc := cut_ttx hf hn
    rw [hs] at hc
    have h45 : ¬ s = [45] := by
      intro e
      rw [e] at hc
      rw [show cutL 44 [45] = [[45]] from rfl] at hc
      cases T with
      | nil => exact hn rfl
      | cons f T =>
        rw [List.map_cons] at hc
        injection hc with h1 h2
        have h3 := ftx_form f
        rw [← h1] at h3
        have : (58 : UInt8) ∈ [(45 : UInt8)] := by rw [h3]; simp
        exact absurd this (by decide)
    constructor
    · unfold pt
      rw [if_neg h45, hc, alls_map pf T (fun f h => pf_ftx (hf f h))]
      simp only
      rw [if_pos hk]
    · unfold mt
      rw [if_neg h45, hc, alls_map mf T (fun f h => mf_ftx (hf f h))]
      simp only
      rw [if_pos hs0]
end Go.Proofs.YtibnojbhoepcdaaGreatDoor
