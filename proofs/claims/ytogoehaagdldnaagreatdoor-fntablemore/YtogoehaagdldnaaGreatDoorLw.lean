/- Tables as lists: what each function answers; two drawn tables. -/
import Derived.Test.YtogoehaagdldnaaGreatDoorTxt3
import Derived.Test.YtogoehaagdldnaaGreatDoorAlg
import Derived.Test.YtogoehaagdldnaaGreatDoorDrawTP
namespace Go.Proofs.YtogoehaagdldnaaGreatDoor
open Go.ChangeShapes Go.WideShapes Go.ChangeAt Go.RowKit
attribute [local go_sem ↓] Go.wp_at_zero Go.wp_at_succ
abbrev gd (T : List Fc) : Nat → Fc := fun k => T.getD k Fc.zero
/-- a slice that holds a list of facts -/
def FS (w : World) (a : Option Addr) (T : List Fc) : Prop := FSl w a T.length (gd T)
theorem FS.below {w w' : World} {a : Option Addr} {T : List Fc} (h : FS w a T) (hb : Below w.heap.size w w') : FS w' a T := FSl.below h hb
/-- .. and is not nil -/
def NN (w : World) (a : Option Addr) : Prop := ∃ b off, a = some ⟨b, off, none⟩ ∧ b < w.heap.size
theorem NN.below {w w' : World} {a : Option Addr} (h : NN w a) (hb : Below w.heap.size w w') : NN w' a := by
  obtain ⟨b, off, e, hl⟩ := h
  exact ⟨b, off, e, by have := hb.size; omega⟩
def okT (T : List Fc) : Bool := tokB T.length (gd T)
def jn (T U : List Fc) : List Fc := tj T.length (gd T) U.length (gd U)
theorem jn_len (T U : List Fc) : (jn T U).length ≤ 8 := tj_len _ _ _ _
theorem okT_tbl {T : List Fc} (h : okT T = true) : Tbl T := by
  obtain ⟨t1, t2⟩ := tok_all h
  have hA := seqF_asc t2 T.length (Nat.le_refl _)
  have hO := seqF_ok t1
  rw [seqF_getD_self] at hA hO
  exact ⟨hA, hO⟩
theorem tbl_okT {T : List Fc} (h : Tbl T) : okT T = true := by
  unfold okT tokB allB ascB
  rw [Bool.and_eq_true, decide_eq_true_iff, decide_eq_true_iff]
  refine ⟨fun k hk => h.2 _ (by simp [gd, List.getD, hk]), fun k hk h0 => getD_asc h.1 (k - 1) k (by omega) hk⟩
theorem jn_eq {T U : List Fc} (h : okT T = true) (k : okT U = true) : jn T U = tjoin T U := by
  unfold jn tj
  unfold okT at h k
  rw [h, k, seqF_getD_self, seqF_getD_self]
  rfl
theorem jn_no {T U : List Fc} (h : ¬ (okT T = true ∧ okT U = true)) : jn T U = [] := by
  unfold jn tj
  rw [if_neg]
  intro e
  rw [Bool.and_eq_true] at e
  exact h e
theorem jn_comm (T U : List Fc) : jn T U = jn U T := by
  by_cases h : okT T = true ∧ okT U = true
  · rw [jn_eq h.1 h.2, jn_eq h.2 h.1, join_comm (okT_tbl h.1) (okT_tbl h.2)]
  · rw [jn_no h, jn_no (fun z => h ⟨z.2, z.1⟩)]
theorem ljoin (a : Option Addr) (c : Nat) (T : List Fc) (a2 : Option Addr) (c2 : Nat) (U J : List Fc) (w : World) (h : FS w a T) (h2 : FS w a2 U) (hl : T.length ≤ 8) (hl2 : U.length ≤ 8) (hJ : jn T U = J) :
    Calls Tryz.prog 10 #[.slice a T.length c, .slice a2 U.length c2] w fun e w' => ∃ a' c', e = .returned (.slice a' J.length c') ∧ FS w' a' J ∧ Below w.heap.size w w' := by
  subst hJ
  refine (fjoin_any a T.length c (gd T) a2 U.length c2 (gd U) w h h2 (by omega) (by omega)).mono ?_
  rintro e w' ⟨v, rfl, o, b⟩
  obtain ⟨a', c', rfl, _, _, hf⟩ := own_facts o
  exact ⟨a', c', rfl, hf, b⟩
theorem lsjoin (a : Option Addr) (c : Nat) (T : List Fc) (a2 : Option Addr) (c2 : Nat) (U J : List Fc) (w : World) (h : FS w a T) (hn : NN w a) (h2 : FS w a2 U) (hl : T.length ≤ 8) (hl2 : U.length ≤ 8) (hJ : jn T U = J) :
    Calls Tryz.prog 12 #[.slice a T.length c, .slice a2 U.length c2] w fun e w' => ∃ a' c', e = .returned (.slice a' J.length c') ∧ (FS w' a' J ∧ NN w' a') ∧ Below w.heap.size w w' := by
  subst hJ
  obtain ⟨b0, off, rfl, hb0⟩ := hn
  refine (sjoin_any b0 off T.length c (gd T) a2 U.length c2 (gd U) w (fun k hk => by
    obtain ⟨b', off', e, _, hh⟩ := h (by omega)
    simp only [Option.some.injEq, Addr.mk.injEq, and_true] at e
    obtain ⟨rfl, rfl⟩ := e
    exact hh k hk) hb0 h2 (by omega) (by omega)).mono ?_
  rintro e w' ⟨v, rfl, o, hv, b⟩
  obtain ⟨a', c', rfl, _, _, hf⟩ := own_facts o
  refine ⟨a', c', rfl, ⟨hf, ?_⟩, b⟩
  rcases own_sliceF o with ⟨e, _⟩ | ⟨g, cc, e, _, hg2, _⟩
  · exact absurd e hv
  · simp only [Value.slice.injEq] at e
    exact ⟨g, 0, e.1, hg2⟩
theorem ltext (a : Option Addr) (c : Nat) (T : List Fc) (x : ByteArray) (w : World) (h : FS w a T) (hl : T.length ≤ 8) (ht : Tabs w) (hx : txt T.length (gd T) = x) :
    Calls Tryz.prog 13 #[.slice a T.length c] w fun e w' => e = .returned (.string x) ∧ Below w.heap.size w w' := hx ▸ text_any a T.length c (gd T) w h (by omega) ht
theorem lstext (a : Option Addr) (c : Nat) (T : List Fc) (x : ByteArray) (w : World) (h : FS w a T) (hl : T.length ≤ 8) (hx : txt T.length (gd T) = x) :
    Calls Tryz.prog 14 #[.slice a T.length c] w fun e w' => e = .returned (.string x) ∧ Below w.heap.size w w' := hx ▸ stext_any a T.length c (gd T) w h (by omega)
theorem lok (a : Option Addr) (c : Nat) (T : List Fc) (q : Bool) (w : World) (h : FS w a T) (hl : T.length ≤ 8) (hq : okT T = q) :
    Calls Tryz.prog 15 #[.slice a T.length c] w fun e w' => e = .returned (.bool q) ∧ Below w.heap.size w w' := tok_lit a T.length c (gd T) q w h (by omega) hq
theorem lsok (a : Option Addr) (c : Nat) (T : List Fc) (q : Bool) (w : World) (h : FS w a T) (hl : T.length ≤ 8) (hq : okT T = q) :
    Calls Tryz.prog 16 #[.slice a T.length c] w fun e w' => e = .returned (.bool q) ∧ Below w.heap.size w w' := stok_lit a T.length c (gd T) q w h (by omega) hq
theorem llh (a : Option Addr) (c : Nat) (a2 : Option Addr) (c2 : Nat) (T : List Fc) (w : World) (h : FS w a T) (h2 : FS w a2 T) (hl : T.length ≤ 8) :
    Calls Tryz.prog 11 #[.slice a T.length c, .slice a2 T.length c2] w fun e w' => e = .returned (.bool true) ∧ Below w.heap.size w w' := lh_same a a2 T.length c c2 (gd T) w h h2 (by omega)
/-- two lists of facts -/
def TJPost (w : World) (r : Ending) (w' : World) : Prop :=
  ∃ (a1 : Option Addr) (c1 : Nat) (T : List Fc) (a2 : Option Addr) (c2 : Nat) (U : List Fc), r = .returned (.tuple #[.slice a1 T.length c1, .slice a2 U.length c2]) ∧ FS w' a1 T ∧ NN w' a1 ∧ FS w' a2 U ∧ NN w' a2 ∧ T.length ≤ 8 ∧ U.length ≤ 8 ∧ Below w.heap.size w w'
theorem nn_own {w : World} {base n : Nat} {a : Option Addr} {c : Nat} {xs : List Value} (h : w.ownsRow base 33 4 (.slice a n c) n xs) (hv : Value.slice a n c ≠ .slice none 0 0) : NN w a := by
  rcases own_sliceF h with ⟨e, _⟩ | ⟨g, cc, e, _, hg2, _⟩
  · exact absurd e hv
  · simp only [Value.slice.injEq] at e
    exact ⟨g, 0, e.1, hg2⟩
theorem fs_own {w : World} {base : Nat} {a : Option Addr} {c : Nat} {T : List Fc} (h : w.ownsRow base 33 4 (.slice a T.length c) T.length (fl T)) : FS w a T := by
  obtain ⟨a', c', e, _, _, hf⟩ := own_facts h
  simp only [Value.slice.injEq] at e
  rw [e.1]
  exact hf
set_option maxRecDepth 20000 in
set_option maxHeartbeats 2000000 in
theorem drawTJ_any (a : Option Addr) (len cap : Nat) (w : World) (h : Bytes w.heap.size w a len) (hl : len ≤ cap) :
    Calls Tryz.prog 9 #[.slice a len cap] w (TJPost w) := by
  go_enter Tryz.func9, Tryz.ntmps9
  go_wp2_with fail
  refine (open_any w.heap.size a len cap _ (Nat.le_refl _) h hl).mono ?_
  rintro r w1 ⟨rfl, ⟨C, r1⟩, B1, z1⟩
  have r1lt := r1.lt
  go_wp2_with fail
  refine (anyTable_any w.heap.size w.heap.size 0 _ r1 (by omega)).mono ?_
  rintro r w2 ⟨a2, c2, T, q, rfl, hn, o2, hT, hq, r2, f2⟩
  have B2 := Off.belowAll B1 f2 (Nat.le_refl _)
  have s2 := f2.size
  clear f2 r1
  go_wp2_with fail
  refine (anyTable_any w.heap.size w.heap.size q _ r2 (by omega)).mono ?_
  rintro r w3 ⟨a3, c3, U, q3, rfl, hn3, o3, hU, hq3, r3, f3⟩
  have B3 := Off.belowAll B2 f3 (Nat.le_refl _)
  replace o2 := own_off o2 f3 (by omega)
  clear f3 r2
  go_wp2
  exact bodyPost_ret (v := .tuple #[.slice a2 T.length c2, .slice a3 U.length c3]) (by simp [results, Tryz.results9, go_sem]) rfl ⟨_, _, _, _, _, _, rfl, fs_own o2, nn_own o2 hn, fs_own o3, nn_own o3 hn3, by omega, by omega, B3⟩
end Go.Proofs.YtogoehaagdldnaaGreatDoor
