/- A table with a fact more, as lists; a drawn table and fact. -/
import Derived.Test.YtogoehaagdldnaaGreatDoorKept
namespace Go.Proofs.YtogoehaagdldnaaGreatDoor
open Go.ChangeShapes Go.WideShapes Go.ChangeAt Go.RowKit
attribute [local go_sem ↓] Go.wp_at_zero Go.wp_at_succ
def pt (T : List Fc) (f : Fc) : List Fc := tpT T.length (gd T) f
def pq (T : List Fc) (f : Fc) : Bool := tpQ T.length (gd T) f
theorem pt_eq {T : List Fc} {f : Fc} (h : okT T = true) (hf : fok f = true) : pt T f = tput T f := by
  unfold pt tpT
  unfold okT at h
  rw [h, hf, seqF_getD_self]
  rfl
theorem pq_eq {T : List Fc} {f : Fc} (h : okT T = true) (hf : fok f = true) : pq T f = tnew T f := by
  unfold pq tpQ
  unfold okT at h
  rw [h, hf, seqF_getD_self]
  rfl
theorem pt_no {T : List Fc} {f : Fc} (h : ¬ (okT T = true ∧ fok f = true)) : pt T f = [] ∧ pq T f = false := by
  have e : (tokB T.length (gd T) && fok f) = false := by
    cases h1 : (tokB T.length (gd T) && fok f)
    · rfl
    · rw [Bool.and_eq_true] at h1
      exact absurd h1 h
  unfold pt pq tpT tpQ
  rw [e]
  exact ⟨rfl, rfl⟩
theorem pt_len {T : List Fc} {f : Fc} : (pt T f).length ≤ 8 := by
  by_cases h : okT T = true ∧ fok f = true
  · rw [pt_eq h.1 h.2]
    have t := okT_tbl h.1
    have k : Tbl (tput T f) := ⟨tput_asc t.1, fun g hg => by
      rcases tput_mem hg with rfl | hg
      · exact h.2
      · exact t.2 g hg⟩
    exact tok_len (tbl_okT k)
  · rw [(pt_no h).1]
    simp
theorem one_tbl {f : Fc} (hf : fok f = true) : Tbl [f] := ⟨List.pairwise_singleton _ _, fun g hg => by simp at hg; rw [hg]; exact hf⟩
theorem pt_jn {T : List Fc} {f : Fc} (h : okT T = true) (hf : fok f = true) : jn T [f] = pt T f := by
  rw [jn_eq h (tbl_okT (one_tbl hf)), pt_eq h hf]
  rfl
theorem lput (a : Option Addr) (c : Nat) (T : List Fc) (f : Fc) (X : List Fc) (q : Bool) (w : World) (h : FS w a T) (hl : T.length ≤ 8) (hX : pt T f = X) (hq : pq T f = q) :
    Calls Tryz.prog 18 #[.slice a T.length c, .agg #[.int .i64 f.n, .int .i64 f.i, .int .i64 f.s, .bool f.g]] w fun e w' => ∃ a' c', e = .returned (.tuple #[.slice a' X.length c', .bool q]) ∧ FS w' a' X ∧ Below w.heap.size w w' := by
  subst hX hq
  refine (fput_any a T.length c (gd T) f w h (by omega)).mono ?_
  rintro e w' ⟨v, rfl, o, b⟩
  obtain ⟨a', c', rfl, _, _, hf⟩ := own_facts o
  exact ⟨a', c', rfl, hf, b⟩
theorem lsput (a : Option Addr) (c : Nat) (T : List Fc) (f : Fc) (X : List Fc) (q : Bool) (w : World) (h : FS w a T) (hn : NN w a) (hl : T.length ≤ 8) (hc : T.length ≤ c) (hX : pt T f = X) (hq : pq T f = q) :
    Calls Tryz.prog 19 #[.slice a T.length c, .agg #[.int .i64 f.n, .int .i64 f.i, .int .i64 f.s, .bool f.g]] w fun e w' => ∃ a' c', e = .returned (.tuple #[.slice a' X.length c', .bool q]) ∧ FS w' a' X ∧ Below w.heap.size w w' := by
  subst hX hq
  refine (sput_any a T.length c (gd T) f w h (by omega) hn hc).mono ?_
  rintro e w' ⟨v, rfl, o, b⟩
  obtain ⟨a', c', rfl, _, _, hf⟩ := own_facts o
  exact ⟨a', c', rfl, hf, b⟩
theorem lsfok (f : Fc) (q : Bool) (w : World) (h : fok f = q) :
    Calls Tryz.prog 20 #[.agg #[.int .i64 f.n, .int .i64 f.i, .int .i64 f.s, .bool f.g]] w fun r w' => r = .returned (.bool q) ∧ Below w.heap.size w w' := by
  unfold fok at h
  subst h
  exact sfok_below f.n f.i f.s f.g w
theorem fs_one {w : World} {b : Nat} {f : Fc} (h : w.heap[b]? = some (.cells #[.int .i64 f.n, .int .i64 f.i, .int .i64 f.s, .bool f.g] 33 (0, 0))) : FS w (some ⟨b, 0, none⟩) [f] := fun _ =>
  ⟨b, 0, rfl, lt_of_block h, fun k hk => by
    have : k = 0 := by simpa using hk
    subst this
    exact ⟨cell_block (o := 0) h rfl, cell_block (o := 1) h rfl, cell_block (o := 2) h rfl, cell_block (o := 3) h rfl⟩⟩
/-- a list of facts and a fact -/
def TPP (w : World) (r : Ending) (w' : World) : Prop :=
  ∃ (a : Option Addr) (c : Nat) (T : List Fc) (f : Fc), r = .returned (.tuple #[.slice a T.length c, .agg #[.int .i64 f.n, .int .i64 f.i, .int .i64 f.s, .bool f.g]]) ∧ FS w' a T ∧ NN w' a ∧ T.length ≤ 8 ∧ T.length ≤ c ∧ Below w.heap.size w w'
theorem drawTPL (a : Option Addr) (len cap : Nat) (w : World) (h : Bytes w.heap.size w a len) (hl : len ≤ cap) :
    Calls Tryz.prog 17 #[.slice a len cap] w (TPP w) := by
  refine (drawTP_any a len cap w h hl).mono ?_
  rintro r w' ⟨a', c', T, f, rfl, hn, o, hT, b⟩
  refine ⟨a', c', T, f, rfl, fs_own o, nn_own o hn, by omega, ?_, b⟩
  obtain ⟨_, _, e, hc, _, _⟩ := own_facts o
  simp only [Value.slice.injEq] at e
  omega
end Go.Proofs.YtogoehaagdldnaaGreatDoor
