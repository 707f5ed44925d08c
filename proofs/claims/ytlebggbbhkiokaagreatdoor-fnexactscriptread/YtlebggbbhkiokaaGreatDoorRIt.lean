/- The lines of a text, one by one: the program's iterator. -/
import Derived.RangeFuncNested
import Derived.RangeFuncBound
import Derived.RangeFuncCalls
import Derived.RangeFuncLeaves
import Derived.Shelf.Abstract
import Derived.Shelf.RegionOpen
import Derived.WalkKit
import Derived.OwnWalkIn
import Derived.TacticsInMore
import Derived.LoopNIn
import Derived.LoopIn
import Derived.Maps.AppendAt
import Derived.Test.YtlebggbbhkiokaaGreatDoorRSev
namespace Go.Proofs.YtlebggbbhkiokaaGreatDoor
/-- a line, with its end where it has one -/
def ln (P : List (List UInt8)) (j : Nat) : List UInt8 := if j + 1 < P.length then P.getD j [] ++ [10] else P.getD j []
/-- how many lines there are -/
def lnM (P : List (List UInt8)) : Nat := if P.getLastD [] = [] then P.length - 1 else P.length
/-- the first lines, each with its place -/
def lnsK (P : List (List UInt8)) (k : Nat) : List (Nat × List UInt8) := (List.range k).map fun j => (j, ln P j)
theorem lnsK_succ (P : List (List UInt8)) (k : Nat) : lnsK P (k + 1) = lnsK P k ++ [(k, ln P k)] := by simp [lnsK, List.range_succ]
theorem lnsK_len (P : List (List UInt8)) (k : Nat) : (lnsK P k).length = k := by simp [lnsK]
theorem lnsK_pre (P : List (List UInt8)) {k m : Nat} (h : k ≤ m) : ∃ r, lnsK P m = lnsK P k ++ r := by
  obtain ⟨d, rfl⟩ : ∃ d, m = k + d := ⟨m - k, by omega⟩
  refine ⟨((List.range d).map (k + ·)).map fun j => (j, ln P j), ?_⟩
  unfold lnsK
  rw [List.range_add, List.map_append]
/-- what is left when k lines are told -/
def RestL (P : List (List UInt8)) (k : Nat) (r : List UInt8) : Prop := (k < P.length ∧ cutL 10 r = P.drop k) ∨ (k = P.length ∧ r = [] ∧ P.getLastD [] ≠ [])
theorem cut_one (r : List UInt8) (h : cutL 10 r = [[]]) : r = [] := by
  rcases cutL_split 10 r with hf | ⟨a, q, rfl, ha⟩
  · rw [cutL_free 10 r hf] at h
    simpa using h
  · rw [cutL_hit 10 a q ha] at h
    exact absurd (by simpa using h) (fun e : a = [] ∧ cutL 10 q = [] => cutL_ne 10 q e.2)
theorem drop_last {P : List (List UInt8)} {k : Nat} {x : List UInt8} (h : P.drop k = [x]) : k + 1 = P.length ∧ P.getLastD [] = x ∧ P.getD k [] = x := by
  have hl : P.length - k = 1 := by have := congrArg List.length h; simpa using this
  have hk : k + 1 = P.length := by omega
  have hg : P[k]? = some x := by
    have := congrArg (fun l => l[0]?) h
    simpa using this
  refine ⟨hk, ?_, by simp [List.getD_eq_getElem?_getD, hg]⟩
  rw [List.getLastD_eq_getLast?, List.getLast?_eq_getElem?, show P.length - 1 = k by omega, hg]
  rfl
theorem rest_end {P : List (List UInt8)} {k : Nat} (h : RestL P k []) : k = lnM P := by
  unfold lnM
  rcases h with ⟨hk, hc⟩ | ⟨hk, _, hl⟩
  · obtain ⟨a, b, _⟩ := drop_last (x := []) (by rw [← hc]; rfl)
    rw [b, if_pos rfl]
    omega
  · rw [if_neg hl]
    exact hk
theorem rest_hit {P : List (List UInt8)} {k : Nat} {a r : List UInt8} (h : RestL P k (a ++ 10 :: r)) (ha : (10 : UInt8) ∉ a) : ln P k = a ++ [10] ∧ RestL P (k + 1) r ∧ k < lnM P := by
  rcases h with ⟨hk, hc⟩ | ⟨_, e, _⟩
  · rw [cutL_hit 10 a r ha] at hc
    have hd : P.drop (k + 1) = cutL 10 r := by rw [← List.tail_drop, ← hc]; rfl
    have hg : P[k]? = some a := by
      have := congrArg (fun l => l[0]?) hc
      simpa using this.symm
    have hlen : k + 1 < P.length := by
      have h1 := congrArg List.length hd
      have h2 := List.length_pos_iff.2 (cutL_ne 10 r)
      simp at h1
      omega
    refine ⟨?_, .inl ⟨hlen, hd.symm⟩, ?_⟩
    · unfold ln
      rw [if_pos hlen]
      simp [List.getD_eq_getElem?_getD, hg]
    · unfold lnM
      split <;> omega
  · simp at e
theorem rest_free {P : List (List UInt8)} {k : Nat} {r : List UInt8} (h : RestL P k r) (ha : (10 : UInt8) ∉ r) (h0 : r ≠ []) : ln P k = r ∧ RestL P (k + 1) [] ∧ k < lnM P := by
  rcases h with ⟨hk, hc⟩ | ⟨_, e, _⟩
  · rw [cutL_free 10 r ha] at hc
    obtain ⟨a, b, c⟩ := drop_last hc.symm
    have hne : P.getLastD [] ≠ [] := by rw [b]; exact h0
    refine ⟨?_, .inr ⟨a, rfl, hne⟩, ?_⟩
    · unfold ln
      rw [if_neg (by omega), c]
    · unfold lnM
      rw [if_neg hne]
      exact hk
  · exact absurd e h0
theorem lnM_le (T : List UInt8) : lnM (cutL 10 T) ≤ T.length + 1 := by
  have := cutL_len 10 T.length T (Nat.le_refl _)
  unfold lnM
  split <;> omega
open Go.RowKit Go.Shelf
attribute [local go_sem] Oper.semAt_some
theorem below_grow' {w : World} (k : Nat) : Below w.heap.size w (w.drewN k) := ⟨rfl, by simp, rfl, by simp, fun i hi => by simp⟩
theorem cut_any (r a b : List UInt8) (q : Bool) (hr : r.length ≤ 4000) (h : Lib.cut r [10] = (a, b, q)) (m : Int) (w : World) (hm : w.cell? ⟨2, 0, none⟩ = some (.int .i64 m)) :
    Calls Tryz.prog 26 #[.string (bs r), .string (bs [10])] w fun e w' => e = .returned (.tuple #[.string (bs a), .string (bs b), .bool q]) ∧ Below w.heap.size w w' := by
  refine (Tryz.strings_Cut (bs r) (bs [10]) m w (by rw [bs_size]; omega) hm).mono ?_
  rintro e w' ⟨rfl, n, rfl⟩
  refine ⟨?_, below_grow' n⟩
  show Ending.returned (.tuple #[.string (bs (Lib.cut r [10]).1), .string (bs (Lib.cut r [10]).2.1), .bool (Lib.cut r [10]).2.2]) = _
  rw [h]
set_option maxRecDepth 100000 in
set_option maxHeartbeats 4000000 in
theorem num1_in (n : Nat) (l Bt n0 : Nat) (T : List UInt8) (w0 : World) (hT : T.length ≤ 4000) (hn0 : n0 ≤ w0.heap.size) (m : Int) (h2 : 2 < n0) (hm : w0.cell? ⟨2, 0, none⟩ = some (.int .i64 m)) (cBt : w0.cell? ⟨Bt, 0, none⟩ = some (.string (bs T))) (hBt : Bt < w0.heap.size)
    (J Jx : List (Nat × List UInt8) → World → Prop) (W : World) (hW : Below w0.heap.size w0 W) (hJ : AbidesFrom W.heap.size J)
    (hY : ∀ pre x W1, x.2.length ≤ 4001 → J pre W1 → pre.length < 4002 → YieldAt Fence.wide (n - 1) Tryz.prog l #[.int .i64 ((x.1 : Int) + 1), .string (bs x.2)] W1 fun e W' =>
      (e = .returned (.bool true) ∧ J (pre ++ [x]) W' ∧ Below n0 W1 W') ∨ (e = .returned (.bool false) ∧ Jx (pre ++ [x]) W'))
    (h0 : J [] W) :
    CallsIn Fence.wide n Tryz.prog 25 #[.func (.yield l) #[] #[], .pointer (some ⟨Bt, 0, none⟩)] W fun e W' => (∃ v, e = .returned v) ∧
      ((∃ ys, ys = lnsK (cutL 10 T) (lnM (cutL 10 T)) ∧ J ys W') ∨ (∃ pre, (∃ r, lnsK (cutL 10 T) (lnM (cutL 10 T)) = pre ++ r) ∧ Jx pre W')) := by
  have hJb : ∀ (s : List (Nat × List UInt8)) (A B : World), J s A → Below A.heap.size A B → J s B := fun s A B hs hb => hJ s A B none hs ⟨hb.os, hb.tape, hb.output, hb.size, fun k hk _ => hb.block k hk⟩ (by simp)
  have cT := (hW.cell (p := ⟨Bt, 0, none⟩) hBt).trans cBt
  have hB0 : Below n0 w0 W := hW.mono hn0
  refine callsIn_of_wp Tryz.func25 rfl trivial ?_ rfl
  simp only [Tryz.ntmps25, List.size_toArray, List.length_cons, List.length_nil, Nat.reduceAdd, Nat.reduceSub, Array.replicate_succ, Array.replicate_zero, List.push_toArray, List.append_toArray, List.nil_append, List.cons_append]
  obtain ⟨P, hP⟩ : ∃ P, Hid (cutL 10 T = P) := ⟨_, rfl⟩
  have hR0 : RestL P 0 T := .inl ⟨by rw [← hP.out]; exact List.length_pos_iff.2 (cutL_ne 10 T), by rw [hP.out]; rfl⟩
  have hMl : lnM P ≤ 4001 := by rw [← hP.out]; have := lnM_le T; omega
  gi_wp2
  gi_loopw [3, 4] (fun v i wr => ∃ (k : Nat) (r : List UInt8), v = .string (bs r) ∧ i = .int .i64 ((k : Int) + 1) ∧ Hid (RestL P k r) ∧ r.length ≤ 4000 ∧ k ≤ lnM P ∧ J (lnsK P k) wr ∧ Below n0 w0 wr) (fun _ i _ => lnM P + 2 - (intOf i).toNat)
  case atStart => exact ⟨0, T, rfl, rfl, hR0, hT, Nat.zero_le _, h0, hB0⟩
  case round =>
    obtain ⟨k, r, rfl, rfl, hrest, hrl, hk, hJs, hb⟩ := hrel
    clear cT cBt
    by_cases hr0 : r = []
    · subst hr0
      have e1 := rest_end hrest.out
      have hz : (ByteArray.toList (bs []) == ByteArray.toList (bs [])) = true := by simp
      gi_wp2
      go_end0
      exact ⟨⟨_, rfl⟩, .inl ⟨_, by rw [hP.out, ← e1], hJs⟩⟩
    · rcases cutL_split 10 r with hf | ⟨a, q, rfl, ha⟩
      · skip
        have hcut := cut_free 10 r hf
        obtain ⟨e1, e2, e3⟩ := rest_free hrest.out hf hr0
        have e2' : Hid (RestL P (k + 1) []) := e2
        have hC := cut_any r r ([] : List UInt8) false hrl hcut m wr ((hb.cell (p := ⟨2, 0, none⟩) h2).trans hm)
        have hs := lnsK_succ P k
        rw [e1] at hs
        clear hcut e1 e2 hrest
        obtain ⟨xr, hxr⟩ : ∃ x, bs r = x := ⟨_, rfl⟩
        obtain ⟨xb, hxb⟩ : ∃ x, Hid (bs ([] : List UInt8) = x) := ⟨bs ([] : List UInt8), Eq.refl _⟩
        rw [hxb.out] at hC
        have hz : (xr.toList == []) = false := by rw [← hxr, beq_eq_false_iff_ne, ByteArray.toList_eq]; exact hr0
        rw [hxr] at hC ⊢
        have hxr' : Hid _ := hxr
        clear hxr
        gi_wp2_with fail
        refine ⟨trivial, by simp [Fence.wide], ?_⟩
        refine (callsIn_wide.2 hC).mono ?_
        rintro e W2 ⟨rfl, b2⟩
        have hJ2 := hJb _ _ _ hJs b2
        have hb2 : Below n0 w0 W2 := hb.trans (b2.mono (by have := hb.size; omega))
        clear hC b2
        obtain ⟨fn, tmps, assign, body, hy, hR⟩ := hY (lnsK P k) (k, r) _ (by show r.length ≤ _; omega) hJ2 (by rw [lnsK_len]; omega)
        dsimp only at hy
        rw [hxr'.out] at hy
        gi_wp2_with fail
        refine ⟨by simp [Fence.wide], ?_⟩
        refine hR.mono ?_
        rintro e W4 (⟨rfl, hJ4, hk4⟩ | ⟨rfl, hJx4⟩)
        · gi_wp2
          go_roundw
          case rel => exact ⟨k + 1, [], by rw [hxb.out], by go_num, e2', by first | exact hql | simp, by omega, by rw [hs]; exact hJ4, hb2.trans hk4⟩
          case measure => simp [intOf]; omega
        · gi_wp2
          refine bodyPost_ret (results_none rfl _ _ _) rfl ?_
          refine ⟨⟨_, rfl⟩, .inr ⟨_, ?_, hJx4⟩⟩
          rw [hP.out, ← hs]
          exact lnsK_pre P (by omega)
      · skip
        have hcut := cut_hit 10 a q ha
        obtain ⟨e1, e2, e3⟩ := rest_hit hrest.out ha
        have hql : q.length ≤ 4000 := by simp at hrl; omega
        have hal : a.length ≤ 4000 := by simp at hrl; omega
        have e2' : Hid (RestL P (k + 1) q) := e2
        have hC := cut_any (a ++ 10 :: q) a q true hrl hcut m wr ((hb.cell (p := ⟨2, 0, none⟩) h2).trans hm)
        have hs := lnsK_succ P k
        rw [e1] at hs
        clear hcut e1 e2 hrest
        obtain ⟨xr, hxr⟩ : ∃ x, bs (a ++ 10 :: q) = x := ⟨_, rfl⟩
        obtain ⟨xa, hxa⟩ : ∃ x, Hid (bs a = x) := ⟨bs a, Eq.refl _⟩
        obtain ⟨xb, hxb⟩ : ∃ x, Hid (bs q = x) := ⟨bs q, Eq.refl _⟩
        rw [hxa.out, hxb.out] at hC
        have hz : (xr.toList == []) = false := by rw [← hxr, beq_eq_false_iff_ne, ByteArray.toList_eq]; simp
        rw [hxr] at hC ⊢
        have ka : ¬ 9223372036854775807 < xa.size + 1 := by rw [← hxa.out, bs_size]; omega
        have hxl : Hid (bs (a ++ [10]) = xa ++ bs [10]) := by unfold Hid; rw [← hxa.out, bs_append]
        clear hxr
        gi_wp2_with fail
        refine ⟨trivial, by simp [Fence.wide], ?_⟩
        refine (callsIn_wide.2 hC).mono ?_
        rintro e W2 ⟨rfl, b2⟩
        have hJ2 := hJb _ _ _ hJs b2
        have hb2 : Below n0 w0 W2 := hb.trans (b2.mono (by have := hb.size; omega))
        clear hC b2
        obtain ⟨fn, tmps, assign, body, hy, hR⟩ := hY (lnsK P k) (k, (a ++ [10])) _ (by show (a ++ [10]).length ≤ _; simp; omega) hJ2 (by rw [lnsK_len]; omega)
        dsimp only at hy
        rw [hxl.out] at hy
        gi_wp2_with fail
        refine ⟨by simp [Fence.wide], ?_⟩
        refine hR.mono ?_
        rintro e W4 (⟨rfl, hJ4, hk4⟩ | ⟨rfl, hJx4⟩)
        · gi_wp2
          go_roundw
          case rel => exact ⟨k + 1, q, by rw [hxb.out], by go_num, e2', by first | exact hql | simp, by omega, by rw [hs]; exact hJ4, hb2.trans hk4⟩
          case measure => simp [intOf]; omega
        · gi_wp2
          refine bodyPost_ret (results_none rfl _ _ _) rfl ?_
          refine ⟨⟨_, rfl⟩, .inr ⟨_, ?_, hJx4⟩⟩
          rw [hP.out, ← hs]
          exact lnsK_pre P (by omega)
end Go.Proofs.YtlebggbbhkiokaaGreatDoor
