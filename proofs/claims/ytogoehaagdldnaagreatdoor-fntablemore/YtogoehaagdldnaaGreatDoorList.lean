/- What a register tells; the program's TableOf, TablePut, TableJoin. -/
import Derived.Test.YtogoehaagdldnaaGreatDoorRegof
namespace Go.Proofs.YtogoehaagdldnaaGreatDoor
open Go.ChangeShapes Go.WideShapes Go.ChangeAt Go.RowKit
attribute [local go_sem ↓] Go.wp_at_zero Go.wp_at_succ
set_option maxRecDepth 20000 in
theorem tget_at : ∀ {T : List Fc} (k : Nat), Asc T → k < T.length → tget T (T.getD k Fc.zero).n = some (T.getD k Fc.zero)
  | [], k, _, h => by simp at h
  | g :: r, 0, _, _ => by rw [tget_cons]; simp
  | g :: r, k + 1, h, hk => by
    obtain ⟨h1, h2⟩ := asc_cons.1 h
    have hk' : k < r.length := by simpa using hk
    have e : (g :: r).getD (k + 1) Fc.zero = r.getD k Fc.zero := by simp
    rw [e, tget_cons, if_neg, tget_at k h2 hk']
    have := h1 (r.getD k Fc.zero) (by simp [List.getD, hk'])
    omega
set_option maxRecDepth 20000 in
theorem take_snoc (T : List Fc) (k : Nat) (h : k < T.length) : T.take (k + 1) = T.take k ++ [T.getD k Fc.zero] := by
  rw [List.take_add_one]
  simp [List.getD, h]
set_option maxRecDepth 20000 in
theorem wpList_lookup_fact0 {w : World} {ops : Array Oper} {rest : List Oper} {o : Oper} {a : Act} {Q : Exit → Act → World → Prop} (hg : o.guard = none) (m x : Operand) (hop : o.op = Op.lookup 54 m x false)
    (b n : Nat) (D : DataW Unit) (T : List Fc) (hm : a.eval m = .map (some b)) (hown : w.ownsMap Tryz.prog 3 fE b n D) (hT : Kept D T) (k : Int) (hx : a.eval x = .int .i64 k) (hk : (Lit.int .i64 k).wf = true)
    (g : Fc) (hgk : (tget T k).getD Fc.zero = g) (hK : wpList Tryz.prog ops Q rest (a.put o.dst (fval g)) w) :
    wpList Tryz.prog ops Q (o :: rest) a w := by
  refine wpList_plain hg fun K' hK' => ?_
  obtain ⟨v, ps, hrun, hv⟩ := hown.lookup keyed3 Tryz.underlying54 (zero30 w) (fE_mk Fc.zero) (Maps.keyOf_int_mk Tryz.underlying3 hk)
  obtain ⟨f, rfl, hz⟩ := fE_inv hv
  simp only [Prod.mk.injEq] at hz
  rw [(hT k).2, hgk] at hz
  rw [← fd_inj hz.1] at hrun
  unfold Oper.wp
  simp [execOp, hop, hm, hx, hrun, Result.andThen]
  exact hK' _ _ hK
set_option maxRecDepth 20000 in
set_option maxHeartbeats 2000000 in
theorem list_any (base rb c : Nat) (T : List Fc) (w : World) (hR : Reg w base rb c T) (hT : Asc T) (hok : ∀ g ∈ T, fok g = true) (hl : T.length ≤ 100) :
    Calls Tryz.prog 36 #[.pointer (some ⟨rb, 0, none⟩)] w fun e w' => ∃ v, e = .returned v ∧ w'.ownsRow w.heap.size 33 4 v T.length (fl T) ∧ Below w.heap.size w w' := by
  obtain ⟨ti, hi, hz0, hz1, hz2⟩ := info_parts info24
  obtain ⟨v, mb, D, h1, h2, h3, h4, h5, h6⟩ := hR
  have r0 := cell_block (o := 0) h1 rfl
  have h4' : w.ownsRow base 3 1 v (T.map (·.n)).length (lv (T.map (·.n))) := by rw [List.length_map]; exact h4
  obtain ⟨av, cv, rfl, _, hI⟩ := own_list h4'
  clear h4'
  simp only [List.length_map] at hI
  rw [List.length_map] at r0 h1
  clear h4
  go_enter Tryz.func36, Tryz.ntmps36
  go_wp2_with fail
  go_loopw [3, 5, 11] (fun x _ i wr => ∃ k : Nat, k ≤ T.length ∧ i = .int .i64 k ∧ wr.ownsRow w.heap.size 33 4 x k (fl (T.take k)) ∧ Below w.heap.size w wr) (fun _ _ i _ => T.length - (intOf i).toNat)
  case atStart => exact ⟨0, Nat.zero_le _, rfl, World.ownsRow_nil _ _ _ _, Below.refl _ _⟩
  case round =>
    obtain ⟨k, hk, rfl, hown, hb⟩ := hrel
    clear r0
    by_cases hlt : k < T.length
    · obtain ⟨b, off, rfl, hbl, hf⟩ := hI (by omega)
      have c1 : ((T.map (·.n)).getD k 0) = (T.getD k Fc.zero).n := by simp [List.getD, hlt]
      have c0 : wr.cell? ⟨b, off + k, none⟩ = some (.int .i64 (T.getD k Fc.zero).n) := by rw [← c1]; exact (hf.below hb hbl) k hlt
      clear c1
      have ts := take_snoc T k hlt
      have i0 : (0 : Int) ≤ (k : Int) := by omega
      have i1 : (k : Int) < (T.length : Int) := by omega
      have r1 := cell_block (o := 1) ((hb.block rb (lt_of_block h1)).trans h1) rfl
      have hk0 := tget_at k hT hlt
      have hfk : fok (T.getD k Fc.zero) = true := hok _ (tget_mem hk0).1
      have hmm := map_below h5 hb
      generalize T.getD k Fc.zero = f at *
      go_wp2_with (first | (at_lookup; refine wpList_lookup_fact0 rfl _ _ rfl mb c D T rfl hmm h6 f.n rfl (fok_wf hfk) f (by rw [hk0]; rfl) ?_) | (at_builtin; refine wpList_append_own _ rfl _ _ 23 rfl w.heap.size 33 ti (fval Fc.zero) 4 32 Tryz.underlying23 hi hz0 hz1 hz2 rfl (by decide) _ _ _ rfl (hown.alloc _) ⟨wr.heap.size, 0, none⟩ 1 1 [.int .i64 f.n, .int .i64 f.i, .int .i64 f.s, .bool f.g] rfl rfl ?c1 ?c2 ?c3 ?c4 ?c5 ?_))
      case c1 =>
        intro j u hj
        match j, hj with
        | 0, hj => simp at hj; subst hj; simp [Addr.add]
        | 1, hj => simp at hj; subst hj; simp [Addr.add]
        | 2, hj => simp at hj; subst hj; simp [Addr.add]
        | 3, hj => simp at hj; subst hj; simp [Addr.add]
      case c2 => intro u hu; simp at hu; rcases hu with rfl | rfl | rfl | rfl <;> rfl
      case c3 => unfold maxLen; omega
      case c4 => omega
      case c5 => have := hb.size; simp; omega
      · intro v' w2 hown' hgrow _
        have B2 := own_grow (balloc (.cells #[.int .i64 f.n, .int .i64 f.i, .int .i64 f.s, .bool f.g] 33) hb) (by have := hb.size; simp; omega) (hown.alloc _) hgrow
        clear hown hgrow hb c0 r1 hmm
        go_wp2
        go_roundw
        case rel => exact ⟨k + 1, by omega, by go_num, by rw [ts, fl_snoc]; exact hown', B2⟩
        case measure => simp [intOf]; omega
    · go_wp2
      go_ret
      have e : k = T.length := by omega
      subst e
      rw [List.take_length] at hown
      exact ⟨_, rfl, hown, hb⟩
end Go.Proofs.YtogoehaagdldnaaGreatDoor
