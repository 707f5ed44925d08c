/- Walks of great regions in their order: the steps, with the number of the next one. -/
import Derived.Test.YtdlaenbiamknlaaGreatMsk
namespace Go.Proofs.YtdlaenbiamknlaaGreat
section
variable {P : Program} {ops : Array Oper} {Q : Exit → Act → World → Prop} {a : Act} {w : World} {oi : Oper}
theorem ltY {k : Nat} {v : Value} (hi : ops[k]? = some oi) (k' : Nat) (h : wpFrom P ops Q k' (a.put oi.dst v) w)
    (hy : (execOp a.eval oi).run P w = .ok (.value v) w := by (go_simp; try with_reducible rfl)) (hw : Region.wanted oi (yielded ops a.tmps) = true := by kernel_rfl) (hk : k + 1 = k' := by kernel_rfl) : wpFrom P ops Q k a w := by
  subst hk
  unfold wpFrom
  rw [drop_at hi]
  refine wpList_step fun K hK => ?_
  simp only [hw, if_true, Oper.wp, hy, Oper.upon]
  exact hK _ _ h
theorem ltV {k : Nat} (v : Value) (hi : ops[k]? = some oi) (k' : Nat) (hy : (execOp a.eval oi).run P w = .ok (.value v) w) (h : wpFrom P ops Q k' (a.put oi.dst v) w)
    (hw : Region.wanted oi (yielded ops a.tmps) = true := by kernel_rfl) (hk : k + 1 = k' := by kernel_rfl) : wpFrom P ops Q k a w := ltY hi k' h hy hw hk
theorem ltN {k : Nat} (hi : ops[k]? = some oi) (k' : Nat) (h : wpFrom P ops Q k' (a.put oi.dst undef) w)
    (hw : Region.wanted oi (yielded ops a.tmps) = false := by kernel_rfl) (hk : k + 1 = k' := by kernel_rfl) : wpFrom P ops Q k a w := by
  subst hk
  unfold wpFrom
  rw [drop_at hi]
  refine wpList_step fun K hK => ?_
  simp only [hw, Bool.false_eq_true, if_false]
  exact hK _ _ h
end
end Go.Proofs.YtdlaenbiamknlaaGreat
