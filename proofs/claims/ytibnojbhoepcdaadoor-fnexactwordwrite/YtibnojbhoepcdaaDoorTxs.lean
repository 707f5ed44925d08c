/- How long a table's text is. -/
import Derived.Test.YtibnojbhoepcdaaDoorTxt3
namespace Go.Proofs.YtibnojbhoepcdaaDoor
theorem txt_size (n : Nat) (F : Nat → Fc) (hn : n ≤ 8) : (txt n F).size ≤ 200 := by
  unfold txt
  split
  · rename_i h
    have := ttx_len F n (tok_all h).1
    split
    · decide
    · show (ttx (seqF F n)).toArray.size ≤ 200
      rw [List.size_toArray]
      omega
  · decide
end Go.Proofs.YtibnojbhoepcdaaDoor
