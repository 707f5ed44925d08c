/- Lists out of functions. -/
import Derived.Test.YtgcdcfjaeehnbaaGreatFacts
namespace Go.Proofs.YtgcdcfjaeehnbaaGreat
def seqF (F : Nat → Fc) (n : Nat) : List Fc := (List.range n).map F
theorem seqF_len (F : Nat → Fc) (n : Nat) : (seqF F n).length = n := by simp [seqF]
end Go.Proofs.YtgcdcfjaeehnbaaGreat
