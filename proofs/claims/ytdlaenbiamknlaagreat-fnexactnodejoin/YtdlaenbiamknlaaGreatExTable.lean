/- The exact law of TableOk, walked. -/
import Derived.Test.YtdlaenbiamknlaaGreatSTable
namespace Go.Proofs.YtdlaenbiamknlaaGreat
open Go.ChangeShapes Go.WideShapes Go.ChangeAt Go.RowKit
attribute [local go_sem ↓] Go.wp_at_zero Go.wp_at_succ
end Go.Proofs.YtdlaenbiamknlaaGreat
