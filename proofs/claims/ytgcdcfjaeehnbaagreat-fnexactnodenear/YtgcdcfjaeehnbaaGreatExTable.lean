/- The exact law of TableOk, walked. -/
import Derived.Test.YtgcdcfjaeehnbaaGreatSTable
namespace Go.Proofs.YtgcdcfjaeehnbaaGreat
open Go.ChangeShapes Go.WideShapes Go.ChangeAt Go.RowKit
attribute [local go_sem ↓] Go.wp_at_zero Go.wp_at_succ
end Go.Proofs.YtgcdcfjaeehnbaaGreat
