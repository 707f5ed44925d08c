/- The exact law of WordOk, walked. -/
import Derived.Test.YtoimfgfhlbkdcaaGreatDoorExWord
namespace Go.Proofs.YtoimfgfhlbkdcaaGreatDoor
open Go.ChangeShapes Go.WideShapes Go.ChangeAt Go.RowKit
attribute [local go_sem ↓] Go.wp_at_zero Go.wp_at_succ
end Go.Proofs.YtoimfgfhlbkdcaaGreatDoor
