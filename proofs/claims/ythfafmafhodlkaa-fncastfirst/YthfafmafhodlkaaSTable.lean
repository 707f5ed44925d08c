/- Tables that are ok, the model's way. -/
import Derived.Test.YthfafmafhodlkaaTable
namespace Go.Proofs.Ythfafmafhodlkaa
open Go.ChangeShapes Go.WideShapes Go.ChangeAt Go.RowKit
attribute [local go_sem ↓] Go.wp_at_zero Go.wp_at_succ
theorem sfok_lit (n i s : Int) (g b : Bool) (h : fokB n i s = b) (w : World) :
    Calls Try.prog 30 #[.agg #[.int .i64 n, .int .i64 i, .int .i64 s, .bool g]] w fun r w' => r = .returned (.bool b) ∧ Below w.heap.size w w' := h ▸ sfok_below n i s g w
end Go.Proofs.Ythfafmafhodlkaa
