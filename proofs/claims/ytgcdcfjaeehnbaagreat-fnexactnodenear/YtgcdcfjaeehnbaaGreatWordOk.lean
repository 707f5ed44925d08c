/- Words that are ok, whole. -/
import Derived.Test.YtgcdcfjaeehnbaaGreatWord
namespace Go.Proofs.YtgcdcfjaeehnbaaGreat
open Go.ChangeShapes Go.WideShapes Go.ChangeAt Go.RowKit
attribute [local go_sem ↓] Go.wp_at_zero Go.wp_at_succ
theorem nodeOk_lit (n : Int) (b : Bool) (h : inb n 0 7 = b) (w : World) : Calls Tryz.prog 149 #[.int .i64 n] w fun e w' => e = .returned (.bool b) ∧ w' = w := h ▸ nodeOk_any n w
theorem fcok_lit (x y h e : Int) (b : Bool) (hb : cok x y h e = b) (w : World) :
    Calls Tryz.prog 100 #[.agg #[.int .i64 x, .int .i64 y, .int .i64 h, .int .i64 e]] w fun r w' => r = .returned (.bool b) ∧ Below w.heap.size w w' := hb ▸ fcok_any x y h e w
theorem scoord_lit (x y h e : Int) (b : Bool) (hb : cok x y h e = b) (w : World) :
    Calls Tryz.prog 86 #[.agg #[.int .i64 x, .int .i64 y, .int .i64 h, .int .i64 e]] w fun r w' => r = .returned (.bool b) ∧ Below w.heap.size w w' := hb ▸ scoord_any x y h e w
end Go.Proofs.YtgcdcfjaeehnbaaGreat
