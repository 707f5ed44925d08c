/- How new a table is: the program's way and the model's; the exact law of TableVersion, walked. -/
import Derived.Test.YtgcdcfjaeehnbaaGreatExTable
namespace Go.Proofs.YtgcdcfjaeehnbaaGreat
open Go.ChangeShapes Go.WideShapes Go.ChangeAt Go.RowKit
attribute [local go_sem ↓] Go.wp_at_zero Go.wp_at_succ
def verN (F : Nat → Fc) : Nat → Int
  | 0 => 0
  | k + 1 => verN F k + 1 + (F k).i * 16 + (F k).s * 2 + if (F k).g = true then 1 else 0
def verT (len : Nat) (F : Nat → Fc) : Int := if tokB len F = true then verN F len else 0
theorem tok_lit (a : Option Addr) (len cap : Nat) (F : Nat → Fc) (b : Bool) (w : World) (h : FSl w a len F) (hl : len ≤ 1048576) (hb : tokB len F = b) :
    Calls Tryz.prog 154 #[.slice a len cap] w fun e w' => e = .returned (.bool b) ∧ Below w.heap.size w w' := hb ▸ tok_any a len cap F w h hl
theorem stok_lit (a : Option Addr) (len cap : Nat) (F : Nat → Fc) (b : Bool) (w : World) (h : FSl w a len F) (hl : len ≤ 1048576) (hb : tokB len F = b) :
    Calls Tryz.prog 79 #[.slice a len cap] w fun e w' => e = .returned (.bool b) ∧ Below w.heap.size w w' := hb ▸ stok_any a len cap F w h hl
end Go.Proofs.YtgcdcfjaeehnbaaGreat
