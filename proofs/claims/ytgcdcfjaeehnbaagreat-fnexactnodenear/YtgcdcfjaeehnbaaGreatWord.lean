/- Words that are ok: the program's way and the model's. -/
import Derived.Test.YtgcdcfjaeehnbaaGreatSite
import Derived.Test.YtgcdcfjaeehnbaaGreatExVersion
namespace Go.Proofs.YtgcdcfjaeehnbaaGreat
open Go.ChangeShapes Go.WideShapes Go.ChangeAt Go.RowKit
attribute [local go_sem ↓] Go.wp_at_zero Go.wp_at_succ
/-- the facts' sites are as they should be -/
def wsB (len : Nat) (F : Nat → Fc) (k f : Int) : Bool := if k = 6 then decide (0 < len) && sitB len F (ste (F 0).n) else sitB len F (ste f)
def preB (p k f t s q x y z e : Int) (len : Nat) (F : Nat → Fc) : Bool := inb p 1 2 && inb k 1 6 && inb f 0 7 && inb t 0 7 && inb s 0 999999 && inb q 0 7 && cok x y z e && tokB len F
def wokB (p k f t s q x y z e : Int) (len : Nat) (F : Nat → Fc) : Bool := preB p k f t s q x y z e len F && wsB len F k f
end Go.Proofs.YtgcdcfjaeehnbaaGreat
