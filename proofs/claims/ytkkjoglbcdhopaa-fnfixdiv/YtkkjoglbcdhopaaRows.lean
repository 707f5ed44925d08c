/-
  No cell of these rows narrows 'for every input' (looked for: loops, veiled, ifaces, maps, wideKeys, modest, calm, conditions, laid).
  DERIVED. THE GIVEN ROWS OF THIS SEAT. 13 by the template 'for every input the law returns true; each argument reads behind the call as it read before'; 0 by the template 'total and deterministic' (their statements: YtkkjoglbcdhopaaTotals.lean).
  GIVEN WITH THE SEED: the statements are not yours to turn. If you find one false, say at which input.
  Laid BY PROGRAM, IN A SANDBOX (cutbox-rows.mjs): the forced cells as the released guide's own fill.sh prints them over the translation d71b6e1ffc527cee… (all of the seat's roots in one cut). By AI agents, Wed Nov 11 2026. No macro, syntax, notation, axiom, sorry.
-/
import Derived.Test.YtkkjoglbcdhopaaChecked
import GoSem.Claim
import GoSem.ClaimJoined
import GoSem.ClaimMapViews
import Derived.JoinedTies
import Derived.KernelRfl
namespace Go.Proofs.Ytkkjoglbcdhopaa
/- THE CELL 'sum', in the pinned program and in every row, IS THE sha256 OF THE DUMP (.gsa) THAT YtkkjoglbcdhopaaProg.lean LOADS. Nothing in Lean hashes anything: it is a label: what it is worth is what the hold of that sum in a sandbox is worth. -/
noncomputable def Try.pinned : Pinned := { name := "ytkkjoglbcdhopaa", sum := "d71b6e1ffc527ceeb33c121be8a070226b12740ef61a39df07581d7c4676afcc", checked := Try.checked }
namespace Rows
def none {H : Type} : Left H := { results := [], args := [] }

/-- 'laws.FnFixBox': WHATEVER THE INPUT: true; the input reads as it did. -/
def fnFixBoxSpec : ChangeSpec := { name := "fnFixBox", fn := fun _ => fun
  | [d] => { results := [.lit (.bool true)], args := [d] }
  | _ => none }
def fnFixBoxRow : OpenClaim := { program := "ytkkjoglbcdhopaa", sum := "d71b6e1ffc527ceeb33c121be8a070226b12740ef61a39df07581d7c4676afcc", func := "loop.example/lightship/laws.FnFixBox", spec := "fnFixBox", unfollowed := true, recurses := true, apart := false }
def FnFixBoxSaid : Prop := fnFixBoxRow.holds Try.pinned (OpenSpec.ofChange fnFixBoxSpec)

/-- ITS FALSE NEIGHBOUR: 'it returns false'. Refute it at one input. -/
def fnFixBoxWrong : ChangeSpec := { name := "fnFixBox", fn := fun _ => fun
  | [d] => { results := [.lit (.bool false)], args := [d] }
  | _ => none }
def FnFixBoxWrongFalsely : Prop := fnFixBoxRow.holds Try.pinned (OpenSpec.ofChange fnFixBoxWrong)

/-- 'laws.FnFixAdd': WHATEVER THE INPUT: true; the input reads as it did. -/
def fnFixAddSpec : ChangeSpec := { name := "fnFixAdd", fn := fun _ => fun
  | [d] => { results := [.lit (.bool true)], args := [d] }
  | _ => none }
def fnFixAddRow : OpenClaim := { program := "ytkkjoglbcdhopaa", sum := "d71b6e1ffc527ceeb33c121be8a070226b12740ef61a39df07581d7c4676afcc", func := "loop.example/lightship/laws.FnFixAdd", spec := "fnFixAdd", unfollowed := true, recurses := true, apart := false }
def FnFixAddSaid : Prop := fnFixAddRow.holds Try.pinned (OpenSpec.ofChange fnFixAddSpec)

/-- ITS FALSE NEIGHBOUR: 'it returns false'. Refute it at one input. -/
def fnFixAddWrong : ChangeSpec := { name := "fnFixAdd", fn := fun _ => fun
  | [d] => { results := [.lit (.bool false)], args := [d] }
  | _ => none }
def FnFixAddWrongFalsely : Prop := fnFixAddRow.holds Try.pinned (OpenSpec.ofChange fnFixAddWrong)

/-- 'laws.FnFixMul': WHATEVER THE INPUT: true; the input reads as it did. -/
def fnFixMulSpec : ChangeSpec := { name := "fnFixMul", fn := fun _ => fun
  | [d] => { results := [.lit (.bool true)], args := [d] }
  | _ => none }
def fnFixMulRow : OpenClaim := { program := "ytkkjoglbcdhopaa", sum := "d71b6e1ffc527ceeb33c121be8a070226b12740ef61a39df07581d7c4676afcc", func := "loop.example/lightship/laws.FnFixMul", spec := "fnFixMul", unfollowed := true, recurses := true, apart := false }
def FnFixMulSaid : Prop := fnFixMulRow.holds Try.pinned (OpenSpec.ofChange fnFixMulSpec)

/-- ITS FALSE NEIGHBOUR: 'it returns false'. Refute it at one input. -/
def fnFixMulWrong : ChangeSpec := { name := "fnFixMul", fn := fun _ => fun
  | [d] => { results := [.lit (.bool false)], args := [d] }
  | _ => none }
def FnFixMulWrongFalsely : Prop := fnFixMulRow.holds Try.pinned (OpenSpec.ofChange fnFixMulWrong)

/-- 'laws.FnFixDiv': WHATEVER THE INPUT: true; the input reads as it did. -/
def fnFixDivSpec : ChangeSpec := { name := "fnFixDiv", fn := fun _ => fun
  | [d] => { results := [.lit (.bool true)], args := [d] }
  | _ => none }
def fnFixDivRow : OpenClaim := { program := "ytkkjoglbcdhopaa", sum := "d71b6e1ffc527ceeb33c121be8a070226b12740ef61a39df07581d7c4676afcc", func := "loop.example/lightship/laws.FnFixDiv", spec := "fnFixDiv", unfollowed := true, recurses := true, apart := false }
def FnFixDivSaid : Prop := fnFixDivRow.holds Try.pinned (OpenSpec.ofChange fnFixDivSpec)

/-- ITS FALSE NEIGHBOUR: 'it returns false'. Refute it at one input. -/
def fnFixDivWrong : ChangeSpec := { name := "fnFixDiv", fn := fun _ => fun
  | [d] => { results := [.lit (.bool false)], args := [d] }
  | _ => none }
def FnFixDivWrongFalsely : Prop := fnFixDivRow.holds Try.pinned (OpenSpec.ofChange fnFixDivWrong)

/-- 'laws.FnFixRoot': WHATEVER THE INPUT: true; the input reads as it did. -/
def fnFixRootSpec : ChangeSpec := { name := "fnFixRoot", fn := fun _ => fun
  | [d] => { results := [.lit (.bool true)], args := [d] }
  | _ => none }
def fnFixRootRow : OpenClaim := { program := "ytkkjoglbcdhopaa", sum := "d71b6e1ffc527ceeb33c121be8a070226b12740ef61a39df07581d7c4676afcc", func := "loop.example/lightship/laws.FnFixRoot", spec := "fnFixRoot", unfollowed := true, recurses := true, apart := false }
def FnFixRootSaid : Prop := fnFixRootRow.holds Try.pinned (OpenSpec.ofChange fnFixRootSpec)

/-- ITS FALSE NEIGHBOUR: 'it returns false'. Refute it at one input. -/
def fnFixRootWrong : ChangeSpec := { name := "fnFixRoot", fn := fun _ => fun
  | [d] => { results := [.lit (.bool false)], args := [d] }
  | _ => none }
def FnFixRootWrongFalsely : Prop := fnFixRootRow.holds Try.pinned (OpenSpec.ofChange fnFixRootWrong)

/-- 'laws.FnFixNorm': WHATEVER THE INPUT: true; the input reads as it did. -/
def fnFixNormSpec : ChangeSpec := { name := "fnFixNorm", fn := fun _ => fun
  | [d] => { results := [.lit (.bool true)], args := [d] }
  | _ => none }
def fnFixNormRow : OpenClaim := { program := "ytkkjoglbcdhopaa", sum := "d71b6e1ffc527ceeb33c121be8a070226b12740ef61a39df07581d7c4676afcc", func := "loop.example/lightship/laws.FnFixNorm", spec := "fnFixNorm", unfollowed := true, recurses := true, apart := false }
def FnFixNormSaid : Prop := fnFixNormRow.holds Try.pinned (OpenSpec.ofChange fnFixNormSpec)

/-- ITS FALSE NEIGHBOUR: 'it returns false'. Refute it at one input. -/
def fnFixNormWrong : ChangeSpec := { name := "fnFixNorm", fn := fun _ => fun
  | [d] => { results := [.lit (.bool false)], args := [d] }
  | _ => none }
def FnFixNormWrongFalsely : Prop := fnFixNormRow.holds Try.pinned (OpenSpec.ofChange fnFixNormWrong)

/-- 'laws.FnFixGrow': WHATEVER THE INPUT: true; the input reads as it did. -/
def fnFixGrowSpec : ChangeSpec := { name := "fnFixGrow", fn := fun _ => fun
  | [d1, d2] => { results := [.lit (.bool true)], args := [d1, d2] }
  | _ => none }
def fnFixGrowRow : OpenClaim := { program := "ytkkjoglbcdhopaa", sum := "d71b6e1ffc527ceeb33c121be8a070226b12740ef61a39df07581d7c4676afcc", func := "loop.example/lightship/laws.FnFixGrow", spec := "fnFixGrow", unfollowed := true, recurses := true, apart := false }
def FnFixGrowSaid : Prop := fnFixGrowRow.holds Try.pinned (OpenSpec.ofChange fnFixGrowSpec)

/-- ITS FALSE NEIGHBOUR: 'it returns false'. Refute it at one input. -/
def fnFixGrowWrong : ChangeSpec := { name := "fnFixGrow", fn := fun _ => fun
  | [d1, d2] => { results := [.lit (.bool false)], args := [d1, d2] }
  | _ => none }
def FnFixGrowWrongFalsely : Prop := fnFixGrowRow.holds Try.pinned (OpenSpec.ofChange fnFixGrowWrong)

/-- 'laws.FnExactFixClamp': WHATEVER THE INPUT: true; the input reads as it did. -/
def fnExactFixClampSpec : ChangeSpec := { name := "fnExactFixClamp", fn := fun _ => fun
  | [d] => { results := [.lit (.bool true)], args := [d] }
  | _ => none }
def fnExactFixClampRow : OpenClaim := { program := "ytkkjoglbcdhopaa", sum := "d71b6e1ffc527ceeb33c121be8a070226b12740ef61a39df07581d7c4676afcc", func := "loop.example/lightship/laws.FnExactFixClamp", spec := "fnExactFixClamp", apart := false }
def FnExactFixClampSaid : Prop := fnExactFixClampRow.holds Try.pinned (OpenSpec.ofChange fnExactFixClampSpec)

/-- ITS FALSE NEIGHBOUR: 'it returns false'. Refute it at one input. -/
def fnExactFixClampWrong : ChangeSpec := { name := "fnExactFixClamp", fn := fun _ => fun
  | [d] => { results := [.lit (.bool false)], args := [d] }
  | _ => none }
def FnExactFixClampWrongFalsely : Prop := fnExactFixClampRow.holds Try.pinned (OpenSpec.ofChange fnExactFixClampWrong)

/-- 'laws.FnExactFixAdd': WHATEVER THE INPUT: true; the input reads as it did. -/
def fnExactFixAddSpec : ChangeSpec := { name := "fnExactFixAdd", fn := fun _ => fun
  | [d1, d2] => { results := [.lit (.bool true)], args := [d1, d2] }
  | _ => none }
def fnExactFixAddRow : OpenClaim := { program := "ytkkjoglbcdhopaa", sum := "d71b6e1ffc527ceeb33c121be8a070226b12740ef61a39df07581d7c4676afcc", func := "loop.example/lightship/laws.FnExactFixAdd", spec := "fnExactFixAdd", unfollowed := true, recurses := true, apart := false }
def FnExactFixAddSaid : Prop := fnExactFixAddRow.holds Try.pinned (OpenSpec.ofChange fnExactFixAddSpec)

/-- ITS FALSE NEIGHBOUR: 'it returns false'. Refute it at one input. -/
def fnExactFixAddWrong : ChangeSpec := { name := "fnExactFixAdd", fn := fun _ => fun
  | [d1, d2] => { results := [.lit (.bool false)], args := [d1, d2] }
  | _ => none }
def FnExactFixAddWrongFalsely : Prop := fnExactFixAddRow.holds Try.pinned (OpenSpec.ofChange fnExactFixAddWrong)

/-- 'laws.FnExactFixMul': WHATEVER THE INPUT: true; the input reads as it did. -/
def fnExactFixMulSpec : ChangeSpec := { name := "fnExactFixMul", fn := fun _ => fun
  | [d1, d2] => { results := [.lit (.bool true)], args := [d1, d2] }
  | _ => none }
def fnExactFixMulRow : OpenClaim := { program := "ytkkjoglbcdhopaa", sum := "d71b6e1ffc527ceeb33c121be8a070226b12740ef61a39df07581d7c4676afcc", func := "loop.example/lightship/laws.FnExactFixMul", spec := "fnExactFixMul", unfollowed := true, recurses := true, apart := false }
def FnExactFixMulSaid : Prop := fnExactFixMulRow.holds Try.pinned (OpenSpec.ofChange fnExactFixMulSpec)

/-- ITS FALSE NEIGHBOUR: 'it returns false'. Refute it at one input. -/
def fnExactFixMulWrong : ChangeSpec := { name := "fnExactFixMul", fn := fun _ => fun
  | [d1, d2] => { results := [.lit (.bool false)], args := [d1, d2] }
  | _ => none }
def FnExactFixMulWrongFalsely : Prop := fnExactFixMulRow.holds Try.pinned (OpenSpec.ofChange fnExactFixMulWrong)

/-- 'laws.FnExactFixDiv': WHATEVER THE INPUT: true; the input reads as it did. -/
def fnExactFixDivSpec : ChangeSpec := { name := "fnExactFixDiv", fn := fun _ => fun
  | [d1, d2] => { results := [.lit (.bool true)], args := [d1, d2] }
  | _ => none }
def fnExactFixDivRow : OpenClaim := { program := "ytkkjoglbcdhopaa", sum := "d71b6e1ffc527ceeb33c121be8a070226b12740ef61a39df07581d7c4676afcc", func := "loop.example/lightship/laws.FnExactFixDiv", spec := "fnExactFixDiv", unfollowed := true, recurses := true, apart := false }
def FnExactFixDivSaid : Prop := fnExactFixDivRow.holds Try.pinned (OpenSpec.ofChange fnExactFixDivSpec)

/-- ITS FALSE NEIGHBOUR: 'it returns false'. Refute it at one input. -/
def fnExactFixDivWrong : ChangeSpec := { name := "fnExactFixDiv", fn := fun _ => fun
  | [d1, d2] => { results := [.lit (.bool false)], args := [d1, d2] }
  | _ => none }
def FnExactFixDivWrongFalsely : Prop := fnExactFixDivRow.holds Try.pinned (OpenSpec.ofChange fnExactFixDivWrong)

/-- 'laws.FnExactFixRoot': WHATEVER THE INPUT: true; the input reads as it did. -/
def fnExactFixRootSpec : ChangeSpec := { name := "fnExactFixRoot", fn := fun _ => fun
  | [d] => { results := [.lit (.bool true)], args := [d] }
  | _ => none }
def fnExactFixRootRow : OpenClaim := { program := "ytkkjoglbcdhopaa", sum := "d71b6e1ffc527ceeb33c121be8a070226b12740ef61a39df07581d7c4676afcc", func := "loop.example/lightship/laws.FnExactFixRoot", spec := "fnExactFixRoot", unfollowed := true, recurses := true, apart := false }
def FnExactFixRootSaid : Prop := fnExactFixRootRow.holds Try.pinned (OpenSpec.ofChange fnExactFixRootSpec)

/-- ITS FALSE NEIGHBOUR: 'it returns false'. Refute it at one input. -/
def fnExactFixRootWrong : ChangeSpec := { name := "fnExactFixRoot", fn := fun _ => fun
  | [d] => { results := [.lit (.bool false)], args := [d] }
  | _ => none }
def FnExactFixRootWrongFalsely : Prop := fnExactFixRootRow.holds Try.pinned (OpenSpec.ofChange fnExactFixRootWrong)

/-- 'laws.FnExactFixNorm': WHATEVER THE INPUT: true; the input reads as it did. -/
def fnExactFixNormSpec : ChangeSpec := { name := "fnExactFixNorm", fn := fun _ => fun
  | [d1, d2] => { results := [.lit (.bool true)], args := [d1, d2] }
  | _ => none }
def fnExactFixNormRow : OpenClaim := { program := "ytkkjoglbcdhopaa", sum := "d71b6e1ffc527ceeb33c121be8a070226b12740ef61a39df07581d7c4676afcc", func := "loop.example/lightship/laws.FnExactFixNorm", spec := "fnExactFixNorm", unfollowed := true, recurses := true, apart := false }
def FnExactFixNormSaid : Prop := fnExactFixNormRow.holds Try.pinned (OpenSpec.ofChange fnExactFixNormSpec)

/-- ITS FALSE NEIGHBOUR: 'it returns false'. Refute it at one input. -/
def fnExactFixNormWrong : ChangeSpec := { name := "fnExactFixNorm", fn := fun _ => fun
  | [d1, d2] => { results := [.lit (.bool false)], args := [d1, d2] }
  | _ => none }
def FnExactFixNormWrongFalsely : Prop := fnExactFixNormRow.holds Try.pinned (OpenSpec.ofChange fnExactFixNormWrong)

/- THE SECOND FORM. 'bulk': how many values and letters a reading holds, each counted each time it is reached (what is shared counts as often as it is met; a slice's spare places count too). A statement '..UptoSaid' is the law's where the arguments, and the package variables that the reading takes, are together of bulk at most 1048576: NARROWER than '..Said'. Prove '..Said' where nothing that the law and all that it calls make is longer than what came in: it says more and counts as full. Else prove '..UptoSaid'. A law counts once. -/
mutual
def uptoBulk {H : Type} : DataW H → Nat
  | .lit (.string bytes) => bytes.length + 1
  | .lit _ => 1
  | .nil => 1
  | .ptr d => uptoBulk d + 1
  | .slice elems spare => uptoBulkAll elems + uptoBulkAll spare + 1
  | .agg parts => uptoBulkAll parts + 1
  | .iface _ d => uptoBulk d + 1
  | .map entries => uptoBulkEntries entries + 1
  | .held _ => 1
def uptoBulkAll {H : Type} : List (DataW H) → Nat
  | [] => 0
  | d :: r => uptoBulk d + uptoBulkAll r
def uptoBulkEntries {H : Type} : List (Lit × DataW H) → Nat
  | [] => 0
  | x :: r => uptoBulkEntry x + uptoBulkEntries r
def uptoBulkEntry {H : Type} : Lit × DataW H → Nat
  | (.string bytes, d) => bytes.length + uptoBulk d + 1
  | (_, d) => uptoBulk d + 1
 end
def uptoSmall : (H : Type) → List (DataW H) → Bool := fun _ ds => decide (uptoBulkAll ds ≤ 1048576)
def OpenSpec.upto (s : _root_.Go.ChangeSpec) : _root_.Go.OpenSpec := { _root_.Go.OpenSpec.ofChange s with cond := some uptoSmall }

/-- 'laws.FnFixBox', WHERE WHAT IT READS IS OF BULK AT MOST 1048576: true; the input reads as it did. -/
def fnFixBoxUptoRow : OpenClaim := { program := "ytkkjoglbcdhopaa", sum := "d71b6e1ffc527ceeb33c121be8a070226b12740ef61a39df07581d7c4676afcc", func := "loop.example/lightship/laws.FnFixBox", spec := "fnFixBox", unfollowed := true, recurses := true, apart := false, narrowed := true }
def FnFixBoxUptoSaid : Prop := fnFixBoxUptoRow.holds Try.pinned (OpenSpec.upto fnFixBoxSpec)

/-- 'laws.FnFixAdd', WHERE WHAT IT READS IS OF BULK AT MOST 1048576: true; the input reads as it did. -/
def fnFixAddUptoRow : OpenClaim := { program := "ytkkjoglbcdhopaa", sum := "d71b6e1ffc527ceeb33c121be8a070226b12740ef61a39df07581d7c4676afcc", func := "loop.example/lightship/laws.FnFixAdd", spec := "fnFixAdd", unfollowed := true, recurses := true, apart := false, narrowed := true }
def FnFixAddUptoSaid : Prop := fnFixAddUptoRow.holds Try.pinned (OpenSpec.upto fnFixAddSpec)

/-- 'laws.FnFixMul', WHERE WHAT IT READS IS OF BULK AT MOST 1048576: true; the input reads as it did. -/
def fnFixMulUptoRow : OpenClaim := { program := "ytkkjoglbcdhopaa", sum := "d71b6e1ffc527ceeb33c121be8a070226b12740ef61a39df07581d7c4676afcc", func := "loop.example/lightship/laws.FnFixMul", spec := "fnFixMul", unfollowed := true, recurses := true, apart := false, narrowed := true }
def FnFixMulUptoSaid : Prop := fnFixMulUptoRow.holds Try.pinned (OpenSpec.upto fnFixMulSpec)

/-- 'laws.FnFixDiv', WHERE WHAT IT READS IS OF BULK AT MOST 1048576: true; the input reads as it did. -/
def fnFixDivUptoRow : OpenClaim := { program := "ytkkjoglbcdhopaa", sum := "d71b6e1ffc527ceeb33c121be8a070226b12740ef61a39df07581d7c4676afcc", func := "loop.example/lightship/laws.FnFixDiv", spec := "fnFixDiv", unfollowed := true, recurses := true, apart := false, narrowed := true }
def FnFixDivUptoSaid : Prop := fnFixDivUptoRow.holds Try.pinned (OpenSpec.upto fnFixDivSpec)

/-- 'laws.FnFixRoot', WHERE WHAT IT READS IS OF BULK AT MOST 1048576: true; the input reads as it did. -/
def fnFixRootUptoRow : OpenClaim := { program := "ytkkjoglbcdhopaa", sum := "d71b6e1ffc527ceeb33c121be8a070226b12740ef61a39df07581d7c4676afcc", func := "loop.example/lightship/laws.FnFixRoot", spec := "fnFixRoot", unfollowed := true, recurses := true, apart := false, narrowed := true }
def FnFixRootUptoSaid : Prop := fnFixRootUptoRow.holds Try.pinned (OpenSpec.upto fnFixRootSpec)

/-- 'laws.FnFixNorm', WHERE WHAT IT READS IS OF BULK AT MOST 1048576: true; the input reads as it did. -/
def fnFixNormUptoRow : OpenClaim := { program := "ytkkjoglbcdhopaa", sum := "d71b6e1ffc527ceeb33c121be8a070226b12740ef61a39df07581d7c4676afcc", func := "loop.example/lightship/laws.FnFixNorm", spec := "fnFixNorm", unfollowed := true, recurses := true, apart := false, narrowed := true }
def FnFixNormUptoSaid : Prop := fnFixNormUptoRow.holds Try.pinned (OpenSpec.upto fnFixNormSpec)

/-- 'laws.FnFixGrow', WHERE WHAT IT READS IS OF BULK AT MOST 1048576: true; the input reads as it did. -/
def fnFixGrowUptoRow : OpenClaim := { program := "ytkkjoglbcdhopaa", sum := "d71b6e1ffc527ceeb33c121be8a070226b12740ef61a39df07581d7c4676afcc", func := "loop.example/lightship/laws.FnFixGrow", spec := "fnFixGrow", unfollowed := true, recurses := true, apart := false, narrowed := true }
def FnFixGrowUptoSaid : Prop := fnFixGrowUptoRow.holds Try.pinned (OpenSpec.upto fnFixGrowSpec)

/-- 'laws.FnExactFixClamp', WHERE WHAT IT READS IS OF BULK AT MOST 1048576: true; the input reads as it did. -/
def fnExactFixClampUptoRow : OpenClaim := { program := "ytkkjoglbcdhopaa", sum := "d71b6e1ffc527ceeb33c121be8a070226b12740ef61a39df07581d7c4676afcc", func := "loop.example/lightship/laws.FnExactFixClamp", spec := "fnExactFixClamp", apart := false, narrowed := true }
def FnExactFixClampUptoSaid : Prop := fnExactFixClampUptoRow.holds Try.pinned (OpenSpec.upto fnExactFixClampSpec)

/-- 'laws.FnExactFixAdd', WHERE WHAT IT READS IS OF BULK AT MOST 1048576: true; the input reads as it did. -/
def fnExactFixAddUptoRow : OpenClaim := { program := "ytkkjoglbcdhopaa", sum := "d71b6e1ffc527ceeb33c121be8a070226b12740ef61a39df07581d7c4676afcc", func := "loop.example/lightship/laws.FnExactFixAdd", spec := "fnExactFixAdd", unfollowed := true, recurses := true, apart := false, narrowed := true }
def FnExactFixAddUptoSaid : Prop := fnExactFixAddUptoRow.holds Try.pinned (OpenSpec.upto fnExactFixAddSpec)

/-- 'laws.FnExactFixMul', WHERE WHAT IT READS IS OF BULK AT MOST 1048576: true; the input reads as it did. -/
def fnExactFixMulUptoRow : OpenClaim := { program := "ytkkjoglbcdhopaa", sum := "d71b6e1ffc527ceeb33c121be8a070226b12740ef61a39df07581d7c4676afcc", func := "loop.example/lightship/laws.FnExactFixMul", spec := "fnExactFixMul", unfollowed := true, recurses := true, apart := false, narrowed := true }
def FnExactFixMulUptoSaid : Prop := fnExactFixMulUptoRow.holds Try.pinned (OpenSpec.upto fnExactFixMulSpec)

/-- 'laws.FnExactFixDiv', WHERE WHAT IT READS IS OF BULK AT MOST 1048576: true; the input reads as it did. -/
def fnExactFixDivUptoRow : OpenClaim := { program := "ytkkjoglbcdhopaa", sum := "d71b6e1ffc527ceeb33c121be8a070226b12740ef61a39df07581d7c4676afcc", func := "loop.example/lightship/laws.FnExactFixDiv", spec := "fnExactFixDiv", unfollowed := true, recurses := true, apart := false, narrowed := true }
def FnExactFixDivUptoSaid : Prop := fnExactFixDivUptoRow.holds Try.pinned (OpenSpec.upto fnExactFixDivSpec)

/-- 'laws.FnExactFixRoot', WHERE WHAT IT READS IS OF BULK AT MOST 1048576: true; the input reads as it did. -/
def fnExactFixRootUptoRow : OpenClaim := { program := "ytkkjoglbcdhopaa", sum := "d71b6e1ffc527ceeb33c121be8a070226b12740ef61a39df07581d7c4676afcc", func := "loop.example/lightship/laws.FnExactFixRoot", spec := "fnExactFixRoot", unfollowed := true, recurses := true, apart := false, narrowed := true }
def FnExactFixRootUptoSaid : Prop := fnExactFixRootUptoRow.holds Try.pinned (OpenSpec.upto fnExactFixRootSpec)

/-- 'laws.FnExactFixNorm', WHERE WHAT IT READS IS OF BULK AT MOST 1048576: true; the input reads as it did. -/
def fnExactFixNormUptoRow : OpenClaim := { program := "ytkkjoglbcdhopaa", sum := "d71b6e1ffc527ceeb33c121be8a070226b12740ef61a39df07581d7c4676afcc", func := "loop.example/lightship/laws.FnExactFixNorm", spec := "fnExactFixNorm", unfollowed := true, recurses := true, apart := false, narrowed := true }
def FnExactFixNormUptoSaid : Prop := fnExactFixNormUptoRow.holds Try.pinned (OpenSpec.upto fnExactFixNormSpec)

end Rows
end Go.Proofs.Ytkkjoglbcdhopaa
