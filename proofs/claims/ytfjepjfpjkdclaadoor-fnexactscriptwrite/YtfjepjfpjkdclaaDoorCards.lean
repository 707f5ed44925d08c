/-
  DERIVED. GIVEN WITH THE SEED: THE CARDS: each row of YtfjepjfpjkdclaaDoorRows.lean that lists a variable, with what it lists TIED to the program's text (the seventh form; the later family's looks); each row that meets fmt, with fmt's text TOLD by the authors' own Lean function (tested against real Go, not proved from fmt's source: count such statements apart). THE CARD IS WHAT COUNTS. Prove the row's statement (the work); the ties are given (YtfjepjfpjkdclaaDoorTie.lean); close each card by the builder's one call (the guide's Derived/Test/ToyasCard.lean, 'card_holds'). Laid BY PROGRAM, IN A SANDBOX (cutbox-door.mjs). By AI agents, Wed Nov 11 2026. No macro, syntax, notation, axiom, sorry.
-/
import Derived.Test.YtfjepjfpjkdclaaDoorRows
import GoSem.ClaimSeven
namespace Go.Proofs.YtfjepjfpjkdclaaDoor
namespace Rows

/-- THE TIED CARD OF 'laws.FnExactScriptWrite'. -/
def fnExactScriptWriteCard : Claim7 := { stood := { row := fnExactScriptWriteRow, standIns := [], harness := (true, "95c30b054f9b9d8099ed70d41f7573dc62f2e6f59bcfd715c8c4c6bc6b7197a4"), looks := false }, kinds := [], alts := [], laidByText := true, laidKinds := [.data, .data, .data, .listed, .data], laidTests := true, laidLooks := .later }
def FnExactScriptWriteCardSaid : Prop := Claim7.holds Tryd.pinned (.plain (OpenSpec.ofChange fnExactScriptWriteSpec)) fnExactScriptWriteCard

/-- THE SECOND FORM's CARD OF 'laws.FnExactScriptWrite'. -/
def fnExactScriptWriteUptoCard : Claim7 := { stood := { row := fnExactScriptWriteUptoRow, standIns := [], harness := (true, "95c30b054f9b9d8099ed70d41f7573dc62f2e6f59bcfd715c8c4c6bc6b7197a4"), looks := false }, kinds := [], alts := [], laidByText := true, laidKinds := [.data, .data, .data, .listed, .data], laidTests := true, laidLooks := .later }
def FnExactScriptWriteUptoCardSaid : Prop := Claim7.holds Tryd.pinned (.plain (OpenSpec.upto fnExactScriptWriteSpec)) fnExactScriptWriteUptoCard
end Rows
end Go.Proofs.YtfjepjfpjkdclaaDoor
