/-
  DERIVED. GIVEN WITH THE SEED: THE CARDS: each row of YtlebggbbhkiokaaGreatDoorRows.lean that lists a variable, with what it lists TIED to the program's text (the seventh form; the later family's looks); each row that meets fmt, with fmt's text TOLD by the authors' own Lean function (tested against real Go, not proved from fmt's source: count such statements apart). THE CARD IS WHAT COUNTS. Prove the row's statement (the work); the ties are given (YtlebggbbhkiokaaGreatDoorTie.lean); close each card by the builder's one call (the guide's Derived/Test/ToyasCard.lean, 'card_holds'). Laid BY PROGRAM, IN A SANDBOX (cutbox-door.mjs). By AI agents, Wed Nov 11 2026. No macro, syntax, notation, axiom, sorry.
-/
import Derived.Test.YtlebggbbhkiokaaGreatDoorRows
import GoSem.ClaimSeven
namespace Go.Proofs.YtlebggbbhkiokaaGreatDoor
namespace Rows

/-- THE TIED CARD OF 'laws.FnExactScriptRead'. -/
def fnExactScriptReadCard : Claim7 := { stood := { row := fnExactScriptReadRow, standIns := [], harness := (true, "72f052d78f9fe8507a1f395c60a9d9e669812126a816b3e042d5f1d039e35521"), looks := true }, kinds := [], alts := [], laidByText := true, laidKinds := [.data, .data, .data, .data, .handle, .sentinel, .sentinel, .listed, .data, .sentinel, .pinned], laidTests := true, laidLooks := .later }
def FnExactScriptReadCardSaid : Prop := Claim7.holds Tryz.pinned (.plain (OpenSpec.ofChange fnExactScriptReadSpec)) fnExactScriptReadCard

/-- THE SECOND FORM's CARD OF 'laws.FnExactScriptRead'. -/
def fnExactScriptReadUptoCard : Claim7 := { stood := { row := fnExactScriptReadUptoRow, standIns := [], harness := (true, "72f052d78f9fe8507a1f395c60a9d9e669812126a816b3e042d5f1d039e35521"), looks := true }, kinds := [], alts := [], laidByText := true, laidKinds := [.data, .data, .data, .data, .handle, .sentinel, .sentinel, .listed, .data, .sentinel, .pinned], laidTests := true, laidLooks := .later }
def FnExactScriptReadUptoCardSaid : Prop := Claim7.holds Tryz.pinned (.plain (OpenSpec.upto fnExactScriptReadSpec)) fnExactScriptReadUptoCard
end Rows
end Go.Proofs.YtlebggbbhkiokaaGreatDoor
