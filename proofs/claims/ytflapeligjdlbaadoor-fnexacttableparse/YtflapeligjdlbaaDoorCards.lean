/-
  DERIVED. GIVEN WITH THE SEED: THE CARDS: each row of YtflapeligjdlbaaDoorRows.lean that lists a variable, with what it lists TIED to the program's text (the seventh form; the later family's looks); each row that meets fmt, with fmt's text TOLD by the authors' own Lean function (tested against real Go, not proved from fmt's source: count such statements apart). THE CARD IS WHAT COUNTS. Prove the row's statement (the work); the ties are given (YtflapeligjdlbaaDoorTie.lean); close each card by the builder's one call (the guide's Derived/Test/ToyasCard.lean, 'card_holds'). Laid BY PROGRAM, IN A SANDBOX (cutbox-door.mjs). By AI agents, Wed Nov 11 2026. No macro, syntax, notation, axiom, sorry.
-/
import Derived.Test.YtflapeligjdlbaaDoorRows
import GoSem.ClaimSeven
namespace Go.Proofs.YtflapeligjdlbaaDoor
namespace Rows

/-- THE TIED CARD OF 'laws.FnExactTableParse'. -/
def fnExactTableParseCard : Claim7 := { stood := { row := fnExactTableParseRow, standIns := [], harness := (true, "646b222fdde95ce2e7150518d3884b5b4858a228843f9c8b2fc771faa75ee01f"), looks := true }, kinds := [], alts := [], laidByText := true, laidKinds := [.data, .data, .data, .data, .sentinel, .sentinel, .listed, .data, .pinned], laidTests := true, laidLooks := .later }
def FnExactTableParseCardSaid : Prop := Claim7.holds Tryd.pinned (.plain (OpenSpec.ofChange fnExactTableParseSpec)) fnExactTableParseCard

/-- THE SECOND FORM's CARD OF 'laws.FnExactTableParse'. -/
def fnExactTableParseUptoCard : Claim7 := { stood := { row := fnExactTableParseUptoRow, standIns := [], harness := (true, "646b222fdde95ce2e7150518d3884b5b4858a228843f9c8b2fc771faa75ee01f"), looks := true }, kinds := [], alts := [], laidByText := true, laidKinds := [.data, .data, .data, .data, .sentinel, .sentinel, .listed, .data, .pinned], laidTests := true, laidLooks := .later }
def FnExactTableParseUptoCardSaid : Prop := Claim7.holds Tryd.pinned (.plain (OpenSpec.upto fnExactTableParseSpec)) fnExactTableParseUptoCard
end Rows
end Go.Proofs.YtflapeligjdlbaaDoor
