/-
  DERIVED. GIVEN WITH THE SEED: THE CARDS: each row of YtoimfgfhlbkdcaaGreatDoorRows.lean that lists a variable, with what it lists TIED to the program's text (the seventh form; the later family's looks); each row that meets fmt, with fmt's text TOLD by the authors' own Lean function (tested against real Go, not proved from fmt's source: count such statements apart). THE CARD IS WHAT COUNTS. Prove the row's statement (the work); the ties are given (YtoimfgfhlbkdcaaGreatDoorTie.lean); close each card by the builder's one call (the guide's Derived/Test/ToyasCard.lean, 'card_holds'). Laid BY PROGRAM, IN A SANDBOX (cutbox-door.mjs). By AI agents, Wed Nov 11 2026. No macro, syntax, notation, axiom, sorry.
-/
import Derived.Test.YtoimfgfhlbkdcaaGreatDoorRows
import GoSem.ClaimSeven
namespace Go.Proofs.YtoimfgfhlbkdcaaGreatDoor
namespace Rows

/-- THE TIED CARD OF 'laws.FnExactWorldSame'. -/
def fnExactWorldSameCard : Claim7 := { stood := { row := fnExactWorldSameRow, standIns := [], harness := (true, "6677a67e17fca78a7c7a0877c539c3bb7e6a82302ce4f1702a4e9d51c8929688"), looks := false }, kinds := [], alts := [], laidByText := true, laidKinds := [.data, .data, .data, .listed, .data], laidTests := true, laidLooks := .later }
def FnExactWorldSameCardSaid : Prop := Claim7.holds Tryz.pinned (.plain (OpenSpec.ofChange fnExactWorldSameSpec)) fnExactWorldSameCard

/-- THE TIED CARD OF 'laws.FnExactWorldBoard'. -/
def fnExactWorldBoardCard : Claim7 := { stood := { row := fnExactWorldBoardRow, standIns := [], harness := (true, "6677a67e17fca78a7c7a0877c539c3bb7e6a82302ce4f1702a4e9d51c8929688"), looks := false }, kinds := [], alts := [], laidByText := true, laidKinds := [.data, .data, .data, .listed, .data], laidTests := true, laidLooks := .later }
def FnExactWorldBoardCardSaid : Prop := Claim7.holds Tryz.pinned (.plain (OpenSpec.ofChange fnExactWorldBoardSpec)) fnExactWorldBoardCard

/-- THE SECOND FORM's CARD OF 'laws.FnExactWorldSame'. -/
def fnExactWorldSameUptoCard : Claim7 := { stood := { row := fnExactWorldSameUptoRow, standIns := [], harness := (true, "6677a67e17fca78a7c7a0877c539c3bb7e6a82302ce4f1702a4e9d51c8929688"), looks := false }, kinds := [], alts := [], laidByText := true, laidKinds := [.data, .data, .data, .listed, .data], laidTests := true, laidLooks := .later }
def FnExactWorldSameUptoCardSaid : Prop := Claim7.holds Tryz.pinned (.plain (OpenSpec.upto fnExactWorldSameSpec)) fnExactWorldSameUptoCard

/-- THE SECOND FORM's CARD OF 'laws.FnExactWorldBoard'. -/
def fnExactWorldBoardUptoCard : Claim7 := { stood := { row := fnExactWorldBoardUptoRow, standIns := [], harness := (true, "6677a67e17fca78a7c7a0877c539c3bb7e6a82302ce4f1702a4e9d51c8929688"), looks := false }, kinds := [], alts := [], laidByText := true, laidKinds := [.data, .data, .data, .listed, .data], laidTests := true, laidLooks := .later }
def FnExactWorldBoardUptoCardSaid : Prop := Claim7.holds Tryz.pinned (.plain (OpenSpec.upto fnExactWorldBoardSpec)) fnExactWorldBoardUptoCard
end Rows
end Go.Proofs.YtoimfgfhlbkdcaaGreatDoor
