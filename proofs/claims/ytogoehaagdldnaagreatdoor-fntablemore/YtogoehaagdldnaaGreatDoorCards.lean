/-
  DERIVED. GIVEN WITH THE SEED: THE CARDS: each row of YtogoehaagdldnaaGreatDoorRows.lean that lists a variable, with what it lists TIED to the program's text (the seventh form; the later family's looks); each row that meets fmt, with fmt's text TOLD by the authors' own Lean function (tested against real Go, not proved from fmt's source: count such statements apart). THE CARD IS WHAT COUNTS. Prove the row's statement (the work); the ties are given (YtogoehaagdldnaaGreatDoorTie.lean); close each card by the builder's one call (the guide's Derived/Test/ToyasCard.lean, 'card_holds'). Laid BY PROGRAM, IN A SANDBOX (cutbox-door.mjs). By AI agents, Wed Nov 11 2026. No macro, syntax, notation, axiom, sorry.
-/
import Derived.Test.YtogoehaagdldnaaGreatDoorRows
import GoSem.ClaimSeven
namespace Go.Proofs.YtogoehaagdldnaaGreatDoor
namespace Rows

/-- THE TIED CARD OF 'laws.FnTableTurn'. -/
def fnTableTurnCard : Claim7 := { stood := { row := fnTableTurnRow, standIns := [], harness := (true, "794983a88f66eea0e0cc697fd422c1ad1490f7dc3d54ff5b98ab8fb3d7ebf46e"), looks := false }, kinds := [], alts := [], laidByText := true, laidKinds := [.data, .data, .data, .listed, .data], laidTests := true, laidLooks := .later }
def FnTableTurnCardSaid : Prop := Claim7.holds Tryz.pinned (.plain (OpenSpec.ofChange fnTableTurnSpec)) fnTableTurnCard

/-- THE TIED CARD OF 'laws.FnTableThree'. -/
def fnTableThreeCard : Claim7 := { stood := { row := fnTableThreeRow, standIns := [], harness := (true, "794983a88f66eea0e0cc697fd422c1ad1490f7dc3d54ff5b98ab8fb3d7ebf46e"), looks := false }, kinds := [], alts := [], laidByText := true, laidKinds := [.data, .data, .data, .listed, .data], laidTests := true, laidLooks := .later }
def FnTableThreeCardSaid : Prop := Claim7.holds Tryz.pinned (.plain (OpenSpec.ofChange fnTableThreeSpec)) fnTableThreeCard

/-- THE TIED CARD OF 'laws.FnTableAgain'. -/
def fnTableAgainCard : Claim7 := { stood := { row := fnTableAgainRow, standIns := [], harness := (true, "794983a88f66eea0e0cc697fd422c1ad1490f7dc3d54ff5b98ab8fb3d7ebf46e"), looks := false }, kinds := [], alts := [], laidByText := true, laidKinds := [.data, .data, .data, .listed, .data], laidTests := true, laidLooks := .later }
def FnTableAgainCardSaid : Prop := Claim7.holds Tryz.pinned (.plain (OpenSpec.ofChange fnTableAgainSpec)) fnTableAgainCard

/-- THE TIED CARD OF 'laws.FnTableMore'. -/
def fnTableMoreCard : Claim7 := { stood := { row := fnTableMoreRow, standIns := [], harness := (true, "794983a88f66eea0e0cc697fd422c1ad1490f7dc3d54ff5b98ab8fb3d7ebf46e"), looks := false }, kinds := [], alts := [], laidByText := true, laidKinds := [.data, .data, .data, .listed, .data], laidTests := true, laidLooks := .later }
def FnTableMoreCardSaid : Prop := Claim7.holds Tryz.pinned (.plain (OpenSpec.ofChange fnTableMoreSpec)) fnTableMoreCard

/-- THE TIED CARD OF 'laws.FnTableLeast'. -/
def fnTableLeastCard : Claim7 := { stood := { row := fnTableLeastRow, standIns := [], harness := (true, "794983a88f66eea0e0cc697fd422c1ad1490f7dc3d54ff5b98ab8fb3d7ebf46e"), looks := false }, kinds := [], alts := [], laidByText := true, laidKinds := [.data, .data, .data, .listed, .data], laidTests := true, laidLooks := .later }
def FnTableLeastCardSaid : Prop := Claim7.holds Tryz.pinned (.plain (OpenSpec.ofChange fnTableLeastSpec)) fnTableLeastCard

/-- THE TIED CARD OF 'laws.FnTableOne'. -/
def fnTableOneCard : Claim7 := { stood := { row := fnTableOneRow, standIns := [], harness := (true, "794983a88f66eea0e0cc697fd422c1ad1490f7dc3d54ff5b98ab8fb3d7ebf46e"), looks := false }, kinds := [], alts := [], laidByText := true, laidKinds := [.data, .data, .data, .listed, .data], laidTests := true, laidLooks := .later }
def FnTableOneCardSaid : Prop := Claim7.holds Tryz.pinned (.plain (OpenSpec.ofChange fnTableOneSpec)) fnTableOneCard

/-- THE SECOND FORM's CARD OF 'laws.FnTableTurn'. -/
def fnTableTurnUptoCard : Claim7 := { stood := { row := fnTableTurnUptoRow, standIns := [], harness := (true, "794983a88f66eea0e0cc697fd422c1ad1490f7dc3d54ff5b98ab8fb3d7ebf46e"), looks := false }, kinds := [], alts := [], laidByText := true, laidKinds := [.data, .data, .data, .listed, .data], laidTests := true, laidLooks := .later }
def FnTableTurnUptoCardSaid : Prop := Claim7.holds Tryz.pinned (.plain (OpenSpec.upto fnTableTurnSpec)) fnTableTurnUptoCard

/-- THE SECOND FORM's CARD OF 'laws.FnTableThree'. -/
def fnTableThreeUptoCard : Claim7 := { stood := { row := fnTableThreeUptoRow, standIns := [], harness := (true, "794983a88f66eea0e0cc697fd422c1ad1490f7dc3d54ff5b98ab8fb3d7ebf46e"), looks := false }, kinds := [], alts := [], laidByText := true, laidKinds := [.data, .data, .data, .listed, .data], laidTests := true, laidLooks := .later }
def FnTableThreeUptoCardSaid : Prop := Claim7.holds Tryz.pinned (.plain (OpenSpec.upto fnTableThreeSpec)) fnTableThreeUptoCard

/-- THE SECOND FORM's CARD OF 'laws.FnTableAgain'. -/
def fnTableAgainUptoCard : Claim7 := { stood := { row := fnTableAgainUptoRow, standIns := [], harness := (true, "794983a88f66eea0e0cc697fd422c1ad1490f7dc3d54ff5b98ab8fb3d7ebf46e"), looks := false }, kinds := [], alts := [], laidByText := true, laidKinds := [.data, .data, .data, .listed, .data], laidTests := true, laidLooks := .later }
def FnTableAgainUptoCardSaid : Prop := Claim7.holds Tryz.pinned (.plain (OpenSpec.upto fnTableAgainSpec)) fnTableAgainUptoCard

/-- THE SECOND FORM's CARD OF 'laws.FnTableMore'. -/
def fnTableMoreUptoCard : Claim7 := { stood := { row := fnTableMoreUptoRow, standIns := [], harness := (true, "794983a88f66eea0e0cc697fd422c1ad1490f7dc3d54ff5b98ab8fb3d7ebf46e"), looks := false }, kinds := [], alts := [], laidByText := true, laidKinds := [.data, .data, .data, .listed, .data], laidTests := true, laidLooks := .later }
def FnTableMoreUptoCardSaid : Prop := Claim7.holds Tryz.pinned (.plain (OpenSpec.upto fnTableMoreSpec)) fnTableMoreUptoCard

/-- THE SECOND FORM's CARD OF 'laws.FnTableLeast'. -/
def fnTableLeastUptoCard : Claim7 := { stood := { row := fnTableLeastUptoRow, standIns := [], harness := (true, "794983a88f66eea0e0cc697fd422c1ad1490f7dc3d54ff5b98ab8fb3d7ebf46e"), looks := false }, kinds := [], alts := [], laidByText := true, laidKinds := [.data, .data, .data, .listed, .data], laidTests := true, laidLooks := .later }
def FnTableLeastUptoCardSaid : Prop := Claim7.holds Tryz.pinned (.plain (OpenSpec.upto fnTableLeastSpec)) fnTableLeastUptoCard

/-- THE SECOND FORM's CARD OF 'laws.FnTableOne'. -/
def fnTableOneUptoCard : Claim7 := { stood := { row := fnTableOneUptoRow, standIns := [], harness := (true, "794983a88f66eea0e0cc697fd422c1ad1490f7dc3d54ff5b98ab8fb3d7ebf46e"), looks := false }, kinds := [], alts := [], laidByText := true, laidKinds := [.data, .data, .data, .listed, .data], laidTests := true, laidLooks := .later }
def FnTableOneUptoCardSaid : Prop := Claim7.holds Tryz.pinned (.plain (OpenSpec.upto fnTableOneSpec)) fnTableOneUptoCard
end Rows
end Go.Proofs.YtogoehaagdldnaaGreatDoor
