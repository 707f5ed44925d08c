/-
  DERIVED. GIVEN WITH THE SEED: THE CARDS: each row of YtajcjanfllpcgaaDoorRows.lean that lists a variable, with what it lists TIED to the program's text (the seventh form; the later family's looks); each row that meets fmt, with fmt's text TOLD by the authors' own Lean function (tested against real Go, not proved from fmt's source: count such statements apart). THE CARD IS WHAT COUNTS. Prove the row's statement (the work); the ties are given (YtajcjanfllpcgaaDoorTie.lean); close each card by the builder's one call (the guide's Derived/Test/ToyasCard.lean, 'card_holds'). Laid BY PROGRAM, IN A SANDBOX (cutbox-door.mjs). By AI agents, Wed Nov 11 2026. No macro, syntax, notation, axiom, sorry.
-/
import Derived.Test.YtajcjanfllpcgaaDoorRows
import GoSem.ClaimSeven
namespace Go.Proofs.YtajcjanfllpcgaaDoor
namespace Rows

/-- THE TIED CARD OF 'laws.FnCoordBox'. -/
def fnCoordBoxCard : Claim7 := { stood := { row := fnCoordBoxRow, standIns := [], harness := (true, "6b7d77297832e7f176fbe8e7fd8922548e9ba414baffb9854612d37b0d248631"), looks := false }, kinds := [], alts := [], laidByText := true, laidKinds := [.data], laidTests := true, laidLooks := .later }
def FnCoordBoxCardSaid : Prop := Claim7.holds Tryd.pinned (.plain (OpenSpec.ofChange fnCoordBoxSpec)) fnCoordBoxCard

/-- THE TIED CARD OF 'laws.FnCoordBad'. -/
def fnCoordBadCard : Claim7 := { stood := { row := fnCoordBadRow, standIns := [], harness := (true, "6b7d77297832e7f176fbe8e7fd8922548e9ba414baffb9854612d37b0d248631"), looks := false }, kinds := [], alts := [], laidByText := true, laidKinds := [.data], laidTests := true, laidLooks := .later }
def FnCoordBadCardSaid : Prop := Claim7.holds Tryd.pinned (.plain (OpenSpec.ofChange fnCoordBadSpec)) fnCoordBadCard

/-- THE TIED CARD OF 'laws.FnCoordNear'. -/
def fnCoordNearCard : Claim7 := { stood := { row := fnCoordNearRow, standIns := [], harness := (true, "6b7d77297832e7f176fbe8e7fd8922548e9ba414baffb9854612d37b0d248631"), looks := false }, kinds := [], alts := [], laidByText := true, laidKinds := [.data], laidTests := true, laidLooks := .later }
def FnCoordNearCardSaid : Prop := Claim7.holds Tryd.pinned (.plain (OpenSpec.ofChange fnCoordNearSpec)) fnCoordNearCard

/-- THE TIED CARD OF 'laws.FnCoordTurn'. -/
def fnCoordTurnCard : Claim7 := { stood := { row := fnCoordTurnRow, standIns := [], harness := (true, "6b7d77297832e7f176fbe8e7fd8922548e9ba414baffb9854612d37b0d248631"), looks := false }, kinds := [], alts := [], laidByText := true, laidKinds := [.data], laidTests := true, laidLooks := .later }
def FnCoordTurnCardSaid : Prop := Claim7.holds Tryd.pinned (.plain (OpenSpec.ofChange fnCoordTurnSpec)) fnCoordTurnCard

/-- THE TIED CARD OF 'laws.FnCoordStill'. -/
def fnCoordStillCard : Claim7 := { stood := { row := fnCoordStillRow, standIns := [], harness := (true, "6b7d77297832e7f176fbe8e7fd8922548e9ba414baffb9854612d37b0d248631"), looks := false }, kinds := [], alts := [], laidByText := true, laidKinds := [.data], laidTests := true, laidLooks := .later }
def FnCoordStillCardSaid : Prop := Claim7.holds Tryd.pinned (.plain (OpenSpec.ofChange fnCoordStillSpec)) fnCoordStillCard

/-- THE TIED CARD OF 'laws.FnExactCoordMove'. -/
def fnExactCoordMoveCard : Claim7 := { stood := { row := fnExactCoordMoveRow, standIns := [], harness := (true, "6b7d77297832e7f176fbe8e7fd8922548e9ba414baffb9854612d37b0d248631"), looks := false }, kinds := [], alts := [], laidByText := true, laidKinds := [.data], laidTests := true, laidLooks := .later }
def FnExactCoordMoveCardSaid : Prop := Claim7.holds Tryd.pinned (.plain (OpenSpec.ofChange fnExactCoordMoveSpec)) fnExactCoordMoveCard

/-- THE SECOND FORM's CARD OF 'laws.FnCoordBox'. -/
def fnCoordBoxUptoCard : Claim7 := { stood := { row := fnCoordBoxUptoRow, standIns := [], harness := (true, "6b7d77297832e7f176fbe8e7fd8922548e9ba414baffb9854612d37b0d248631"), looks := false }, kinds := [], alts := [], laidByText := true, laidKinds := [.data], laidTests := true, laidLooks := .later }
def FnCoordBoxUptoCardSaid : Prop := Claim7.holds Tryd.pinned (.plain (OpenSpec.upto fnCoordBoxSpec)) fnCoordBoxUptoCard

/-- THE SECOND FORM's CARD OF 'laws.FnCoordBad'. -/
def fnCoordBadUptoCard : Claim7 := { stood := { row := fnCoordBadUptoRow, standIns := [], harness := (true, "6b7d77297832e7f176fbe8e7fd8922548e9ba414baffb9854612d37b0d248631"), looks := false }, kinds := [], alts := [], laidByText := true, laidKinds := [.data], laidTests := true, laidLooks := .later }
def FnCoordBadUptoCardSaid : Prop := Claim7.holds Tryd.pinned (.plain (OpenSpec.upto fnCoordBadSpec)) fnCoordBadUptoCard

/-- THE SECOND FORM's CARD OF 'laws.FnCoordNear'. -/
def fnCoordNearUptoCard : Claim7 := { stood := { row := fnCoordNearUptoRow, standIns := [], harness := (true, "6b7d77297832e7f176fbe8e7fd8922548e9ba414baffb9854612d37b0d248631"), looks := false }, kinds := [], alts := [], laidByText := true, laidKinds := [.data], laidTests := true, laidLooks := .later }
def FnCoordNearUptoCardSaid : Prop := Claim7.holds Tryd.pinned (.plain (OpenSpec.upto fnCoordNearSpec)) fnCoordNearUptoCard

/-- THE SECOND FORM's CARD OF 'laws.FnCoordTurn'. -/
def fnCoordTurnUptoCard : Claim7 := { stood := { row := fnCoordTurnUptoRow, standIns := [], harness := (true, "6b7d77297832e7f176fbe8e7fd8922548e9ba414baffb9854612d37b0d248631"), looks := false }, kinds := [], alts := [], laidByText := true, laidKinds := [.data], laidTests := true, laidLooks := .later }
def FnCoordTurnUptoCardSaid : Prop := Claim7.holds Tryd.pinned (.plain (OpenSpec.upto fnCoordTurnSpec)) fnCoordTurnUptoCard

/-- THE SECOND FORM's CARD OF 'laws.FnCoordStill'. -/
def fnCoordStillUptoCard : Claim7 := { stood := { row := fnCoordStillUptoRow, standIns := [], harness := (true, "6b7d77297832e7f176fbe8e7fd8922548e9ba414baffb9854612d37b0d248631"), looks := false }, kinds := [], alts := [], laidByText := true, laidKinds := [.data], laidTests := true, laidLooks := .later }
def FnCoordStillUptoCardSaid : Prop := Claim7.holds Tryd.pinned (.plain (OpenSpec.upto fnCoordStillSpec)) fnCoordStillUptoCard

/-- THE SECOND FORM's CARD OF 'laws.FnExactCoordMove'. -/
def fnExactCoordMoveUptoCard : Claim7 := { stood := { row := fnExactCoordMoveUptoRow, standIns := [], harness := (true, "6b7d77297832e7f176fbe8e7fd8922548e9ba414baffb9854612d37b0d248631"), looks := false }, kinds := [], alts := [], laidByText := true, laidKinds := [.data], laidTests := true, laidLooks := .later }
def FnExactCoordMoveUptoCardSaid : Prop := Claim7.holds Tryd.pinned (.plain (OpenSpec.upto fnExactCoordMoveSpec)) fnExactCoordMoveUptoCard
end Rows
end Go.Proofs.YtajcjanfllpcgaaDoor
