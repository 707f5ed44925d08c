/-
  DERIVED. GIVEN WITH THE SEED: THE CARDS: each row of YtibnojbhoepcdaaGreatDoorRows.lean that lists a variable, with what it lists TIED to the program's text (the seventh form; the later family's looks); each row that meets fmt, with fmt's text TOLD by the authors' own Lean function (tested against real Go, not proved from fmt's source: count such statements apart). THE CARD IS WHAT COUNTS. Prove the row's statement (the work); the ties are given (YtibnojbhoepcdaaGreatDoorTie.lean); close each card by the builder's one call (the guide's Derived/Test/ToyasCard.lean, 'card_holds'). Laid BY PROGRAM, IN A SANDBOX (cutbox-door.mjs). By AI agents, Wed Nov 11 2026. No macro, syntax, notation, axiom, sorry.
-/
import Derived.Test.YtibnojbhoepcdaaGreatDoorRows
import GoSem.ClaimSeven
namespace Go.Proofs.YtibnojbhoepcdaaGreatDoor
namespace Rows

/-- THE TIED CARD OF 'laws.FnTableText'. -/
def fnTableTextCard : Claim7 := { stood := { row := fnTableTextRow, standIns := [], harness := (true, "d1515ad04debe9e6194b147439658c12a1ef92bead333f291079260de481f694"), looks := true }, kinds := [], alts := [], laidByText := true, laidKinds := [.data, .data, .data, .data, .sentinel, .sentinel, .listed, .data, .pinned], laidTests := true, laidLooks := .later }
def FnTableTextCardSaid : Prop := Claim7.holds Tryz.pinned (.plain (OpenSpec.ofChange fnTableTextSpec)) fnTableTextCard

/-- THE TIED CARD OF 'laws.FnWordText'. -/
def fnWordTextCard : Claim7 := { stood := { row := fnWordTextRow, standIns := [], harness := (true, "d1515ad04debe9e6194b147439658c12a1ef92bead333f291079260de481f694"), looks := true }, kinds := [], alts := [], laidByText := true, laidKinds := [.data, .data, .data, .data, .sentinel, .sentinel, .listed, .data, .pinned], laidTests := true, laidLooks := .later }
def FnWordTextCardSaid : Prop := Claim7.holds Tryz.pinned (.plain (OpenSpec.ofChange fnWordTextSpec)) fnWordTextCard

/-- THE TIED CARD OF 'laws.FnWordByte'. -/
def fnWordByteCard : Claim7 := { stood := { row := fnWordByteRow, standIns := [], harness := (true, "d1515ad04debe9e6194b147439658c12a1ef92bead333f291079260de481f694"), looks := true }, kinds := [], alts := [], laidByText := true, laidKinds := [.data, .data, .data, .data, .sentinel, .sentinel, .listed, .data, .pinned], laidTests := true, laidLooks := .later }
def FnWordByteCardSaid : Prop := Claim7.holds Tryz.pinned (.plain (OpenSpec.ofChange fnWordByteSpec)) fnWordByteCard

/-- THE TIED CARD OF 'laws.FnWordShort'. -/
def fnWordShortCard : Claim7 := { stood := { row := fnWordShortRow, standIns := [], harness := (true, "d1515ad04debe9e6194b147439658c12a1ef92bead333f291079260de481f694"), looks := true }, kinds := [], alts := [], laidByText := true, laidKinds := [.data, .data, .data, .data, .sentinel, .sentinel, .listed, .data, .pinned], laidTests := true, laidLooks := .later }
def FnWordShortCardSaid : Prop := Claim7.holds Tryz.pinned (.plain (OpenSpec.ofChange fnWordShortSpec)) fnWordShortCard

/-- THE TIED CARD OF 'laws.FnExactWordRead'. -/
def fnExactWordReadCard : Claim7 := { stood := { row := fnExactWordReadRow, standIns := [], harness := (true, "d1515ad04debe9e6194b147439658c12a1ef92bead333f291079260de481f694"), looks := true }, kinds := [], alts := [], laidByText := true, laidKinds := [.data, .data, .data, .data, .sentinel, .sentinel, .listed, .data, .pinned], laidTests := true, laidLooks := .later }
def FnExactWordReadCardSaid : Prop := Claim7.holds Tryz.pinned (.plain (OpenSpec.ofChange fnExactWordReadSpec)) fnExactWordReadCard

/-- THE SECOND FORM's CARD OF 'laws.FnTableText'. -/
def fnTableTextUptoCard : Claim7 := { stood := { row := fnTableTextUptoRow, standIns := [], harness := (true, "d1515ad04debe9e6194b147439658c12a1ef92bead333f291079260de481f694"), looks := true }, kinds := [], alts := [], laidByText := true, laidKinds := [.data, .data, .data, .data, .sentinel, .sentinel, .listed, .data, .pinned], laidTests := true, laidLooks := .later }
def FnTableTextUptoCardSaid : Prop := Claim7.holds Tryz.pinned (.plain (OpenSpec.upto fnTableTextSpec)) fnTableTextUptoCard

/-- THE SECOND FORM's CARD OF 'laws.FnWordText'. -/
def fnWordTextUptoCard : Claim7 := { stood := { row := fnWordTextUptoRow, standIns := [], harness := (true, "d1515ad04debe9e6194b147439658c12a1ef92bead333f291079260de481f694"), looks := true }, kinds := [], alts := [], laidByText := true, laidKinds := [.data, .data, .data, .data, .sentinel, .sentinel, .listed, .data, .pinned], laidTests := true, laidLooks := .later }
def FnWordTextUptoCardSaid : Prop := Claim7.holds Tryz.pinned (.plain (OpenSpec.upto fnWordTextSpec)) fnWordTextUptoCard

/-- THE SECOND FORM's CARD OF 'laws.FnWordByte'. -/
def fnWordByteUptoCard : Claim7 := { stood := { row := fnWordByteUptoRow, standIns := [], harness := (true, "d1515ad04debe9e6194b147439658c12a1ef92bead333f291079260de481f694"), looks := true }, kinds := [], alts := [], laidByText := true, laidKinds := [.data, .data, .data, .data, .sentinel, .sentinel, .listed, .data, .pinned], laidTests := true, laidLooks := .later }
def FnWordByteUptoCardSaid : Prop := Claim7.holds Tryz.pinned (.plain (OpenSpec.upto fnWordByteSpec)) fnWordByteUptoCard

/-- THE SECOND FORM's CARD OF 'laws.FnWordShort'. -/
def fnWordShortUptoCard : Claim7 := { stood := { row := fnWordShortUptoRow, standIns := [], harness := (true, "d1515ad04debe9e6194b147439658c12a1ef92bead333f291079260de481f694"), looks := true }, kinds := [], alts := [], laidByText := true, laidKinds := [.data, .data, .data, .data, .sentinel, .sentinel, .listed, .data, .pinned], laidTests := true, laidLooks := .later }
def FnWordShortUptoCardSaid : Prop := Claim7.holds Tryz.pinned (.plain (OpenSpec.upto fnWordShortSpec)) fnWordShortUptoCard

/-- THE SECOND FORM's CARD OF 'laws.FnExactWordRead'. -/
def fnExactWordReadUptoCard : Claim7 := { stood := { row := fnExactWordReadUptoRow, standIns := [], harness := (true, "d1515ad04debe9e6194b147439658c12a1ef92bead333f291079260de481f694"), looks := true }, kinds := [], alts := [], laidByText := true, laidKinds := [.data, .data, .data, .data, .sentinel, .sentinel, .listed, .data, .pinned], laidTests := true, laidLooks := .later }
def FnExactWordReadUptoCardSaid : Prop := Claim7.holds Tryz.pinned (.plain (OpenSpec.upto fnExactWordReadSpec)) fnExactWordReadUptoCard
end Rows
end Go.Proofs.YtibnojbhoepcdaaGreatDoor
