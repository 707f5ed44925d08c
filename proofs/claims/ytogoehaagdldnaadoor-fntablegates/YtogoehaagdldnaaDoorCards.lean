/-
  DERIVED. GIVEN WITH THE SEED: THE CARDS: each row of YtogoehaagdldnaaDoorRows.lean that lists a variable, with what it lists TIED to the program's text (the seventh form; the later family's looks); each row that meets fmt, with fmt's text TOLD by the authors' own Lean function (tested against real Go, not proved from fmt's source: count such statements apart). THE CARD IS WHAT COUNTS. Prove the row's statement (the work); the ties are given (YtogoehaagdldnaaDoorTie.lean); close each card by the builder's one call (the guide's Derived/Test/ToyasCard.lean, 'card_holds'). Laid BY PROGRAM, IN A SANDBOX (cutbox-door.mjs). By AI agents, Wed Nov 11 2026. No macro, syntax, notation, axiom, sorry.
-/
import Derived.Test.YtogoehaagdldnaaDoorRows
import GoSem.ClaimSeven
namespace Go.Proofs.YtogoehaagdldnaaDoor
namespace Rows

/-- THE TIED CARD OF 'laws.FnTableGates'. -/
def fnTableGatesCard : Claim7 := { stood := { row := fnTableGatesRow, standIns := [], harness := (true, "3c4aff33b8a2d5a3f89a38b40c29bb0fbfa2dffa3852ee3490d00a9e39c9f467"), looks := false }, kinds := [], alts := [], laidByText := true, laidKinds := [.data, .data, .data, .listed, .data], laidTests := true, laidLooks := .later }
def FnTableGatesCardSaid : Prop := Claim7.holds Tryd.pinned (.plain (OpenSpec.ofChange fnTableGatesSpec)) fnTableGatesCard

/-- THE TIED CARD OF 'laws.FnViewCount'. -/
def fnViewCountCard : Claim7 := { stood := { row := fnViewCountRow, standIns := [], harness := (true, "3c4aff33b8a2d5a3f89a38b40c29bb0fbfa2dffa3852ee3490d00a9e39c9f467"), looks := false }, kinds := [], alts := [], laidByText := true, laidKinds := [.data, .data, .data, .listed, .data], laidTests := true, laidLooks := .later }
def FnViewCountCardSaid : Prop := Claim7.holds Tryd.pinned (.plain (OpenSpec.ofChange fnViewCountSpec)) fnViewCountCard

/-- THE TIED CARD OF 'laws.FnExactTableText'. -/
def fnExactTableTextCard : Claim7 := { stood := { row := fnExactTableTextRow, standIns := [], harness := (true, "3c4aff33b8a2d5a3f89a38b40c29bb0fbfa2dffa3852ee3490d00a9e39c9f467"), looks := false }, kinds := [], alts := [], laidByText := true, laidKinds := [.data, .data, .data, .listed, .data], laidTests := true, laidLooks := .later }
def FnExactTableTextCardSaid : Prop := Claim7.holds Tryd.pinned (.plain (OpenSpec.ofChange fnExactTableTextSpec)) fnExactTableTextCard

/-- THE SECOND FORM's CARD OF 'laws.FnTableGates'. -/
def fnTableGatesUptoCard : Claim7 := { stood := { row := fnTableGatesUptoRow, standIns := [], harness := (true, "3c4aff33b8a2d5a3f89a38b40c29bb0fbfa2dffa3852ee3490d00a9e39c9f467"), looks := false }, kinds := [], alts := [], laidByText := true, laidKinds := [.data, .data, .data, .listed, .data], laidTests := true, laidLooks := .later }
def FnTableGatesUptoCardSaid : Prop := Claim7.holds Tryd.pinned (.plain (OpenSpec.upto fnTableGatesSpec)) fnTableGatesUptoCard

/-- THE SECOND FORM's CARD OF 'laws.FnViewCount'. -/
def fnViewCountUptoCard : Claim7 := { stood := { row := fnViewCountUptoRow, standIns := [], harness := (true, "3c4aff33b8a2d5a3f89a38b40c29bb0fbfa2dffa3852ee3490d00a9e39c9f467"), looks := false }, kinds := [], alts := [], laidByText := true, laidKinds := [.data, .data, .data, .listed, .data], laidTests := true, laidLooks := .later }
def FnViewCountUptoCardSaid : Prop := Claim7.holds Tryd.pinned (.plain (OpenSpec.upto fnViewCountSpec)) fnViewCountUptoCard

/-- THE SECOND FORM's CARD OF 'laws.FnExactTableText'. -/
def fnExactTableTextUptoCard : Claim7 := { stood := { row := fnExactTableTextUptoRow, standIns := [], harness := (true, "3c4aff33b8a2d5a3f89a38b40c29bb0fbfa2dffa3852ee3490d00a9e39c9f467"), looks := false }, kinds := [], alts := [], laidByText := true, laidKinds := [.data, .data, .data, .listed, .data], laidTests := true, laidLooks := .later }
def FnExactTableTextUptoCardSaid : Prop := Claim7.holds Tryd.pinned (.plain (OpenSpec.upto fnExactTableTextSpec)) fnExactTableTextUptoCard
end Rows
end Go.Proofs.YtogoehaagdldnaaDoor
