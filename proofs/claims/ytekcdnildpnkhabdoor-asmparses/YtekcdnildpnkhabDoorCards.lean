/-
  DERIVED. GIVEN WITH THE SEED: THE CARDS: each row of YtekcdnildpnkhabDoorRows.lean that lists a variable, with what it lists TIED to the program's text (the seventh form; the later family's looks); each row that meets fmt, with fmt's text TOLD by the authors' own Lean function (tested against real Go, not proved from fmt's source: count such statements apart). THE CARD IS WHAT COUNTS. Prove the row's statement (the work); the ties are given (YtekcdnildpnkhabDoorTie.lean); close each card by the builder's one call (the guide's Derived/Test/ToyasCard.lean, 'card_holds'). Laid BY PROGRAM, IN A SANDBOX (cutbox-door.mjs). By AI agents, Wed Nov 11 2026. No macro, syntax, notation, axiom, sorry.
-/
import Derived.Test.YtekcdnildpnkhabDoorRows
import GoSem.ClaimSeven
namespace Go.Proofs.YtekcdnildpnkhabDoor
namespace Rows

/-- THE TIED CARD OF 'ferrybridgekeep.MachineTurns'. -/
def machineTurnsCard : Claim7 := { stood := { row := machineTurnsRow, standIns := [], harness := (true, "97bab437e970248798fad9f37c959954f8e9e9e01499538e891758331eb07fd8"), looks := true }, kinds := [], alts := [], laidByText := true, laidKinds := [.data, .data, .data, .data], laidTests := true, laidLooks := .later }
def MachineTurnsCardSaid : Prop := Claim7.holds Tryd.pinned (.plain (OpenSpec.ofChange machineTurnsSpec)) machineTurnsCard

/-- THE TIED CARD OF 'ferrybridgelaw.BlockMakes'. -/
def blockMakesCard : Claim7 := { stood := { row := blockMakesRow, standIns := [], harness := (true, "97bab437e970248798fad9f37c959954f8e9e9e01499538e891758331eb07fd8"), looks := true }, kinds := [], alts := [], laidByText := true, laidKinds := [.data, .data], laidTests := true, laidLooks := .later }
def BlockMakesCardSaid : Prop := Claim7.holds Tryd.pinned (.plain (OpenSpec.ofChange blockMakesSpec)) blockMakesCard

/-- THE TIED CARD OF 'ferrybridgelaw.MicroRuns'. -/
def microRunsCard : Claim7 := { stood := { row := microRunsRow, standIns := [], harness := (true, "97bab437e970248798fad9f37c959954f8e9e9e01499538e891758331eb07fd8"), looks := true }, kinds := [], alts := [], laidByText := true, laidKinds := [.data, .data], laidTests := true, laidLooks := .later }
def MicroRunsCardSaid : Prop := Claim7.holds Tryd.pinned (.plain (OpenSpec.ofChange microRunsSpec)) microRunsCard

/-- THE TIED CARD OF 'ferrybridgelaw.TransMay'. -/
def transMayCard : Claim7 := { stood := { row := transMayRow, standIns := [], harness := (true, "97bab437e970248798fad9f37c959954f8e9e9e01499538e891758331eb07fd8"), looks := true }, kinds := [], alts := [], laidByText := true, laidKinds := [.data, .data, .data], laidTests := true, laidLooks := .later }
def TransMayCardSaid : Prop := Claim7.holds Tryd.pinned (.plain (OpenSpec.ofChange transMaySpec)) transMayCard

/-- THE TIED CARD OF 'ferrybridgelaw.TransSame'. -/
def transSameCard : Claim7 := { stood := { row := transSameRow, standIns := [], harness := (true, "97bab437e970248798fad9f37c959954f8e9e9e01499538e891758331eb07fd8"), looks := true }, kinds := [], alts := [], laidByText := true, laidKinds := [.data, .data, .data], laidTests := true, laidLooks := .later }
def TransSameCardSaid : Prop := Claim7.holds Tryd.pinned (.plain (OpenSpec.ofChange transSameSpec)) transSameCard

/-- THE TIED CARD OF 'ferrybridgelaw.AsmPrints'. -/
def asmPrintsCard : Claim7 := { stood := { row := asmPrintsRow, standIns := [], harness := (true, "97bab437e970248798fad9f37c959954f8e9e9e01499538e891758331eb07fd8"), looks := true }, kinds := [], alts := [], laidByText := true, laidKinds := [.data, .data, .data, .data, .data, .data, .data], laidTests := true, laidLooks := .later }
def AsmPrintsCardSaid : Prop := Claim7.holds Tryd.pinned (.plain (OpenSpec.ofChange asmPrintsSpec)) asmPrintsCard

/-- THE TIED CARD OF 'ferrybridgelaw.AsmParses'. -/
def asmParsesCard : Claim7 := { stood := { row := asmParsesRow, standIns := [], harness := (true, "97bab437e970248798fad9f37c959954f8e9e9e01499538e891758331eb07fd8"), looks := true }, kinds := [], alts := [], laidByText := true, laidKinds := [.data, .data, .data, .data, .data, .sentinel, .sentinel, .data, .data], laidTests := true, laidLooks := .later }
def AsmParsesCardSaid : Prop := Claim7.holds Tryd.pinned (.plain (OpenSpec.ofChange asmParsesSpec)) asmParsesCard

/-- THE SECOND FORM's CARD OF 'ferrybridgekeep.MachineTurns'. -/
def machineTurnsUptoCard : Claim7 := { stood := { row := machineTurnsUptoRow, standIns := [], harness := (true, "97bab437e970248798fad9f37c959954f8e9e9e01499538e891758331eb07fd8"), looks := true }, kinds := [], alts := [], laidByText := true, laidKinds := [.data, .data, .data, .data], laidTests := true, laidLooks := .later }
def MachineTurnsUptoCardSaid : Prop := Claim7.holds Tryd.pinned (.plain (OpenSpec.upto machineTurnsSpec)) machineTurnsUptoCard

/-- THE SECOND FORM's CARD OF 'ferrybridgelaw.BlockMakes'. -/
def blockMakesUptoCard : Claim7 := { stood := { row := blockMakesUptoRow, standIns := [], harness := (true, "97bab437e970248798fad9f37c959954f8e9e9e01499538e891758331eb07fd8"), looks := true }, kinds := [], alts := [], laidByText := true, laidKinds := [.data, .data], laidTests := true, laidLooks := .later }
def BlockMakesUptoCardSaid : Prop := Claim7.holds Tryd.pinned (.plain (OpenSpec.upto blockMakesSpec)) blockMakesUptoCard

/-- THE SECOND FORM's CARD OF 'ferrybridgelaw.MicroRuns'. -/
def microRunsUptoCard : Claim7 := { stood := { row := microRunsUptoRow, standIns := [], harness := (true, "97bab437e970248798fad9f37c959954f8e9e9e01499538e891758331eb07fd8"), looks := true }, kinds := [], alts := [], laidByText := true, laidKinds := [.data, .data], laidTests := true, laidLooks := .later }
def MicroRunsUptoCardSaid : Prop := Claim7.holds Tryd.pinned (.plain (OpenSpec.upto microRunsSpec)) microRunsUptoCard

/-- THE SECOND FORM's CARD OF 'ferrybridgelaw.TransMay'. -/
def transMayUptoCard : Claim7 := { stood := { row := transMayUptoRow, standIns := [], harness := (true, "97bab437e970248798fad9f37c959954f8e9e9e01499538e891758331eb07fd8"), looks := true }, kinds := [], alts := [], laidByText := true, laidKinds := [.data, .data, .data], laidTests := true, laidLooks := .later }
def TransMayUptoCardSaid : Prop := Claim7.holds Tryd.pinned (.plain (OpenSpec.upto transMaySpec)) transMayUptoCard

/-- THE SECOND FORM's CARD OF 'ferrybridgelaw.TransSame'. -/
def transSameUptoCard : Claim7 := { stood := { row := transSameUptoRow, standIns := [], harness := (true, "97bab437e970248798fad9f37c959954f8e9e9e01499538e891758331eb07fd8"), looks := true }, kinds := [], alts := [], laidByText := true, laidKinds := [.data, .data, .data], laidTests := true, laidLooks := .later }
def TransSameUptoCardSaid : Prop := Claim7.holds Tryd.pinned (.plain (OpenSpec.upto transSameSpec)) transSameUptoCard

/-- THE SECOND FORM's CARD OF 'ferrybridgelaw.AsmPrints'. -/
def asmPrintsUptoCard : Claim7 := { stood := { row := asmPrintsUptoRow, standIns := [], harness := (true, "97bab437e970248798fad9f37c959954f8e9e9e01499538e891758331eb07fd8"), looks := true }, kinds := [], alts := [], laidByText := true, laidKinds := [.data, .data, .data, .data, .data, .data, .data], laidTests := true, laidLooks := .later }
def AsmPrintsUptoCardSaid : Prop := Claim7.holds Tryd.pinned (.plain (OpenSpec.upto asmPrintsSpec)) asmPrintsUptoCard

/-- THE SECOND FORM's CARD OF 'ferrybridgelaw.AsmParses'. -/
def asmParsesUptoCard : Claim7 := { stood := { row := asmParsesUptoRow, standIns := [], harness := (true, "97bab437e970248798fad9f37c959954f8e9e9e01499538e891758331eb07fd8"), looks := true }, kinds := [], alts := [], laidByText := true, laidKinds := [.data, .data, .data, .data, .data, .sentinel, .sentinel, .data, .data], laidTests := true, laidLooks := .later }
def AsmParsesUptoCardSaid : Prop := Claim7.holds Tryd.pinned (.plain (OpenSpec.upto asmParsesSpec)) asmParsesUptoCard
end Rows
end Go.Proofs.YtekcdnildpnkhabDoor
