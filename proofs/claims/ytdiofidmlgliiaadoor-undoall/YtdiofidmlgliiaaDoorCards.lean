/-
  DERIVED. GIVEN WITH THE SEED: THE CARDS: each row of YtdiofidmlgliiaaDoorRows.lean that lists a variable, with what it lists TIED to the program's text (the seventh form; the later family's looks); each row that meets fmt, with fmt's text TOLD by the authors' own Lean function (tested against real Go, not proved from fmt's source: count such statements apart). THE CARD IS WHAT COUNTS. Prove the row's statement (the work); the ties are given (YtdiofidmlgliiaaDoorTie.lean); close each card by the builder's one call (the guide's Derived/Test/ToyasCard.lean, 'card_holds'). Laid BY PROGRAM, IN A SANDBOX (cutbox-door.mjs). By AI agents, Wed Nov 11 2026. No macro, syntax, notation, axiom, sorry.
-/
import Derived.Test.YtdiofidmlgliiaaDoorRows
import GoSem.ClaimSeven
namespace Go.Proofs.YtdiofidmlgliiaaDoor
namespace Rows

/-- THE TIED CARD OF 'ferrybridgekeep.AsmBack'. -/
def asmBackCard : Claim7 := { stood := { row := asmBackRow, standIns := [], harness := (true, "b090326e4279fba84165f68b017b4cbcce8ed920afe0cb0a2d4ed72e7532ce43"), looks := true }, kinds := [], alts := [], laidByText := true, laidKinds := [.data, .data, .data, .data, .data, .sentinel, .sentinel, .data, .data], laidTests := true, laidLooks := .later }
def AsmBackCardSaid : Prop := Claim7.holds Tryd.pinned (.plain (OpenSpec.ofChange asmBackSpec)) asmBackCard

/-- THE TIED CARD OF 'ferrybridgekeep.AsmAgain'. -/
def asmAgainCard : Claim7 := { stood := { row := asmAgainRow, standIns := [], harness := (true, "b090326e4279fba84165f68b017b4cbcce8ed920afe0cb0a2d4ed72e7532ce43"), looks := true }, kinds := [], alts := [], laidByText := true, laidKinds := [.data, .data, .data, .data, .data, .sentinel, .sentinel, .data, .data], laidTests := true, laidLooks := .later }
def AsmAgainCardSaid : Prop := Claim7.holds Tryd.pinned (.plain (OpenSpec.ofChange asmAgainSpec)) asmAgainCard

/-- THE TIED CARD OF 'ferrybridgelaw.UndoRuns'. -/
def undoRunsCard : Claim7 := { stood := { row := undoRunsRow, standIns := [], harness := (true, "b090326e4279fba84165f68b017b4cbcce8ed920afe0cb0a2d4ed72e7532ce43"), looks := true }, kinds := [], alts := [], laidByText := true, laidKinds := [.data, .data, .data, .data], laidTests := true, laidLooks := .later }
def UndoRunsCardSaid : Prop := Claim7.holds Tryd.pinned (.plain (OpenSpec.ofChange undoRunsSpec)) undoRunsCard

/-- THE TIED CARD OF 'ferrybridgelaw.UndoTakes'. -/
def undoTakesCard : Claim7 := { stood := { row := undoTakesRow, standIns := [], harness := (true, "b090326e4279fba84165f68b017b4cbcce8ed920afe0cb0a2d4ed72e7532ce43"), looks := true }, kinds := [], alts := [], laidByText := true, laidKinds := [.data, .data, .data, .data], laidTests := true, laidLooks := .later }
def UndoTakesCardSaid : Prop := Claim7.holds Tryd.pinned (.plain (OpenSpec.ofChange undoTakesSpec)) undoTakesCard

/-- THE TIED CARD OF 'ferrybridgekeep.UndoAll'. -/
def undoAllCard : Claim7 := { stood := { row := undoAllRow, standIns := [], harness := (true, "b090326e4279fba84165f68b017b4cbcce8ed920afe0cb0a2d4ed72e7532ce43"), looks := true }, kinds := [], alts := [], laidByText := true, laidKinds := [.data, .data, .data, .data], laidTests := true, laidLooks := .later }
def UndoAllCardSaid : Prop := Claim7.holds Tryd.pinned (.plain (OpenSpec.ofChange undoAllSpec)) undoAllCard

/-- THE SECOND FORM's CARD OF 'ferrybridgekeep.AsmBack'. -/
def asmBackUptoCard : Claim7 := { stood := { row := asmBackUptoRow, standIns := [], harness := (true, "b090326e4279fba84165f68b017b4cbcce8ed920afe0cb0a2d4ed72e7532ce43"), looks := true }, kinds := [], alts := [], laidByText := true, laidKinds := [.data, .data, .data, .data, .data, .sentinel, .sentinel, .data, .data], laidTests := true, laidLooks := .later }
def AsmBackUptoCardSaid : Prop := Claim7.holds Tryd.pinned (.plain (OpenSpec.upto asmBackSpec)) asmBackUptoCard

/-- THE SECOND FORM's CARD OF 'ferrybridgekeep.AsmAgain'. -/
def asmAgainUptoCard : Claim7 := { stood := { row := asmAgainUptoRow, standIns := [], harness := (true, "b090326e4279fba84165f68b017b4cbcce8ed920afe0cb0a2d4ed72e7532ce43"), looks := true }, kinds := [], alts := [], laidByText := true, laidKinds := [.data, .data, .data, .data, .data, .sentinel, .sentinel, .data, .data], laidTests := true, laidLooks := .later }
def AsmAgainUptoCardSaid : Prop := Claim7.holds Tryd.pinned (.plain (OpenSpec.upto asmAgainSpec)) asmAgainUptoCard

/-- THE SECOND FORM's CARD OF 'ferrybridgelaw.UndoRuns'. -/
def undoRunsUptoCard : Claim7 := { stood := { row := undoRunsUptoRow, standIns := [], harness := (true, "b090326e4279fba84165f68b017b4cbcce8ed920afe0cb0a2d4ed72e7532ce43"), looks := true }, kinds := [], alts := [], laidByText := true, laidKinds := [.data, .data, .data, .data], laidTests := true, laidLooks := .later }
def UndoRunsUptoCardSaid : Prop := Claim7.holds Tryd.pinned (.plain (OpenSpec.upto undoRunsSpec)) undoRunsUptoCard

/-- THE SECOND FORM's CARD OF 'ferrybridgelaw.UndoTakes'. -/
def undoTakesUptoCard : Claim7 := { stood := { row := undoTakesUptoRow, standIns := [], harness := (true, "b090326e4279fba84165f68b017b4cbcce8ed920afe0cb0a2d4ed72e7532ce43"), looks := true }, kinds := [], alts := [], laidByText := true, laidKinds := [.data, .data, .data, .data], laidTests := true, laidLooks := .later }
def UndoTakesUptoCardSaid : Prop := Claim7.holds Tryd.pinned (.plain (OpenSpec.upto undoTakesSpec)) undoTakesUptoCard

/-- THE SECOND FORM's CARD OF 'ferrybridgekeep.UndoAll'. -/
def undoAllUptoCard : Claim7 := { stood := { row := undoAllUptoRow, standIns := [], harness := (true, "b090326e4279fba84165f68b017b4cbcce8ed920afe0cb0a2d4ed72e7532ce43"), looks := true }, kinds := [], alts := [], laidByText := true, laidKinds := [.data, .data, .data, .data], laidTests := true, laidLooks := .later }
def UndoAllUptoCardSaid : Prop := Claim7.holds Tryd.pinned (.plain (OpenSpec.upto undoAllSpec)) undoAllUptoCard
end Rows
end Go.Proofs.YtdiofidmlgliiaaDoor
