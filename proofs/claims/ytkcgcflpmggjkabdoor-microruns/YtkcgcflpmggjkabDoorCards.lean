/-
  DERIVED. GIVEN WITH THE SEED: THE CARDS: each row of YtkcgcflpmggjkabDoorRows.lean that lists a variable, with what it lists TIED to the program's text (the seventh form; the later family's looks); each row that meets fmt, with fmt's text TOLD by the authors' own Lean function (tested against real Go, not proved from fmt's source: count such statements apart). THE CARD IS WHAT COUNTS. Prove the row's statement (the work); the ties are given (YtkcgcflpmggjkabDoorTie.lean); close each card by the builder's one call (the guide's Derived/Test/ToyasCard.lean, 'card_holds'). Laid BY PROGRAM, IN A SANDBOX (cutbox-door.mjs). By AI agents, Wed Nov 11 2026. No macro, syntax, notation, axiom, sorry.
-/
import Derived.Test.YtkcgcflpmggjkabDoorRows
import GoSem.ClaimSeven
namespace Go.Proofs.YtkcgcflpmggjkabDoor
namespace Rows

/-- THE TIED CARD OF 'ferrybridgekeep.MachineTurns'. -/
def machineTurnsCard : Claim7 := { stood := { row := machineTurnsRow, standIns := [], harness := (true, "f33802a6dfaefeddf3c77c8dd80648cce41fb2d0766851b051d4319c8e39ca52"), looks := false }, kinds := [], alts := [], laidByText := true, laidKinds := [.data, .data, .data, .data], laidTests := true, laidLooks := .later }
def MachineTurnsCardSaid : Prop := Claim7.holds Tryd.pinned (.plain (OpenSpec.ofChange machineTurnsSpec)) machineTurnsCard

/-- THE TIED CARD OF 'ferrybridgelaw.BlockMakes'. -/
def blockMakesCard : Claim7 := { stood := { row := blockMakesRow, standIns := [], harness := (true, "f33802a6dfaefeddf3c77c8dd80648cce41fb2d0766851b051d4319c8e39ca52"), looks := false }, kinds := [], alts := [], laidByText := true, laidKinds := [.data, .data], laidTests := true, laidLooks := .later }
def BlockMakesCardSaid : Prop := Claim7.holds Tryd.pinned (.plain (OpenSpec.ofChange blockMakesSpec)) blockMakesCard

/-- THE TIED CARD OF 'ferrybridgelaw.MicroRuns'. -/
def microRunsCard : Claim7 := { stood := { row := microRunsRow, standIns := [], harness := (true, "f33802a6dfaefeddf3c77c8dd80648cce41fb2d0766851b051d4319c8e39ca52"), looks := false }, kinds := [], alts := [], laidByText := true, laidKinds := [.data, .data], laidTests := true, laidLooks := .later }
def MicroRunsCardSaid : Prop := Claim7.holds Tryd.pinned (.plain (OpenSpec.ofChange microRunsSpec)) microRunsCard

/-- THE SECOND FORM's CARD OF 'ferrybridgekeep.MachineTurns'. -/
def machineTurnsUptoCard : Claim7 := { stood := { row := machineTurnsUptoRow, standIns := [], harness := (true, "f33802a6dfaefeddf3c77c8dd80648cce41fb2d0766851b051d4319c8e39ca52"), looks := false }, kinds := [], alts := [], laidByText := true, laidKinds := [.data, .data, .data, .data], laidTests := true, laidLooks := .later }
def MachineTurnsUptoCardSaid : Prop := Claim7.holds Tryd.pinned (.plain (OpenSpec.upto machineTurnsSpec)) machineTurnsUptoCard

/-- THE SECOND FORM's CARD OF 'ferrybridgelaw.BlockMakes'. -/
def blockMakesUptoCard : Claim7 := { stood := { row := blockMakesUptoRow, standIns := [], harness := (true, "f33802a6dfaefeddf3c77c8dd80648cce41fb2d0766851b051d4319c8e39ca52"), looks := false }, kinds := [], alts := [], laidByText := true, laidKinds := [.data, .data], laidTests := true, laidLooks := .later }
def BlockMakesUptoCardSaid : Prop := Claim7.holds Tryd.pinned (.plain (OpenSpec.upto blockMakesSpec)) blockMakesUptoCard

/-- THE SECOND FORM's CARD OF 'ferrybridgelaw.MicroRuns'. -/
def microRunsUptoCard : Claim7 := { stood := { row := microRunsUptoRow, standIns := [], harness := (true, "f33802a6dfaefeddf3c77c8dd80648cce41fb2d0766851b051d4319c8e39ca52"), looks := false }, kinds := [], alts := [], laidByText := true, laidKinds := [.data, .data], laidTests := true, laidLooks := .later }
def MicroRunsUptoCardSaid : Prop := Claim7.holds Tryd.pinned (.plain (OpenSpec.upto microRunsSpec)) microRunsUptoCard
end Rows
end Go.Proofs.YtkcgcflpmggjkabDoor
