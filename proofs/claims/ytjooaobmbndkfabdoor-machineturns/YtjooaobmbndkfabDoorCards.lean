/-
  DERIVED. GIVEN WITH THE SEED: THE CARDS: each row of YtjooaobmbndkfabDoorRows.lean that lists a variable, with what it lists TIED to the program's text (the seventh form; the later family's looks); each row that meets fmt, with fmt's text TOLD by the authors' own Lean function (tested against real Go, not proved from fmt's source: count such statements apart). THE CARD IS WHAT COUNTS. Prove the row's statement (the work); the ties are given (YtjooaobmbndkfabDoorTie.lean); close each card by the builder's one call (the guide's Derived/Test/ToyasCard.lean, 'card_holds'). Laid BY PROGRAM, IN A SANDBOX (cutbox-door.mjs). By AI agents, Wed Nov 11 2026. No macro, syntax, notation, axiom, sorry.
-/
import Derived.Test.YtjooaobmbndkfabDoorRows
import GoSem.ClaimSeven
namespace Go.Proofs.YtjooaobmbndkfabDoor
namespace Rows

/-- THE TIED CARD OF 'ferrybridgekeep.MachineTurns'. -/
def machineTurnsCard : Claim7 := { stood := { row := machineTurnsRow, standIns := [], harness := (true, "1a10a5631e25e820007a93c3b2caeb70632291dd58707914d535372b5872cc5b"), looks := false }, kinds := [], alts := [], laidByText := true, laidKinds := [.data, .data, .data, .data], laidTests := true, laidLooks := .later }
def MachineTurnsCardSaid : Prop := Claim7.holds Tryd.pinned (.plain (OpenSpec.ofChange machineTurnsSpec)) machineTurnsCard

/-- THE SECOND FORM's CARD OF 'ferrybridgekeep.MachineTurns'. -/
def machineTurnsUptoCard : Claim7 := { stood := { row := machineTurnsUptoRow, standIns := [], harness := (true, "1a10a5631e25e820007a93c3b2caeb70632291dd58707914d535372b5872cc5b"), looks := false }, kinds := [], alts := [], laidByText := true, laidKinds := [.data, .data, .data, .data], laidTests := true, laidLooks := .later }
def MachineTurnsUptoCardSaid : Prop := Claim7.holds Tryd.pinned (.plain (OpenSpec.upto machineTurnsSpec)) machineTurnsUptoCard
end Rows
end Go.Proofs.YtjooaobmbndkfabDoor
