/-
  DERIVED. GIVEN WITH THE SEED: THE CARDS: each row of YtchllaeembmioaaGreatDoorRows.lean that lists a variable, with what it lists TIED to the program's text (the seventh form; the later family's looks); each row that meets fmt, with fmt's text TOLD by the authors' own Lean function (tested against real Go, not proved from fmt's source: count such statements apart). THE CARD IS WHAT COUNTS. Prove the row's statement (the work); the ties are given (YtchllaeembmioaaGreatDoorTie.lean); close each card by the builder's one call (the guide's Derived/Test/ToyasCard.lean, 'card_holds'). Laid BY PROGRAM, IN A SANDBOX (cutbox-door.mjs). By AI agents, Wed Nov 11 2026. No macro, syntax, notation, axiom, sorry.
-/
import Derived.Test.YtchllaeembmioaaGreatDoorRows
import GoSem.ClaimSeven
namespace Go.Proofs.YtchllaeembmioaaGreatDoor
namespace Rows

/-- THE TIED CARD OF 'ferrybridgelaw.EngineSame'. -/
def engineSameCard : Claim7 := { stood := { row := engineSameRow, standIns := [], harness := (true, "d5d1b4744670e9afa3b98fef54de3d403d838c2943efcc4923517853192059f7"), looks := false }, kinds := [], alts := [], laidByText := true, laidKinds := [.data, .data, .data, .data, .data, .data], laidTests := true, laidLooks := .later }
def EngineSameCardSaid : Prop := Claim7.holds Tryz.pinned (.plain (OpenSpec.ofChange engineSameSpec)) engineSameCard

/-- THE TIED CARD OF 'ferrybridgelaw.EngineFresh'. -/
def engineFreshCard : Claim7 := { stood := { row := engineFreshRow, standIns := [], harness := (true, "d5d1b4744670e9afa3b98fef54de3d403d838c2943efcc4923517853192059f7"), looks := false }, kinds := [], alts := [], laidByText := true, laidKinds := [.data, .data, .data, .data, .data, .data], laidTests := true, laidLooks := .later }
def EngineFreshCardSaid : Prop := Claim7.holds Tryz.pinned (.plain (OpenSpec.ofChange engineFreshSpec)) engineFreshCard

/-- THE TIED CARD OF 'ferrybridgekeep.EngineRooms'. -/
def engineRoomsCard : Claim7 := { stood := { row := engineRoomsRow, standIns := [], harness := (true, "d5d1b4744670e9afa3b98fef54de3d403d838c2943efcc4923517853192059f7"), looks := false }, kinds := [], alts := [], laidByText := true, laidKinds := [.data, .data, .data, .data, .data, .data], laidTests := true, laidLooks := .later }
def EngineRoomsCardSaid : Prop := Claim7.holds Tryz.pinned (.plain (OpenSpec.ofChange engineRoomsSpec)) engineRoomsCard

/-- THE SECOND FORM's CARD OF 'ferrybridgelaw.EngineSame'. -/
def engineSameUptoCard : Claim7 := { stood := { row := engineSameUptoRow, standIns := [], harness := (true, "d5d1b4744670e9afa3b98fef54de3d403d838c2943efcc4923517853192059f7"), looks := false }, kinds := [], alts := [], laidByText := true, laidKinds := [.data, .data, .data, .data, .data, .data], laidTests := true, laidLooks := .later }
def EngineSameUptoCardSaid : Prop := Claim7.holds Tryz.pinned (.plain (OpenSpec.upto engineSameSpec)) engineSameUptoCard

/-- THE SECOND FORM's CARD OF 'ferrybridgelaw.EngineFresh'. -/
def engineFreshUptoCard : Claim7 := { stood := { row := engineFreshUptoRow, standIns := [], harness := (true, "d5d1b4744670e9afa3b98fef54de3d403d838c2943efcc4923517853192059f7"), looks := false }, kinds := [], alts := [], laidByText := true, laidKinds := [.data, .data, .data, .data, .data, .data], laidTests := true, laidLooks := .later }
def EngineFreshUptoCardSaid : Prop := Claim7.holds Tryz.pinned (.plain (OpenSpec.upto engineFreshSpec)) engineFreshUptoCard

/-- THE SECOND FORM's CARD OF 'ferrybridgekeep.EngineRooms'. -/
def engineRoomsUptoCard : Claim7 := { stood := { row := engineRoomsUptoRow, standIns := [], harness := (true, "d5d1b4744670e9afa3b98fef54de3d403d838c2943efcc4923517853192059f7"), looks := false }, kinds := [], alts := [], laidByText := true, laidKinds := [.data, .data, .data, .data, .data, .data], laidTests := true, laidLooks := .later }
def EngineRoomsUptoCardSaid : Prop := Claim7.holds Tryz.pinned (.plain (OpenSpec.upto engineRoomsSpec)) engineRoomsUptoCard
end Rows
end Go.Proofs.YtchllaeembmioaaGreatDoor
