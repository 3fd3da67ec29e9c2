/-
  DERIVED. GIVEN WITH THE SEED: THE CARDS: each row of YtjmebljmpchflaaDoorRows.lean that lists a variable, with what it lists TIED to the program's text (the seventh form; the later family's looks); each row that meets fmt, with fmt's text TOLD by the authors' own Lean function (tested against real Go, not proved from fmt's source: count such statements apart). THE CARD IS WHAT COUNTS. Prove the row's statement (the work); the ties are given (YtjmebljmpchflaaDoorTie.lean); close each card by the builder's one call (the guide's Derived/Test/ToyasCard.lean, 'card_holds'). Laid BY PROGRAM, IN A SANDBOX (cutbox-door.mjs). By AI agents, Wed Nov 11 2026. No macro, syntax, notation, axiom, sorry.
-/
import Derived.Test.YtjmebljmpchflaaDoorRows
import GoSem.ClaimSeven
namespace Go.Proofs.YtjmebljmpchflaaDoor
namespace Rows

/-- THE TIED CARD OF 'ferrybridgelaw.DecodeTells'. -/
def decodeTellsCard : Claim7 := { stood := { row := decodeTellsRow, standIns := [], harness := (true, "65e0415f5100fac5bfcdf36415f178392dafee705fa0d7cf7da1d890dc0795d3"), looks := false }, kinds := [], alts := [], laidByText := true, laidKinds := [.data, .data], laidTests := true, laidLooks := .later }
def DecodeTellsCardSaid : Prop := Claim7.holds Tryd.pinned (.plain (OpenSpec.ofChange decodeTellsSpec)) decodeTellsCard

/-- THE TIED CARD OF 'ferrybridgelaw.DecodeEncodes'. -/
def decodeEncodesCard : Claim7 := { stood := { row := decodeEncodesRow, standIns := [], harness := (true, "65e0415f5100fac5bfcdf36415f178392dafee705fa0d7cf7da1d890dc0795d3"), looks := false }, kinds := [], alts := [], laidByText := true, laidKinds := [.data, .data], laidTests := true, laidLooks := .later }
def DecodeEncodesCardSaid : Prop := Claim7.holds Tryd.pinned (.plain (OpenSpec.ofChange decodeEncodesSpec)) decodeEncodesCard

/-- THE TIED CARD OF 'ferrybridgekeep.DecodeBack'. -/
def decodeBackCard : Claim7 := { stood := { row := decodeBackRow, standIns := [], harness := (true, "65e0415f5100fac5bfcdf36415f178392dafee705fa0d7cf7da1d890dc0795d3"), looks := false }, kinds := [], alts := [], laidByText := true, laidKinds := [.data, .data], laidTests := true, laidLooks := .later }
def DecodeBackCardSaid : Prop := Claim7.holds Tryd.pinned (.plain (OpenSpec.ofChange decodeBackSpec)) decodeBackCard

/-- THE TIED CARD OF 'ferrybridgelaw.HartSteps'. -/
def hartStepsCard : Claim7 := { stood := { row := hartStepsRow, standIns := [], harness := (true, "65e0415f5100fac5bfcdf36415f178392dafee705fa0d7cf7da1d890dc0795d3"), looks := false }, kinds := [], alts := [], laidByText := true, laidKinds := [.data, .data, .data, .data], laidTests := true, laidLooks := .later }
def HartStepsCardSaid : Prop := Claim7.holds Tryd.pinned (.plain (OpenSpec.ofChange hartStepsSpec)) hartStepsCard

/-- THE TIED CARD OF 'ferrybridgekeep.HartZero'. -/
def hartZeroCard : Claim7 := { stood := { row := hartZeroRow, standIns := [], harness := (true, "65e0415f5100fac5bfcdf36415f178392dafee705fa0d7cf7da1d890dc0795d3"), looks := false }, kinds := [], alts := [], laidByText := true, laidKinds := [.data, .data, .data, .data], laidTests := true, laidLooks := .later }
def HartZeroCardSaid : Prop := Claim7.holds Tryd.pinned (.plain (OpenSpec.ofChange hartZeroSpec)) hartZeroCard

/-- THE SECOND FORM's CARD OF 'ferrybridgelaw.DecodeTells'. -/
def decodeTellsUptoCard : Claim7 := { stood := { row := decodeTellsUptoRow, standIns := [], harness := (true, "65e0415f5100fac5bfcdf36415f178392dafee705fa0d7cf7da1d890dc0795d3"), looks := false }, kinds := [], alts := [], laidByText := true, laidKinds := [.data, .data], laidTests := true, laidLooks := .later }
def DecodeTellsUptoCardSaid : Prop := Claim7.holds Tryd.pinned (.plain (OpenSpec.upto decodeTellsSpec)) decodeTellsUptoCard

/-- THE SECOND FORM's CARD OF 'ferrybridgelaw.DecodeEncodes'. -/
def decodeEncodesUptoCard : Claim7 := { stood := { row := decodeEncodesUptoRow, standIns := [], harness := (true, "65e0415f5100fac5bfcdf36415f178392dafee705fa0d7cf7da1d890dc0795d3"), looks := false }, kinds := [], alts := [], laidByText := true, laidKinds := [.data, .data], laidTests := true, laidLooks := .later }
def DecodeEncodesUptoCardSaid : Prop := Claim7.holds Tryd.pinned (.plain (OpenSpec.upto decodeEncodesSpec)) decodeEncodesUptoCard

/-- THE SECOND FORM's CARD OF 'ferrybridgekeep.DecodeBack'. -/
def decodeBackUptoCard : Claim7 := { stood := { row := decodeBackUptoRow, standIns := [], harness := (true, "65e0415f5100fac5bfcdf36415f178392dafee705fa0d7cf7da1d890dc0795d3"), looks := false }, kinds := [], alts := [], laidByText := true, laidKinds := [.data, .data], laidTests := true, laidLooks := .later }
def DecodeBackUptoCardSaid : Prop := Claim7.holds Tryd.pinned (.plain (OpenSpec.upto decodeBackSpec)) decodeBackUptoCard

/-- THE SECOND FORM's CARD OF 'ferrybridgelaw.HartSteps'. -/
def hartStepsUptoCard : Claim7 := { stood := { row := hartStepsUptoRow, standIns := [], harness := (true, "65e0415f5100fac5bfcdf36415f178392dafee705fa0d7cf7da1d890dc0795d3"), looks := false }, kinds := [], alts := [], laidByText := true, laidKinds := [.data, .data, .data, .data], laidTests := true, laidLooks := .later }
def HartStepsUptoCardSaid : Prop := Claim7.holds Tryd.pinned (.plain (OpenSpec.upto hartStepsSpec)) hartStepsUptoCard

/-- THE SECOND FORM's CARD OF 'ferrybridgekeep.HartZero'. -/
def hartZeroUptoCard : Claim7 := { stood := { row := hartZeroUptoRow, standIns := [], harness := (true, "65e0415f5100fac5bfcdf36415f178392dafee705fa0d7cf7da1d890dc0795d3"), looks := false }, kinds := [], alts := [], laidByText := true, laidKinds := [.data, .data, .data, .data], laidTests := true, laidLooks := .later }
def HartZeroUptoCardSaid : Prop := Claim7.holds Tryd.pinned (.plain (OpenSpec.upto hartZeroSpec)) hartZeroUptoCard
end Rows
end Go.Proofs.YtjmebljmpchflaaDoor
