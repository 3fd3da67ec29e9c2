/-
  What the document's chapter 2 answers: whether Decode ever answers an instruction, by its fields ('Is'). Conditions: Imm is of 32 bits.
-/
import Derived.Test.YtekcdnildpnkhacDoorRef2a
namespace Go.Proofs.YtekcdnildpnkhacDoor.Re
open Go.ChangeShapes Go.WideShapes Go.ChangeAt Go.RowKit Dw
set_option linter.unusedVariables false
set_option linter.unusedSimpArgs false

end Go.Proofs.YtekcdnildpnkhacDoor.Re
