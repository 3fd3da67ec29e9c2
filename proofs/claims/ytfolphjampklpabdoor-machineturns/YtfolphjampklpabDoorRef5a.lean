/-
  What ferrybridgeref5.Wrong answers, of every machine and script.
-/
import Derived.Test.YtfolphjampklpabDoorMh
namespace Go.Proofs.YtfolphjampklpabDoor.Mc
open Go.ChangeShapes Go.WideShapes Go.ChangeAt Go.RowKit Mm Hh
set_option linter.unusedVariables false
set_option linter.unusedSimpArgs false

theorem iH : (Tryd.prog.info? 52).map (·.size) = some 37 := by kernel_rfl
end Go.Proofs.YtfolphjampklpabDoor.Mc
