/-
  What the small functions of package ferrybridgeref4 return: trap, set, each of every struct that a step did; and nothing old in memory turns.
-/
import Derived.Test.YtkcgcflpmggjkabDoorHs
import Derived.Test.YtkcgcflpmggjkabDoorWord
import Derived.Test.YtkcgcflpmggjkabDoorRef1Alu
namespace Go.Proofs.YtkcgcflpmggjkabDoor.Hr
open Go.ChangeShapes Go.WideShapes Go.ChangeAt Go.RowKit Mm Hh
set_option linter.unusedVariables false
set_option linter.unusedSimpArgs false

theorem iH : (Tryd.prog.info? 48).map (·.size) = some 37 := by kernel_rfl
theorem ret_int {k : IntKind} {a b : Int} (h : a = b) : Ending.returned (.int k a) = .returned (.int k b) := by rw [h]

end Go.Proofs.YtkcgcflpmggjkabDoor.Hr
