/-
  What the function Text of package ferrybridgeref11 answers: an instruction's text ('textB'). Printed by tools/mkav.py.
-/
import Derived.Test.YtekcdnildpnkhacDoorAt
namespace Go.Proofs.YtekcdnildpnkhacDoor.As
open Go.ChangeShapes Go.WideShapes Go.ChangeAt Go.RowKit Mm
set_option linter.unusedVariables false

theorem upA {w w' : World} (g : Gr w w') {k : Nat} {x : Obj} (h : w.heap[k]? = some x) : w'.heap[k]? = some x := by
  rw [Below.block g k (gs h).1]; exact h
end Go.Proofs.YtekcdnildpnkhacDoor.As
