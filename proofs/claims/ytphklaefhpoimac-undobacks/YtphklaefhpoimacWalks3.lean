/-
  What read and Decode return. Conditions: the tables hold what their initialisers lay ('Tab'); words are from 0 to 2^32 - 1.
-/
import Derived.Test.YtphklaefhpoimacWalks2
namespace Go.Proofs.Ytphklaefhpoimac.Dw
open Go.ChangeShapes Go.WideShapes Go.ChangeAt Go.RowKit
set_option linter.unusedVariables false
set_option linter.unusedSimpArgs false

/-- An instruction, as its five fields. -/
def insV (op rd rs1 rs2 imm : Int) : Value := .agg #[.int .i64 op, .int .i64 rd, .int .i64 rs1, .int .i64 rs2, .int .i32 imm]
/-- A block that was made just ahead stands, and is not marked. -/
theorem fresh_of {w w1 : World} {c : Array Value} {t : TypeId} (g : Gr (w.alloc (.cells c t)) w1) :
    (∀ i v, c[i]? = some v → w1.cell? ⟨w.heap.size, i, none⟩ = some v) ∧ (∀ i, w1.frozen? ⟨w.heap.size, i, none⟩ = false) ∧ w.heap.size < w1.heap.size := by
  have hs : (w.alloc (.cells c t)).heap.size = w.heap.size + 1 := by simp
  refine ⟨fun i v h => ?_, fun i => ?_, by have := g.size; omega⟩
  · rw [g.cell _ _ (by omega), World.cell?_alloc_new, h]
  · rw [g.2, frozen?_alloc_cells]
    simp [World.frozen?]
end Go.Proofs.Ytphklaefhpoimac.Dw
