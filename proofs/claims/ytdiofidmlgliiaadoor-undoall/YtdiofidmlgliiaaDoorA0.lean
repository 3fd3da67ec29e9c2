/-
  Laws of the library in short: a cell of a row that is written out, a row behind a store.
-/
import Derived.Laws.Rows
import Derived.Laws.Tables
namespace Go.Proofs.YtdiofidmlgliiaaDoor
set_option linter.unusedVariables false

variable {w : World} {g t : Nat} {fr : Nat × Nat} {a0 a1 a2 a3 a4 a5 a6 a7 : Value} {r : List Value}
theorem cr {w : World} {g j : Nat} {cs : Array Value} {t : TypeId} {fr : Nat × Nat} (h : w.heap[g]? = some (.cells cs t fr)) : w.cell? ⟨g, j, none⟩ = cs[j]? := cell_of_row _ _ _ _ _ _ h
theorem fzr {w : World} {g j : Nat} {cs : Array Value} {t : TypeId} (h : w.heap[g]? = some (.cells cs t (0, 0))) : w.frozen? ⟨g, j, none⟩ = false := frozen_of_row _ _ _ _ _ h
theorem hss {w : World} {g i : Nat} {cs : Array Value} {t : TypeId} {v : Value} (h : w.heap[g]? = some (.cells cs t (0, 0))) : (w.setCell ⟨g, i, none⟩ v).heap[g]? = some (.cells (cs.setIfInBounds i v) t (0, 0)) := heap_setCell_same _ _ _ _ _ _ h
theorem hso {w : World} {a : Addr} {k : Nat} {v : Value} (h : k ≠ a.block) : (w.setCell a v).heap[k]? = w.heap[k]? := heap_setCell_other _ _ _ _ h
theorem sro {w : World} {g k : Nat} {cs : Array Value} (h : k ≠ g) : (w.setRow g cs).heap[k]? = w.heap[k]? := setRow_other _ _ _ _ h
theorem srh {w : World} {g : Nat} {old cs : Array Value} {t : TypeId} (h : w.heap[g]? = some (.cells old t (0, 0))) : (w.setRow g cs).heap[g]? = some (.cells cs t (0, 0)) := setRow_heap _ _ _ _ _ (0, 0) h
theorem gs {α : Type} {a : Array α} {i : Nat} {x : α} (h : a[i]? = some x) : ∃ h, a[i] = x := Array.getElem?_eq_some_iff.1 h
theorem cr0 (h : w.heap[g]? = some (.cells (a0 :: r).toArray t fr)) : w.cell? ⟨g, 0, none⟩ = some a0 := (cr h).trans (by simp)
theorem cr1 (h : w.heap[g]? = some (.cells (a0 :: a1 :: r).toArray t fr)) : w.cell? ⟨g, 1, none⟩ = some a1 := (cr h).trans (by simp)
theorem cr2 (h : w.heap[g]? = some (.cells (a0 :: a1 :: a2 :: r).toArray t fr)) : w.cell? ⟨g, 2, none⟩ = some a2 := (cr h).trans (by simp)
theorem cr3 (h : w.heap[g]? = some (.cells (a0 :: a1 :: a2 :: a3 :: r).toArray t fr)) : w.cell? ⟨g, 3, none⟩ = some a3 := (cr h).trans (by simp)
theorem cr4 (h : w.heap[g]? = some (.cells (a0 :: a1 :: a2 :: a3 :: a4 :: r).toArray t fr)) : w.cell? ⟨g, 4, none⟩ = some a4 := (cr h).trans (by simp)
theorem cr5 (h : w.heap[g]? = some (.cells (a0 :: a1 :: a2 :: a3 :: a4 :: a5 :: r).toArray t fr)) : w.cell? ⟨g, 5, none⟩ = some a5 := (cr h).trans (by simp)
theorem cr6 (h : w.heap[g]? = some (.cells (a0 :: a1 :: a2 :: a3 :: a4 :: a5 :: a6 :: r).toArray t fr)) : w.cell? ⟨g, 6, none⟩ = some a6 := (cr h).trans (by simp)
theorem cr7 (h : w.heap[g]? = some (.cells (a0 :: a1 :: a2 :: a3 :: a4 :: a5 :: a6 :: a7 :: r).toArray t fr)) : w.cell? ⟨g, 7, none⟩ = some a7 := (cr h).trans (by simp)
theorem cr8 {a8 : Value} (h : w.heap[g]? = some (.cells (a0 :: a1 :: a2 :: a3 :: a4 :: a5 :: a6 :: a7 :: a8 :: r).toArray t fr)) : w.cell? ⟨g, 8, none⟩ = some a8 := (cr h).trans (by simp)
end Go.Proofs.YtdiofidmlgliiaaDoor
