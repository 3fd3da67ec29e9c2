/-
  What ferrybridgeref4.store returns: the struct with the memory stored in, or as it was; and nothing old in memory turns.
-/
import Derived.Test.YtkcgcflpmggjkabDoorRef4a
import Derived.Test.YtkcgcflpmggjkabDoorRef3Walks
namespace Go.Proofs.YtkcgcflpmggjkabDoor.Hr
open Go.ChangeShapes Go.WideShapes Go.ChangeAt Go.RowKit Mm Hh
set_option linter.unusedVariables false
set_option linter.unusedSimpArgs false

theorem dA_setM {d : Dv} (o : d.Ok) (m : Value) (a k : Int) : (((dA d).setIfInBounds 37 m).setIfInBounds 39 (.int .u32 a)).setIfInBounds 40 (.int .i64 k) = dA (d.setM m a k) := by
  have := hL_len o.h
  unfold dA Dv.setM
  simp only [List.setIfInBounds_toArray]
  rw [List.set_append_right _ _ (by omega), List.set_append_right _ _ (by omega), List.set_append_right _ _ (by omega), this]
  rfl
theorem results_cell_tmp' {P : Program} {fn : Func} {p t : Tmp} {ty : TypeId} (h : fn.results = #[.cell p ty, .tmp t]) (tmps : Array Value) (w : World) (g : Nat) (tt : TypeId) (cs : Array Value) (fr : Nat × Nat) (d : TypeDesc)
    (v : Value) (hp : tmps.getD p undef = .pointer (some ⟨g, 0, none⟩)) (hv : tmps.getD t undef = v) (hg : w.heap[g]? = some (.cells cs tt fr))
    (hu : P.underlying ty = some d) (hd : (match d with | .struct _ | .array _ _ => true | _ => false) = true) (hi : (P.info? ty).map (·.size) = some cs.size) :
    (results fn tmps).run P w = .ok (.tuple #[.agg cs, v]) w := by
  subst hv
  have hp' : tmps[p]?.getD undef = .pointer (some ⟨g, 0, none⟩) := by simpa using hp
  simp [results, h, hp', asAddr, run_loadVar_row w g tt ty cs fr d hg hu hd hi]
theorem heap_of_gr {w w' : World} (g : Gr w w') {k : Nat} {x : Obj} (h : w.heap[k]? = some x) : w'.heap[k]? = some x := by
  rw [Below.block g k (Array.getElem?_eq_some_iff.1 h).1]; exact h
/-- Two blocks made one behind the other, in every later world. -/
theorem two_blocks {w w' : World} {A : Array Value} {t : Nat} {Z : Array Value} (g : Gr ((w.alloc (.cells A t)).alloc (.cells Z t)) w') (hz : Z.size = 41) :
    w'.heap[w.heap.size]? = some (.cells A t (0, 0)) ∧ ∃ Z : Array Value, Z.size = 41 ∧ w'.heap[w.heap.size + 1]? = some (.cells Z t (0, 0)) :=
  ⟨heap_of_gr g (heap_alloc2_old w _ _), Z, hz, heap_of_gr g (heap_alloc2_new w _ _)⟩

end Go.Proofs.YtkcgcflpmggjkabDoor.Hr
