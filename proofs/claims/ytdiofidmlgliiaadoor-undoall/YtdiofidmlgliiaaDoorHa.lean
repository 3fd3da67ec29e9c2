/-
  What the condition on the package's tables gives.
-/
import Derived.Test.YtdiofidmlgliiaaDoorHm6
import Derived.Test.YtdiofidmlgliiaaDoorHao
import Derived.Test.YtdiofidmlgliiaaDoorTabs
namespace Go.Proofs.YtdiofidmlgliiaaDoor.Hc
open Go.ChangeShapes Go.WideShapes Go.ChangeAt Go.RowKit Mm Hh
set_option linter.unusedVariables false
set_option linter.unusedSimpArgs false

def sizesL : List Int := [0, 0, 0, 0, 0, 0, 0, 0, 0, 0, 0, 0, 0, 0, 0, 0, 1, 2, 4]
def opersL : List Int := [0, 0, 0, 0, 0, 0, 0, 0, 0, 0, 0, 0, 0, 0, 0, 0, 0, 0, 0, 28, 31, 32, 33, 36, 37, 30, 34, 35]
theorem gSizes : Tryd.prog.globalNamed "ferrybridge/hart.sizes" = some 8 := by kernel_rfl
theorem gOpers : Tryd.prog.globalNamed "ferrybridge/hart.operations" = some 5 := by kernel_rfl
theorem tSizes : (Tryd.prog.globals[8]?).map (·.type) = some 231 := by kernel_rfl
theorem tOpers : (Tryd.prog.globals[5]?).map (·.type) = some 216 := by kernel_rfl
theorem lookSizes : (List.range 19).map (Dw.look Tryd.prog 3 231 (Rows.laid_ferrybridge_hart_sizes (H := Unit))) = sizesL.map fun n => some (.int .u32 n) := by kernel_rfl
theorem lookOpers : (List.range 28).map (Dw.look Tryd.prog 3 216 (Rows.laid_ferrybridge_hart_operations (H := Unit))) = opersL.map fun n => some (.int .i64 n) := by kernel_rfl
/-- The condition gives the tables. -/
theorem tt_of_laid {W : World} (h : laidMetH Tryd.prog [("ferrybridge/decode.shapes", Rows.laid_ferrybridge_decode_shapes), ("ferrybridge/decode.uppers", Rows.laid_ferrybridge_decode_uppers), ("ferrybridge/hart.sizes", Rows.laid_ferrybridge_hart_sizes), ("ferrybridge/hart.operations", Rows.laid_ferrybridge_hart_operations)] W) : TT W W.heap.size := by
  rw [MakeChecks.laidMetH_plain _ _ _ (by kernel_rfl)] at h
  obtain ⟨ps, ⟨g0, t0, cs0, f0, p0, q0, hg0, ht0, hv0, hd0, ⟨g1, t1, cs1, f1, p1, q1, hg1, ht1, hv1, hd1, ⟨g2, t2, cs2, f2, p2, q2, hg2, ht2, hv2, hd2, ⟨g3, t3, cs3, f3, p3, q3, hg3, ht3, hv3, hd3, _, _⟩, _⟩, _⟩, _⟩, _, _⟩ := h
  obtain rfl := Option.some.inj (Dw.gShapes.symm.trans hg0)
  obtain rfl := Option.some.inj (Dw.gUppers.symm.trans hg1)
  obtain rfl := Option.some.inj (gSizes.symm.trans hg2)
  obtain rfl := Option.some.inj (gOpers.symm.trans hg3)
  obtain rfl := Option.some.inj (Dw.tShapes.symm.trans ht0)
  obtain rfl := Option.some.inj (Dw.tUppers.symm.trans ht1)
  obtain rfl := Option.some.inj (tSizes.symm.trans ht2)
  obtain rfl := Option.some.inj (tOpers.symm.trans ht3)
  have T : Dw.Tab W := by
    refine ⟨fun i v hi => ?_, fun i n hi => ?_⟩
    · have := Dw.look_cell 5 hd0 (Dw.look_of Dw.lookShapes hi)
      rw [World.var?_cell hg0 hv0 i]; simpa using this
    · have := Dw.look_cell 3 hd1 (Dw.look_of (l := Dc.uppers.map fun n => .int .u32 n) (i := i) (v := .int .u32 n) (by rw [Dw.lookUppers]; simp [Function.comp_def]) (by simp [hi]))
      rw [World.var?_cell hg1 hv1 i]; simpa using this
  have S : ∀ i n, sizesL[i]? = some n → W.cell? ⟨8, i, none⟩ = some (.int .u32 n) := fun i n hi => by
    have := Dw.look_cell 3 hd2 (Dw.look_of (l := sizesL.map fun n => .int .u32 n) (i := i) (v := .int .u32 n) (by rw [lookSizes]; simp [Function.comp_def]) (by simp [hi]))
    rw [World.var?_cell hg2 hv2 i]; simpa using this
  have O : ∀ i n, opersL[i]? = some n → W.cell? ⟨5, i, none⟩ = some (.int .i64 n) := fun i n hi => by
    have := Dw.look_cell 3 hd3 (Dw.look_of (l := opersL.map fun n => .int .i64 n) (i := i) (v := .int .i64 n) (by rw [lookOpers]; simp [Function.comp_def]) (by simp [hi]))
    rw [World.var?_cell hg3 hv3 i]; simpa using this
  exact ⟨T, ⟨S, O, Dw.lt_of_cell (S 0 _ rfl), Dw.lt_of_cell (O 0 _ rfl)⟩, Dw.lt_of_cell (T.shapes 0 _ rfl), Dw.lt_of_cell (T.uppers 0 _ rfl)⟩
theorem TT.grow {w w' : World} (T : TT w w.heap.size) (G : Gr w w') : TT w' w'.heap.size := by
  have h := T.of (Fr.ofGr G (Nat.le_refl _))
  have s := G.size
  exact ⟨h.tab, ⟨h.tb.sizes, h.tb.opers, Nat.lt_of_lt_of_le h.tb.b1 s, Nat.lt_of_lt_of_le h.tb.b2 s⟩, Nat.lt_of_lt_of_le h.b1 s, Nat.lt_of_lt_of_le h.b2 s⟩
end Go.Proofs.YtdiofidmlgliiaaDoor.Hc
