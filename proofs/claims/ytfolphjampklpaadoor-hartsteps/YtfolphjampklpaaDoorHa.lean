/-
  A hart that is handed in, opened; and what the condition on the package's tables gives.
-/
import Derived.Test.YtfolphjampklpaaDoorHm6
import Derived.Test.YtfolphjampklpaaDoorMemArgs
import Derived.Test.YtfolphjampklpaaDoorTabs
namespace Go.Proofs.YtfolphjampklpaaDoor.Hc
open Go.ChangeShapes Go.WideShapes Go.ChangeAt Go.RowKit Mm Hh
set_option linter.unusedVariables false
set_option linter.unusedSimpArgs false

theorem c34 : Tryd.prog.cellsOf 34 = 37 := by kernel_rfl
theorem c32 : Tryd.prog.cellsOf 32 = 32 := by kernel_rfl
theorem c22 : Tryd.prog.cellsOf 22 = 1 := by kernel_rfl
theorem c4 : Tryd.prog.cellsOf 4 = 1 := by kernel_rfl
theorem c3 : Tryd.prog.cellsOf 3 = 1 := by kernel_rfl
theorem list6 {α : Type} {l : List α} (h : l.length = 6) : ∃ a b c d e f, l = [a, b, c, d, e, f] := by
  match l, h with
  | [a, b, c, d, e, f], _ => exact ⟨a, b, c, d, e, f, rfl⟩
theorem cut_one {l : List Value} {k : Nat} {v : Value} (h : (l.drop k).take 1 = [v]) : l[k]? = some v := by
  have := congrArg (fun x => x[0]?) h
  simpa using this
theorem u32_bd {n : Int} (h : (Lit.int .u32 n).wf = true) : 0 ≤ n ∧ n < 4294967296 := by
  have : 0 ≤ n ∧ n ≤ 4294967295 := by simpa [Lit.wf, IntKind.min, IntKind.max, IntKind.signed, IntKind.bits] using h
  omega
set_option maxRecDepth 100000 in
theorem open_hart {H : Type} {enc : TypeId × Value → H} {W : World} {base b0 : Nat} {sp : Nat → Bool} {held : Bool} {v : Value} {d : DataW H} {p : List MemPlace}
    (hv : Value.okWide Tryd.prog W .any base 34 v) (h : DataW.Trod enc Tryd.prog W b0 sp held 34 v d p) : ∃ hh : Hv, v = .agg (hA hh) ∧ hh.Ok := by
  obtain ⟨cs, rfl, hsz⟩ := okWide_struct Tryd.underlying34 hv
  rw [c34] at hsz
  obtain ⟨l⟩ := cs
  obtain ⟨fuel, hf⟩ := h
  obtain ⟨xs, m, rfl, hx, _, hlen, hel⟩ := DataW.trod_struct Tryd.underlying34 hf
  obtain ⟨y0, y1, y2, y3, y4, y5, rfl⟩ := list6 (l := xs) hlen
  clear hf hv hlen hx
  have k0 : DataW.trod enc Tryd.prog W b0 sp held m 32 ((l.drop 0).take (Tryd.prog.cellsOf 32)) = some y0 := hel 0 _ rfl
  have k1 : DataW.trod enc Tryd.prog W b0 sp held m 22 ((l.drop 32).take (Tryd.prog.cellsOf 22)) = some y1 := hel 1 _ rfl
  have k2 : DataW.trod enc Tryd.prog W b0 sp held m 4 ((l.drop 33).take (Tryd.prog.cellsOf 4)) = some y2 := hel 2 _ rfl
  have k3 : DataW.trod enc Tryd.prog W b0 sp held m 22 ((l.drop 34).take (Tryd.prog.cellsOf 22)) = some y3 := hel 3 _ rfl
  have k4 : DataW.trod enc Tryd.prog W b0 sp held m 3 ((l.drop 35).take (Tryd.prog.cellsOf 3)) = some y4 := hel 4 _ rfl
  have k5 : DataW.trod enc Tryd.prog W b0 sp held m 3 ((l.drop 36).take (Tryd.prog.cellsOf 3)) = some y5 := hel 5 _ rfl
  clear hel
  have hl : l.length = 37 := by simpa using hsz
  obtain ⟨pc, e1, _, w1⟩ := DataW.trod_int Tryd.underlying22 k1
  obtain ⟨hd, e2, _⟩ := DataW.trod_bool Tryd.underlying4 k2
  obtain ⟨ha, e3, _, w3⟩ := DataW.trod_int Tryd.underlying22 k3
  obtain ⟨st, e4, _, _⟩ := DataW.trod_int Tryd.underlying3 k4
  obtain ⟨ca, e5, _, _⟩ := DataW.trod_int Tryd.underlying3 k5
  obtain ⟨zs, m2, rfl, _, _, hzl, hze⟩ := DataW.trod_array Tryd.underlying32 k0
  clear k0 k1 k2 k3 k4 k5
  rw [c22] at e1 e3
  rw [c4] at e2
  rw [c3] at e4 e5
  have q1 := cut_one e1
  have q2 := cut_one e2
  have q3 := cut_one e3
  have q4 := cut_one e4
  have q5 := cut_one e5
  have qr : ∀ i, i < 32 → ∃ n, l[i]? = some (.int .u32 n) ∧ 0 ≤ n ∧ n < 4294967296 := fun i hi => by
    have ki := hze i hi
    rw [List.getElem?_eq_getElem (by omega)] at ki
    obtain ⟨n, en, _, wn⟩ := DataW.trod_int Tryd.underlying22 ki
    rw [c22, c32] at en
    refine ⟨n, ?_, u32_bd wn⟩
    have := congrArg (fun x => x[0]?) en
    simp only [List.getElem?_take, List.getElem?_drop] at this
    rw [if_pos (by omega), if_pos (by omega)] at this
    simpa using this
  clear hze e1 e2 e3 e4 e5
  have qn : ∀ i, i < 32 → l[i]? = some (.int .u32 (intOf (l.getD i undef))) ∧ 0 ≤ intOf (l.getD i undef) ∧ intOf (l.getD i undef) < 4294967296 := fun i hi => by
    obtain ⟨n, en, b⟩ := qr i hi
    simp only [List.getD, en, Option.getD_some, intOf]
    exact ⟨trivial, b⟩
  refine ⟨⟨(List.range 32).map fun i => intOf (l.getD i undef), pc, hd, ha, st, ca⟩, ?_, ?_⟩
  · have : l = hL ⟨(List.range 32).map fun i => intOf (l.getD i undef), pc, hd, ha, st, ca⟩ := by
      apply List.ext_getElem?
      intro i
      unfold hL
      by_cases hi : i < 32
      · rw [List.getElem?_append_left (by simpa using hi), (qn i hi).1]
        simp [hi]
      · rw [List.getElem?_append_right (by simp; omega)]
        simp only [List.length_map, List.length_range]
        by_cases h37 : i < 37
        · have : i = 32 ∨ i = 33 ∨ i = 34 ∨ i = 35 ∨ i = 36 := by omega
          rcases this with rfl | rfl | rfl | rfl | rfl
          · exact q1
          · exact q2
          · exact q3
          · exact q4
          · exact q5
        · rw [List.getElem?_eq_none (by omega), List.getElem?_eq_none (by simp; omega)]
    unfold hA
    rw [← this]
  · refine ⟨by simp, fun i => ?_, (u32_bd w1).1, (u32_bd w1).2, (u32_bd w3).1, (u32_bd w3).2⟩
    unfold rg
    simp only [List.getD, List.getElem?_map]
    by_cases hi : i < 32
    · rw [List.getElem?_eq_getElem (by simpa using hi)]
      simp only [List.getElem_range, Option.map_some, Option.getD_some]
      exact (qn i hi).2
    · rw [List.getElem?_eq_none (by simp; omega)]
      simp

def sizesL : List Int := [0, 0, 0, 0, 0, 0, 0, 0, 0, 0, 0, 0, 0, 0, 0, 0, 1, 2, 4]
def opersL : List Int := [0, 0, 0, 0, 0, 0, 0, 0, 0, 0, 0, 0, 0, 0, 0, 0, 0, 0, 0, 28, 31, 32, 33, 36, 37, 30, 34, 35]
theorem gSizes : Tryd.prog.globalNamed "ferrybridge/hart.sizes" = some 3 := by kernel_rfl
theorem gOpers : Tryd.prog.globalNamed "ferrybridge/hart.operations" = some 2 := by kernel_rfl
theorem tSizes : (Tryd.prog.globals[3]?).map (·.type) = some 154 := by kernel_rfl
theorem tOpers : (Tryd.prog.globals[2]?).map (·.type) = some 148 := by kernel_rfl
theorem lookSizes : (List.range 19).map (Dw.look Tryd.prog 3 154 (Rows.laid_ferrybridge_hart_sizes (H := Unit))) = sizesL.map fun n => some (.int .u32 n) := by kernel_rfl
theorem lookOpers : (List.range 28).map (Dw.look Tryd.prog 3 148 (Rows.laid_ferrybridge_hart_operations (H := Unit))) = opersL.map fun n => some (.int .i64 n) := by kernel_rfl
/-- The condition gives the tables. -/
theorem tt_of_laid {W : World} (h : laidMetH Tryd.prog [("ferrybridge/decode.shapes", Rows.laid_ferrybridge_decode_shapes), ("ferrybridge/decode.uppers", Rows.laid_ferrybridge_decode_uppers), ("ferrybridge/hart.sizes", Rows.laid_ferrybridge_hart_sizes), ("ferrybridge/hart.operations", Rows.laid_ferrybridge_hart_operations)] W) : TT W W.heap.size := by
  rw [MakeChecks.laidMetH_plain _ _ _ (by kernel_rfl)] at h
  obtain ⟨ps, ⟨g0, t0, cs0, f0, p0, q0, hg0, ht0, hv0, hd0, ⟨g1, t1, cs1, f1, p1, q1, hg1, ht1, hv1, hd1, ⟨g2, t2, cs2, f2, p2, q2, hg2, ht2, hv2, hd2, ⟨g3, t3, cs3, f3, p3, q3, hg3, ht3, hv3, hd3, _, _⟩, _⟩, _⟩, _⟩, _, _⟩ := h
  obtain rfl := Option.some.inj (Dw.gShapes.symm.trans hg0)
  obtain rfl := Option.some.inj (Dw.gUppers.symm.trans hg1)
  obtain rfl := Option.some.inj (gSizes.symm.trans hg2)
  obtain rfl := Option.some.inj (gOpers.symm.trans hg3)
  obtain rfl := Option.some.inj (Dw.tShapes.symm.trans ht0)
  obtain rfl := Option.some.inj (Dw.tUppers.symm.trans ht1)
  obtain rfl := Option.some.inj (tSizes.symm.trans ht2)
  obtain rfl := Option.some.inj (tOpers.symm.trans ht3)
  have T : Dw.Tab W := by
    refine ⟨fun i v hi => ?_, fun i n hi => ?_⟩
    · have := Dw.look_cell 5 hd0 (Dw.look_of Dw.lookShapes hi)
      rw [World.var?_cell hg0 hv0 i]; simpa using this
    · have := Dw.look_cell 3 hd1 (Dw.look_of (l := Dc.uppers.map fun n => .int .u32 n) (i := i) (v := .int .u32 n) (by rw [Dw.lookUppers]; simp [Function.comp_def]) (by simp [hi]))
      rw [World.var?_cell hg1 hv1 i]; simpa using this
  have S : ∀ i n, sizesL[i]? = some n → W.cell? ⟨3, i, none⟩ = some (.int .u32 n) := fun i n hi => by
    have := Dw.look_cell 3 hd2 (Dw.look_of (l := sizesL.map fun n => .int .u32 n) (i := i) (v := .int .u32 n) (by rw [lookSizes]; simp [Function.comp_def]) (by simp [hi]))
    rw [World.var?_cell hg2 hv2 i]; simpa using this
  have O : ∀ i n, opersL[i]? = some n → W.cell? ⟨2, i, none⟩ = some (.int .i64 n) := fun i n hi => by
    have := Dw.look_cell 3 hd3 (Dw.look_of (l := opersL.map fun n => .int .i64 n) (i := i) (v := .int .i64 n) (by rw [lookOpers]; simp [Function.comp_def]) (by simp [hi]))
    rw [World.var?_cell hg3 hv3 i]; simpa using this
  exact ⟨T, ⟨S, O, Dw.lt_of_cell (S 0 _ rfl), Dw.lt_of_cell (O 0 _ rfl)⟩, Dw.lt_of_cell (T.shapes 0 _ rfl), Dw.lt_of_cell (T.uppers 0 _ rfl)⟩
theorem TT.grow {w w' : World} (T : TT w w.heap.size) (G : Gr w w') : TT w' w'.heap.size := by
  have h := T.of (Fr.ofGr G (Nat.le_refl _))
  have s := G.size
  exact ⟨h.tab, ⟨h.tb.sizes, h.tb.opers, Nat.lt_of_lt_of_le h.tb.b1 s, Nat.lt_of_lt_of_le h.tb.b2 s⟩, Nat.lt_of_lt_of_le h.b1 s, Nat.lt_of_lt_of_le h.b2 s⟩
end Go.Proofs.YtfolphjampklpaaDoor.Hc
