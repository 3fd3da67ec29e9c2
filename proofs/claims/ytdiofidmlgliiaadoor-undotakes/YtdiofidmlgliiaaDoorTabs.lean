/-
  What the two tables of package decode hold, cell by cell, wherever they read as their initialisers lay them; and the word for 'this call made memory, and nothing old has turned' ('Gr').
-/
import Derived.Test.YtdiofidmlgliiaaDoorRows
import Derived.Test.YtdiofidmlgliiaaDoorDec
import Derived.WalkKit
import Derived.ProofKit
import Derived.OpenShut
import Derived.LaidMore
import Derived.RowKit3
import Derived.Deep.QuietTactic
import Derived.BigQuiet
namespace Go.Proofs.YtdiofidmlgliiaaDoor.Dw
open Go.ChangeShapes Go.WideShapes Go.ChangeAt Go.RowKit
set_option linter.unusedVariables false

variable {w w' a : World} {v : Value}
/-- Memory was made, or an order drawn; of what was there nothing has turned. -/
def Gr (w w' : World) : Prop := Below w.heap.size w w' ∧ ∀ a, w'.frozen? a = w.frozen? a
theorem Gr.refl (w : World) : Gr w w := ⟨Below.refl _ _, fun _ => rfl⟩
theorem Gr.size (h : Gr w w') : w.heap.size ≤ w'.heap.size := h.1.size
theorem Gr.trans {b c : World} (h : Gr a b) (k : Gr b c) : Gr a c := ⟨h.1.trans (k.1.mono h.1.size), fun x => (k.2 x).trans (h.2 x)⟩
theorem Gr.alloc (h : Gr a w) (c : Array Value) (t : TypeId) : Gr a (w.alloc (.cells c t)) := ⟨h.1.alloc h.1.size _, fun x => (frozen?_alloc_cells _ _ _ x).trans (h.2 x)⟩
theorem Gr.setCell (h : Gr a w) {p : Addr} (hp : a.heap.size ≤ p.block) (v : Value) : Gr a (w.setCell p v) := ⟨h.1.setCell hp v, fun x => (World.frozen?_setCell _ _ _ _).trans (h.2 x)⟩
theorem Gr.drewN (h : Gr a w) (n : Nat) : Gr a (w.drewN n) := ⟨⟨h.1.os, h.1.tape, h.1.output, h.1.size, h.1.block⟩, h.2⟩
theorem Gr.grown (h : Gr a w) : Grown a w := ⟨h.1.frame _, h.2, h.1.size⟩
theorem Gr.cell (h : Gr w w') (b o : Nat) (hb : b < w.heap.size) : w'.cell? ⟨b, o, none⟩ = w.cell? ⟨b, o, none⟩ := h.1.cell (p := ⟨b, o, none⟩) hb
theorem lt_of_cell {b o : Nat} (h : w.cell? ⟨b, o, none⟩ = some v) : b < w.heap.size := by
  by_cases hb : b < w.heap.size
  · exact hb
  · have : w.heap[b]? = none := by simp; omega
    simp [World.cell?, this] at h

/-- The value at a cell of plain data. -/
def look {H : Type} (P : Program) : Nat → TypeId → DataW H → Nat → Option Value
  | 0, _, _, _ => none
  | n + 1, t, d, i =>
    match P.underlying t, d with
    | some .bool, .lit (.bool b) => if i = 0 then some (.bool b) else none
    | some (.int _), .lit (.int k m) => if i = 0 then some (.int k m) else none
    | some (.struct fs), .agg ds =>
      match (List.range fs.size).find? (fun j => match fs[j]? with | some f => decide (f.offset ≤ i) && decide (i < f.offset + P.cellsOf f.type) | none => false) with
      | some j => match fs[j]?, ds[j]? with
        | some f, some e => if f.offset ≤ i ∧ i < f.offset + P.cellsOf f.type then look P n f.type e (i - f.offset) else none
        | _, _ => none
      | none => none
    | some (.array k e), .agg ds =>
      match ds[i / P.cellsOf e]? with
      | some x => if 0 < P.cellsOf e ∧ i / P.cellsOf e < k then look P n e x (i % P.cellsOf e) else none
      | none => none
    | _, _ => none

theorem take_drop_get {α : Type} (cs : List α) (a n i : Nat) (v : α) (h : ((cs.drop a).take n)[i]? = some v) : cs[a + i]? = some v := by
  rw [List.getElem?_take] at h
  split at h
  · rwa [List.getElem?_drop] at h
  · cases h

theorem look_cell {H : Type} {enc : TypeId × Value → H} {P : Program} {base : Nat} {spare : Nat → Bool} {held : Bool} : (n : Nat) → ∀ {fuel : Nat} {t : TypeId} {cs : List Value} {d : DataW H} {ps : List MemPlace} {i : Nat} {v : Value},
    DataW.trod enc P w base spare held fuel t cs = some (d, ps) → look P n t d i = some v → cs[i]? = some v
  | 0, _, _, _, _, _, _, _, _, hl => by cases hl
  | n + 1, fuel, t, cs, d, ps, i, v, h, hl => by
    unfold look at hl
    split at hl
    · rename_i ht
      obtain ⟨b, rfl, hx⟩ := DataW.trod_bool ht h
      simp at hx
      split at hl
      · subst_vars; simpa [hx.1] using hl
      · cases hl
    · rename_i ht
      obtain ⟨b, rfl, hx, _⟩ := DataW.trod_int ht h
      simp at hx
      split at hl
      · subst_vars; simp at hl; rw [← hl, hx.1.1, hx.1.2]; rfl
      · cases hl
    · rename_i fs ds ht
      obtain ⟨xs, m, rfl, hx, _, hlen, hel⟩ := DataW.trod_struct ht h
      simp only [Prod.mk.injEq, DataW.agg.injEq] at hx
      split at hl
      · rename_i j _
        split at hl
        · rename_i f e hf he
          split at hl
          · rename_i hi
            have hE := hel j f hf
            rw [hx.1, List.getElem?_map] at he
            cases hy : xs[j]? with
            | none => simp [hy] at he
            | some y =>
              rw [hy] at hE he
              simp at he
              have := look_cell n (d := e) (ps := y.2) (by rw [hE, ← he]) hl
              have := take_drop_get _ _ _ _ _ this
              rwa [show f.offset + (i - f.offset) = i by omega] at this
          · cases hl
        · cases hl
      · cases hl
    · rename_i k e ds ht
      obtain ⟨xs, m, rfl, hx, _, hlen, hel⟩ := DataW.trod_array ht h
      simp only [Prod.mk.injEq, DataW.agg.injEq] at hx
      split at hl
      · rename_i x he
        split at hl
        · rename_i hi
          have hE := hel _ hi.2
          rw [hx.1, List.getElem?_map] at he
          cases hy : xs[i / P.cellsOf e]? with
          | none => simp [hy] at he
          | some y =>
            rw [hy] at hE he
            simp at he
            have := look_cell n (d := x) (ps := y.2) (by rw [hE, ← he]) hl
            have := take_drop_get _ _ _ _ _ this
            rwa [Nat.mul_comm, Nat.div_add_mod] at this
        · cases hl
      · cases hl
    · cases hl

/-- A shape, cell by cell: what tells it, its registers, the pieces of Imm (12 numbers), how many bits are above its sign. -/
def shape (told : Int) (rd rs1 rs2 : Bool) (imm : List Int) (spare : Int) : List Value := [.int .u32 told, .bool rd, .bool rs1, .bool rs2] ++ imm.map (fun n => .int .i64 n) ++ [.int .i64 spare]
def pieces (f : Nat) : List Int := match f with
  | 1 => [12, 12, 20, 0, 0, 0, 0, 0, 0, 0, 0, 0] | 2 => [31, 20, 1, 12, 12, 8, 20, 11, 1, 21, 1, 10] | 3 => [20, 0, 12, 0, 0, 0, 0, 0, 0, 0, 0, 0] | 4 => [20, 0, 5, 0, 0, 0, 0, 0, 0, 0, 0, 0]
  | 5 => [31, 12, 1, 7, 11, 1, 25, 5, 6, 8, 1, 4] | 6 => [25, 5, 7, 7, 0, 5, 0, 0, 0, 0, 0, 0] | 8 => [25, 0, 2, 0, 0, 0, 0, 0, 0, 0, 0, 0] | _ => [0, 0, 0, 0, 0, 0, 0, 0, 0, 0, 0, 0]
def spare (f : Nat) : Int := match f with | 2 => 11 | 3 => 20 | 5 => 19 | 6 => 20 | _ => 0
def shapes : List Value := (List.range 10).flatMap fun (f : Nat) => shape (Dc.mask f) (Dc.hasRd f) (Dc.hasRs1 f) (Dc.hasRs2 f) (pieces f) (spare f)

/-- The tables hold what their initialisers lay. -/
structure Tab (w : World) : Prop where
  shapes : ∀ i v, shapes[i]? = some v → w.cell? ⟨2, i, none⟩ = some v
  uppers : ∀ i n, Dc.uppers[i]? = some n → w.cell? ⟨4, i, none⟩ = some (.int .u32 n)
theorem Tab.of (h : Tab w) (g : Gr w w') : Tab w' :=
  ⟨fun i v hi => (g.cell _ _ (lt_of_cell (h.shapes i v hi))).trans (h.shapes i v hi), fun i v hi => (g.cell _ _ (lt_of_cell (h.uppers i v hi))).trans (h.uppers i v hi)⟩

theorem gShapes : Tryd.prog.globalNamed "ferrybridge/decode.shapes" = some 2 := by kernel_rfl
theorem gUppers : Tryd.prog.globalNamed "ferrybridge/decode.uppers" = some 4 := by kernel_rfl
theorem tShapes : (Tryd.prog.globals[2]?).map (·.type) = some 158 := by kernel_rfl
theorem tUppers : (Tryd.prog.globals[4]?).map (·.type) = some 200 := by kernel_rfl
theorem lookShapes : (List.range 170).map (look Tryd.prog 5 158 (Rows.laid_ferrybridge_decode_shapes (H := Unit))) = shapes.map some := by kernel_rfl
theorem lookUppers : (List.range 60).map (look Tryd.prog 3 200 (Rows.laid_ferrybridge_decode_uppers (H := Unit))) = Dc.uppers.map fun n => some (.int .u32 n) := by kernel_rfl
theorem look_of {d : DataW Unit} {n t N : Nat} {l : List Value} (h : (List.range N).map (look Tryd.prog n t d) = l.map some) {i : Nat} (hi : l[i]? = some v) : look Tryd.prog n t d i = some v := by
  have e := congrArg (·[i]?) h
  simp only [List.getElem?_map, hi, Option.map_some] at e
  cases hr : (List.range N)[i]? with
  | none => simp [hr] at e
  | some j =>
    rw [hr] at e
    have : j = i := by
      rw [List.getElem?_eq_some_iff] at hr
      obtain ⟨_, hr⟩ := hr
      simpa using hr.symm
    subst this
    simpa using e
/-- The condition gives the tables. -/
theorem tab_of_laid {W : World} (h : laidMetH Tryd.prog [("ferrybridge/decode.shapes", Rows.laid_ferrybridge_decode_shapes), ("ferrybridge/decode.uppers", Rows.laid_ferrybridge_decode_uppers)] W) : Tab W := by
  rw [MakeChecks.laidMetH_plain _ _ _ (by kernel_rfl)] at h
  obtain ⟨ps, ⟨g0, t0, cs0, f0, p0, q0, hg0, ht0, hv0, hd0, ⟨g1, t1, cs1, f1, p1, q1, hg1, ht1, hv1, hd1, _, _⟩, _⟩, _, _⟩ := h
  obtain rfl := Option.some.inj (gShapes.symm.trans hg0)
  obtain rfl := Option.some.inj (gUppers.symm.trans hg1)
  obtain rfl := Option.some.inj (tShapes.symm.trans ht0)
  obtain rfl := Option.some.inj (tUppers.symm.trans ht1)
  refine ⟨fun i v hi => ?_, fun i n hi => ?_⟩
  · have := look_cell 5 hd0 (look_of lookShapes hi)
    rw [World.var?_cell hg0 hv0 i]; simpa using this
  · have := look_cell 3 hd1 (look_of (l := Dc.uppers.map fun n => .int .u32 n) (i := i) (v := .int .u32 n) (by rw [lookUppers]; simp [Function.comp_def]) (by simp [hi]))
    rw [World.var?_cell hg1 hv1 i]; simpa using this
end Go.Proofs.YtdiofidmlgliiaaDoor.Dw
