/-
  Ref4b, Hm7, Mb2, Mb3, Hm3, Hm4, Tabs, Walks1: texts of ours that lie in one file.
-/
import Derived.Test.YtbihifipemldhabDoorQ10
import Derived.Test.YtbihifipemldhabDoorQ06
import Derived.Test.YtbihifipemldhabDoorQ03
import Derived.Test.YtbihifipemldhabDoorQ09
import Derived.Deep.RegionHeld3
import Derived.Test.YtbihifipemldhabDoorRows
import Derived.Test.YtbihifipemldhabDoorQ02
import Derived.WalkKit
import Derived.ProofKit
import Derived.OpenShut
import Derived.LaidMore
import Derived.RowKit3
import Derived.Deep.QuietTactic
import Derived.BigQuiet
set_option linter.unusedVariables false
set_option linter.unusedSimpArgs false
set_option maxHeartbeats 8000000
set_option maxRecDepth 100000
/-
  What ferrybridgeref4.store returns: the struct with the memory stored in, or as it was; and nothing old in memory turns.
-/
namespace Go.Proofs.YtbihifipemldhabDoor.Hr
open Go.ChangeShapes Go.WideShapes Go.ChangeAt Go.RowKit Mm Hh

theorem dA_setM {d : Dv} (o : d.Ok) (m : Value) (a k : Int) : (((dA d).setIfInBounds 37 m).setIfInBounds 39 (.int .u32 a)).setIfInBounds 40 (.int .i64 k) = dA (d.setM m a k) := by
  have := hL_len o.h
  unfold dA Dv.setM
  simp only [List.setIfInBounds_toArray]
  rw [List.set_append_right _ _ (by omega), List.set_append_right _ _ (by omega), List.set_append_right _ _ (by omega), this]
  rfl
theorem results_cell_tmp' {P : Program} {fn : Func} {p t : Tmp} {ty : TypeId} (h : fn.results = #[.cell p ty, .tmp t]) (tmps : Array Value) (w : World) (g : Nat) (tt : TypeId) (cs : Array Value) (fr : Nat × Nat) (d : TypeDesc)
    (v : Value) (hp : tmps.getD p undef = .pointer (some ⟨g, 0, none⟩)) (hv : tmps.getD t undef = v) (hg : w.heap[g]? = some (.cells cs tt fr))
    (hu : P.underlying ty = some d) (hd : (match d with | .struct _ | .array _ _ => true | _ => false) = true) (hi : (P.info? ty).map (·.size) = some cs.size) :
    (results fn tmps).run P w = .ok (.tuple #[.agg cs, v]) w := by
  subst hv
  have hp' : tmps[p]?.getD undef = .pointer (some ⟨g, 0, none⟩) := by simpa using hp
  simp [results, h, hp', asAddr, run_loadVar_row w g tt ty cs fr d hg hu hd hi]
theorem heap_of_gr {w w' : World} (g : Gr w w') {k : Nat} {x : Obj} (h : w.heap[k]? = some x) : w'.heap[k]? = some x := by
  rw [Below.block g k (Array.getElem?_eq_some_iff.1 h).1]; exact h
/-- Two blocks made one behind the other, in every later world. -/
theorem two_blocks {w w' : World} {A : Array Value} {t : Nat} {Z : Array Value} (g : Gr ((w.alloc (.cells A t)).alloc (.cells Z t)) w') (hz : Z.size = 41) :
    w'.heap[w.heap.size]? = some (.cells A t (0, 0)) ∧ ∃ Z : Array Value, Z.size = 41 ∧ w'.heap[w.heap.size + 1]? = some (.cells Z t (0, 0)) :=
  ⟨heap_of_gr g (heap_alloc2_old w _ _), Z, hz, heap_of_gr g (heap_alloc2_new w _ _)⟩

theorem store_no {d : Dv} (o : d.Ok) {ao : Option Addr} {n cap : Nat} {l : List UInt8} (hm : d.m = .slice ao n cap) (op a x : Int) {w : World} (M : Mem w ao n l) (hn : n ≤ 140737488351232) (h0 : 0 ≤ a) (h1 : a < 4294967296) (hx0 : 0 ≤ x) (hx1 : x < 4294967296) (ok : stOk l op a = false) :
    Calls Tryd.prog 76 #[.agg (dA d), .int .i64 op, .int .u32 a, .int .u32 x] w fun e w' => e = .returned (.tuple #[.agg (dA d), .bool false]) ∧ Gr w w' := by
  have S : Hid (∀ W : World, Gr w W → Calls Tryd.prog 64 #[.slice ao n cap, .int .i64 op, .int .u32 a, .int .u32 x] W fun e w' => ∃ ao' n' cap', e = .returned (.tuple #[.slice ao' n' cap', .bool false]) ∧ Mem w' ao' n' (stL l op a x) ∧ Gr W w') := fun W G => by
    have := Mr.Store_any cap op a x (M.of G) hn h0 h1 hx0 hx1
    rwa [ok] at this
  have g37 : (dA d)[37]? = some (.slice ao n cap) := by rw [dA_fld o.h 0]; simp [hm]
  have hs : Hid ((dA d).size = 41) := dA_size o.h
  have H1 : Hid ((dA d).all (·.oneCell') = true) := one_dA o
  generalize dA d = D0 at *
  clear M hm ok o
  go_enter Tryd.func76, Tryd.ntmps76
  go_wp2_with fail
  refine (S.out _ (((Gr.refl _).alloc _).alloc _)).mono ?_
  rintro e w1 ⟨a1, n1, c1, rfl, M1, G1⟩
  obtain ⟨hB, Z, hz, hR⟩ := two_blocks G1 rfl
  have HG : Hid (Gr w w1) := (((Gr.refl _).alloc _).alloc _).trans G1
  have HB : Hid (w1.heap[w.heap.size]? = some (.cells D0 105 (0, 0))) := hB
  have HR : Hid (w1.heap[w.heap.size + 1]? = some (.cells Z 105 (0, 0))) := hR
  clear M1 G1 S hB hR
  go_wp2_with (first
    | (refine wpList_load_row rfl 105 _ rfl _ rfl _ _ _ _ HB.out Tryd.underlying105 rfl (by rw [hs.out]; exact iD) ?_)
    | (refine wpList_store_row rfl 105 _ _ rfl _ _ rfl rfl _ _ HR.out (by rw [hs.out]; exact iD) (by rw [hs.out, hz]) H1.out ?_))
  refine bodyPost_ret (v := .tuple #[.agg D0, .bool false]) (results_cell_tmp' Tryd.results76 _ _ _ _ _ (0, 0) _ _ rfl rfl (setRow_heap _ _ _ _ _ (0, 0) HR.out) Tryd.underlying105 rfl (by rw [hs.out]; exact iD)) rfl ⟨rfl, ?_⟩
  exact gr_setRow HG.out (Nat.le_succ _) _

theorem store_yes {d : Dv} (o : d.Ok) {ao : Option Addr} {n cap : Nat} {l : List UInt8} (hm : d.m = .slice ao n cap) (op a x : Int) {w : World} (M : Mem w ao n l) (hn : n ≤ 140737488351232) (h0 : 0 ≤ a) (h1 : a < 4294967296) (hx0 : 0 ≤ x) (hx1 : x < 4294967296) (ok : stOk l op a = true) :
    Calls Tryd.prog 76 #[.agg (dA d), .int .i64 op, .int .u32 a, .int .u32 x] w fun e w' => ∃ ao' n' cap', e = .returned (.tuple #[.agg (dA (d.setM (.slice ao' n' cap') a (ssz op : Nat))), .bool true]) ∧ Mem w' ao' n' (stL l op a x) ∧ Gr w w' ∧ ∀ ad, ao' = some ad → w.heap.size ≤ ad.block := by
  have S : Hid (∀ W : World, Gr w W → Calls Tryd.prog 64 #[.slice ao n cap, .int .i64 op, .int .u32 a, .int .u32 x] W fun e w' => ∃ ao' n' cap', e = .returned (.tuple #[.slice ao' n' cap', .bool true]) ∧ Mem w' ao' n' (stL l op a x) ∧ Gr W w' ∧ ∀ ad, ao' = some ad → W.heap.size ≤ ad.block) := fun W G => by
    have := Mr.Store_new cap op a x (M.of G) hn h0 h1 hx0 hx1
    rwa [ok] at this
  have g37 : (dA d)[37]? = some (.slice ao n cap) := by rw [dA_fld o.h 0]; simp [hm]
  have g39 : (dA d)[39]? = some (.int .u32 d.fro) := by rw [dA_fld o.h 2]; rfl
  have g40 : (dA d)[40]? = some (.int .i64 d.many) := by rw [dA_fld o.h 3]; rfl
  have hs : Hid ((dA d).size = 41) := dA_size o.h
  have E : Hid (∀ (a1 : Option Addr) (n1 c1 : Nat), (((dA d).setIfInBounds 37 (.slice a1 n1 c1)).setIfInBounds 39 (.int .u32 a)).setIfInBounds 40 (.int .i64 (ssz op : Nat)) = dA (d.setM (.slice a1 n1 c1) a (ssz op : Nat))) := fun a1 n1 c1 => dA_setM o _ _ _
  have SE : Hid (∀ (a1 : Option Addr) (n1 c1 : Nat), (dA (d.setM (.slice a1 n1 c1) a (ssz op : Nat))).size = 41) := fun a1 n1 c1 => dA_size (d := d.setM _ _ _) o.h
  have H1 : Hid (∀ (a1 : Option Addr) (n1 c1 : Nat), (dA (d.setM (.slice a1 n1 c1) a (ssz op : Nat))).all (·.oneCell') = true) := fun a1 n1 c1 => one_dA ⟨o.h, rfl, o.out⟩
  generalize d.fro = y1 at *
  generalize d.many = y2 at *
  generalize dA d = D0 at *
  clear M hm ok o
  go_enter Tryd.func76, Tryd.ntmps76
  go_wp2_with fail
  refine (S.out _ (((Gr.refl _).alloc _).alloc _)).mono ?_
  rintro e w1 ⟨a1, n1, c1, rfl, M1, G1, F1⟩
  have HF : Hid (∀ ad, a1 = some ad → w.heap.size + 1 < ad.block) := fun ad q => by have := F1 ad q; simp at this; omega
  obtain ⟨hB, Z, hz, hR⟩ := two_blocks G1 rfl
  have HG : Hid (Gr w w1) := (((Gr.refl _).alloc _).alloc _).trans G1
  have HM : Hid (Mem w1 a1 n1 (stL l op a x)) := M1
  have c37 : w1.cell? ⟨w.heap.size, 37, none⟩ = some (.slice ao n cap) := by rw [cell_of_row _ _ _ _ _ _ hB]; exact g37
  have c39 : w1.cell? ⟨w.heap.size, 39, none⟩ = some (.int .u32 y1) := by rw [cell_of_row _ _ _ _ _ _ hB]; exact g39
  have c40 : w1.cell? ⟨w.heap.size, 40, none⟩ = some (.int .i64 y2) := by rw [cell_of_row _ _ _ _ _ _ hB]; exact g40
  have fz : ∀ j, w1.frozen? ⟨w.heap.size, j, none⟩ = false := fun j => frozen_of_row _ _ j _ _ hB
  have hSE := SE.out a1 n1 c1
  have hE := E.out a1 n1 c1
  have hH := H1.out a1 n1 c1
  clear SE E H1
  generalize hD : dA (d.setM (.slice a1 n1 c1) a (ssz op : Nat)) = D2 at *
  have HD : Hid (dA (d.setM (.slice a1 n1 c1) a (ssz op : Nat)) = D2) := hD
  clear hD F1
  have HB : Hid ((((w1.setCell ⟨w.heap.size, 37, none⟩ (.slice a1 n1 c1)).setCell ⟨w.heap.size, 39, none⟩ (.int .u32 a)).setCell ⟨w.heap.size, 40, none⟩ (.int .i64 (ssz op : Nat))).heap[w.heap.size]? = some (.cells D2 105 (0, 0))) := by
    rw [← hE]
    exact heap_setCell_same _ _ _ _ _ _ (heap_setCell_same _ _ _ _ _ _ (heap_setCell_same _ _ _ _ _ _ hB))
  have HR : Hid ((((w1.setCell ⟨w.heap.size, 37, none⟩ (.slice a1 n1 c1)).setCell ⟨w.heap.size, 39, none⟩ (.int .u32 a)).setCell ⟨w.heap.size, 40, none⟩ (.int .i64 (ssz op : Nat))).heap[w.heap.size + 1]? = some (.cells Z 105 (0, 0))) := by
    show _ = _
    rw [heap_setCell_other _ _ _ _ (by simp), heap_setCell_other _ _ _ _ (by simp), heap_setCell_other _ _ _ _ (by simp)]
    exact hR
  have HS : Hid (D2.size = 41) := hSE
  have HO : Hid (D2.all (·.oneCell') = true) := hH
  clear M1 G1 S hB hR hSE hE hH g37 g39 g40 hs
  go_wp2_with (first
    | (go_at_call 49; refine (Mr.Size_store _ _).mono ?_; rintro e w' ⟨rfl, rfl⟩)
    | (refine wpList_load_row rfl 105 _ rfl w.heap.size rfl 105 D2 (0, 0) _ ?hb1 Tryd.underlying105 rfl (by rw [HS.out]; exact iD) ?_; (case hb1 => exact HB.out))
    | (refine wpList_store_row rfl 105 _ _ rfl (w.heap.size + 1) D2 rfl rfl 105 Z ?hb2 (by rw [HS.out]; exact iD) (by rw [HS.out, hz]) HO.out ?_; (case hb2 => exact HR.out)))
  refine bodyPost_ret (v := .tuple #[.agg D2, .bool true]) (results_cell_tmp' Tryd.results76 _ _ _ _ _ (0, 0) _ _ rfl rfl (setRow_heap _ _ _ _ _ (0, 0) HR.out) Tryd.underlying105 rfl (by rw [HS.out]; exact iD)) rfl ⟨a1, n1, c1, by rw [HD.out], ?_, ?_, fun ad q => by have := HF.out ad q; omega⟩
  · refine HM.out.apart fun ad q => ?_
    have := HF.out ad q
    rw [setRow_other _ _ _ _ (by omega), heap_setCell_other _ _ _ _ (by simp; omega), heap_setCell_other _ _ _ _ (by simp; omega), heap_setCell_other _ _ _ _ (by simp; omega)]
  · exact gr_setRow (((HG.out.setCell (Nat.le_refl _) _).setCell (Nat.le_refl _) _).setCell (Nat.le_refl _) _) (Nat.le_succ _) _
end Go.Proofs.YtbihifipemldhabDoor.Hr
/-
  What bytes.Clone, and package hart's NewCore, return.
-/
namespace Go.Proofs.YtbihifipemldhabDoor.Hc
open Go.ChangeShapes Go.WideShapes Go.ChangeAt Go.RowKit Mm Hh

end Go.Proofs.YtbihifipemldhabDoor.Hc
/-
  What package machine's wrong and slices.Clone (of harts) answer.
-/
namespace Go.Proofs.YtbihifipemldhabDoor.Mc
open Go.ChangeShapes Go.WideShapes Go.ChangeAt Go.RowKit Mm Hh Hc

end Go.Proofs.YtbihifipemldhabDoor.Mc
/-
  A board of package machine, as cells of memory; what NewBoard answers.
-/
namespace Go.Proofs.YtbihifipemldhabDoor.Mc
open Go.ChangeShapes Go.WideShapes Go.ChangeAt Go.RowKit Mm Hh Hc

end Go.Proofs.YtbihifipemldhabDoor.Mc
/-
  What the methods of package hart's core do: reserve, storeHeld, Atom, effect.
-/
namespace Go.Proofs.YtbihifipemldhabDoor.Hc
open Go.ChangeShapes Go.WideShapes Go.ChangeAt Go.RowKit Mm Hh

abbrev Ptr (g : Nat) : Value := .pointer (some ⟨g, 0, none⟩)
end Go.Proofs.YtbihifipemldhabDoor.Hc
/-
  What the method effect of package hart's core does, of every instruction.
-/
namespace Go.Proofs.YtbihifipemldhabDoor.Hc
open Go.ChangeShapes Go.WideShapes Go.ChangeAt Go.RowKit Mm Hh

end Go.Proofs.YtbihifipemldhabDoor.Hc
/-
  What the two tables of package decode hold, cell by cell, wherever they read as their initialisers lay them; and the word for 'this call made memory, and nothing old has turned' ('Gr').
-/
namespace Go.Proofs.YtbihifipemldhabDoor.Dw
open Go.ChangeShapes Go.WideShapes Go.ChangeAt Go.RowKit

/-- Memory was made, or an order drawn; of what was there nothing has turned. -/
def Gr (w w' : World) : Prop := Below w.heap.size w w' ∧ ∀ a, w'.frozen? a = w.frozen? a
theorem Gr.refl (w : World) : Gr w w := ⟨Below.refl _ _, fun _ => rfl⟩
theorem Gr.size {w w' : World} (h : Gr w w') : w.heap.size ≤ w'.heap.size := h.1.size
theorem Gr.trans {a b c : World} (h : Gr a b) (k : Gr b c) : Gr a c := ⟨h.1.trans (k.1.mono h.1.size), fun x => (k.2 x).trans (h.2 x)⟩
theorem Gr.alloc {a w : World} (h : Gr a w) (c : Array Value) (t : TypeId) : Gr a (w.alloc (.cells c t)) := ⟨h.1.alloc h.1.size _, fun x => (frozen?_alloc_cells _ _ _ x).trans (h.2 x)⟩
theorem Gr.setCell {a w : World} (h : Gr a w) {p : Addr} (hp : a.heap.size ≤ p.block) (v : Value) : Gr a (w.setCell p v) := ⟨h.1.setCell hp v, fun x => (World.frozen?_setCell _ _ _ _).trans (h.2 x)⟩
theorem Gr.drewN {a w : World} (h : Gr a w) (n : Nat) : Gr a (w.drewN n) := ⟨⟨h.1.os, h.1.tape, h.1.output, h.1.size, h.1.block⟩, h.2⟩
theorem Gr.cell {w w' : World} (h : Gr w w') (b o : Nat) (hb : b < w.heap.size) : w'.cell? ⟨b, o, none⟩ = w.cell? ⟨b, o, none⟩ := h.1.cell (p := ⟨b, o, none⟩) hb
theorem lt_of_cell {w : World} {b o : Nat} {v : Value} (h : w.cell? ⟨b, o, none⟩ = some v) : b < w.heap.size := by
  by_cases hb : b < w.heap.size
  · exact hb
  · have : w.heap[b]? = none := by simp; omega
    simp [World.cell?, this] at h

/-- The value at a cell of plain data. -/
def look {H : Type} (P : Program) : Nat → TypeId → DataW H → Nat → Option Value
  | 0, _, _, _ => none
  | n + 1, t, d, i =>
    match P.underlying t, d with
    | some .bool, .lit (.bool b) => if i = 0 then some (.bool b) else none
    | some (.int _), .lit (.int k m) => if i = 0 then some (.int k m) else none
    | some (.struct fs), .agg ds =>
      match (List.range fs.size).find? (fun j => match fs[j]? with | some f => decide (f.offset ≤ i) && decide (i < f.offset + P.cellsOf f.type) | none => false) with
      | some j => match fs[j]?, ds[j]? with
        | some f, some e => if f.offset ≤ i ∧ i < f.offset + P.cellsOf f.type then look P n f.type e (i - f.offset) else none
        | _, _ => none
      | none => none
    | some (.array k e), .agg ds =>
      match ds[i / P.cellsOf e]? with
      | some x => if 0 < P.cellsOf e ∧ i / P.cellsOf e < k then look P n e x (i % P.cellsOf e) else none
      | none => none
    | _, _ => none

theorem take_drop_get {α : Type} (cs : List α) (a n i : Nat) (v : α) (h : ((cs.drop a).take n)[i]? = some v) : cs[a + i]? = some v := by
  rw [List.getElem?_take] at h
  split at h
  · rwa [List.getElem?_drop] at h
  · cases h

theorem look_cell {H : Type} {enc : TypeId × Value → H} {P : Program} {w : World} {base : Nat} {spare : Nat → Bool} {held : Bool} : (n : Nat) → ∀ {fuel : Nat} {t : TypeId} {cs : List Value} {d : DataW H} {ps : List MemPlace} {i : Nat} {v : Value},
    DataW.trod enc P w base spare held fuel t cs = some (d, ps) → look P n t d i = some v → cs[i]? = some v
  | 0, _, _, _, _, _, _, _, _, hl => by cases hl
  | n + 1, fuel, t, cs, d, ps, i, v, h, hl => by
    unfold look at hl
    split at hl
    · rename_i ht
      obtain ⟨b, rfl, hx⟩ := DataW.trod_bool ht h
      simp at hx
      split at hl
      · subst_vars; simpa [hx.1] using hl
      · cases hl
    · rename_i ht
      obtain ⟨b, rfl, hx, _⟩ := DataW.trod_int ht h
      simp at hx
      split at hl
      · subst_vars; simp at hl; rw [← hl, hx.1.1, hx.1.2]; rfl
      · cases hl
    · rename_i fs ds ht
      obtain ⟨xs, m, rfl, hx, _, hlen, hel⟩ := DataW.trod_struct ht h
      simp only [Prod.mk.injEq, DataW.agg.injEq] at hx
      split at hl
      · rename_i j _
        split at hl
        · rename_i f e hf he
          split at hl
          · rename_i hi
            have hE := hel j f hf
            rw [hx.1, List.getElem?_map] at he
            cases hy : xs[j]? with
            | none => simp [hy] at he
            | some y =>
              rw [hy] at hE he
              simp at he
              have := look_cell n (d := e) (ps := y.2) (by rw [hE, ← he]) hl
              have := take_drop_get _ _ _ _ _ this
              rwa [show f.offset + (i - f.offset) = i by omega] at this
          · cases hl
        · cases hl
      · cases hl
    · rename_i k e ds ht
      obtain ⟨xs, m, rfl, hx, _, hlen, hel⟩ := DataW.trod_array ht h
      simp only [Prod.mk.injEq, DataW.agg.injEq] at hx
      split at hl
      · rename_i x he
        split at hl
        · rename_i hi
          have hE := hel _ hi.2
          rw [hx.1, List.getElem?_map] at he
          cases hy : xs[i / P.cellsOf e]? with
          | none => simp [hy] at he
          | some y =>
            rw [hy] at hE he
            simp at he
            have := look_cell n (d := x) (ps := y.2) (by rw [hE, ← he]) hl
            have := take_drop_get _ _ _ _ _ this
            rwa [Nat.mul_comm, Nat.div_add_mod] at this
        · cases hl
      · cases hl
    · cases hl

/-- A shape, cell by cell: what tells it, its registers, the pieces of Imm (12 numbers), how many bits are above its sign. -/
def shape (told : Int) (rd rs1 rs2 : Bool) (imm : List Int) (spare : Int) : List Value := [.int .u32 told, .bool rd, .bool rs1, .bool rs2] ++ imm.map (fun n => .int .i64 n) ++ [.int .i64 spare]
def pieces (f : Nat) : List Int := match f with
  | 1 => [12, 12, 20, 0, 0, 0, 0, 0, 0, 0, 0, 0] | 2 => [31, 20, 1, 12, 12, 8, 20, 11, 1, 21, 1, 10] | 3 => [20, 0, 12, 0, 0, 0, 0, 0, 0, 0, 0, 0] | 4 => [20, 0, 5, 0, 0, 0, 0, 0, 0, 0, 0, 0]
  | 5 => [31, 12, 1, 7, 11, 1, 25, 5, 6, 8, 1, 4] | 6 => [25, 5, 7, 7, 0, 5, 0, 0, 0, 0, 0, 0] | 8 => [25, 0, 2, 0, 0, 0, 0, 0, 0, 0, 0, 0] | _ => [0, 0, 0, 0, 0, 0, 0, 0, 0, 0, 0, 0]
def spare (f : Nat) : Int := match f with | 2 => 11 | 3 => 20 | 5 => 19 | 6 => 20 | _ => 0
def shapes : List Value := (List.range 10).flatMap fun (f : Nat) => shape (Dc.mask f) (Dc.hasRd f) (Dc.hasRs1 f) (Dc.hasRs2 f) (pieces f) (spare f)

/-- The tables hold what their initialisers lay. -/
structure Tab (w : World) : Prop where
  shapes : ∀ i v, shapes[i]? = some v → w.cell? ⟨2, i, none⟩ = some v
  uppers : ∀ i n, Dc.uppers[i]? = some n → w.cell? ⟨4, i, none⟩ = some (.int .u32 n)
theorem Tab.of {w w' : World} (h : Tab w) (g : Gr w w') : Tab w' :=
  ⟨fun i v hi => (g.cell _ _ (lt_of_cell (h.shapes i v hi))).trans (h.shapes i v hi), fun i v hi => (g.cell _ _ (lt_of_cell (h.uppers i v hi))).trans (h.uppers i v hi)⟩

theorem gShapes : Tryd.prog.globalNamed "ferrybridge/decode.shapes" = some 2 := by kernel_rfl
theorem gUppers : Tryd.prog.globalNamed "ferrybridge/decode.uppers" = some 4 := by kernel_rfl
theorem tShapes : (Tryd.prog.globals[2]?).map (·.type) = some 165 := by kernel_rfl
theorem tUppers : (Tryd.prog.globals[4]?).map (·.type) = some 192 := by kernel_rfl
theorem lookShapes : (List.range 170).map (look Tryd.prog 5 165 (Rows.laid_ferrybridge_decode_shapes (H := Unit))) = shapes.map some := by kernel_rfl
theorem lookUppers : (List.range 60).map (look Tryd.prog 3 192 (Rows.laid_ferrybridge_decode_uppers (H := Unit))) = Dc.uppers.map fun n => some (.int .u32 n) := by kernel_rfl
theorem look_of {d : DataW Unit} {n t N : Nat} {l : List Value} (h : (List.range N).map (look Tryd.prog n t d) = l.map some) {i : Nat} {v : Value} (hi : l[i]? = some v) : look Tryd.prog n t d i = some v := by
  have e := congrArg (·[i]?) h
  simp only [List.getElem?_map, hi, Option.map_some] at e
  cases hr : (List.range N)[i]? with
  | none => simp [hr] at e
  | some j =>
    rw [hr] at e
    have : j = i := by
      rw [List.getElem?_eq_some_iff] at hr
      obtain ⟨_, hr⟩ := hr
      simpa using hr.symm
    subst this
    simpa using e
end Go.Proofs.YtbihifipemldhabDoor.Dw
/-
  What package decode's small functions return: taken, within, row, told, span. Conditions: the tables hold what their initialisers lay ('Tab'); words are from 0 to 2^32 - 1.
-/
namespace Go.Proofs.YtbihifipemldhabDoor.Dw
open Go.ChangeShapes Go.WideShapes Go.ChangeAt Go.RowKit

theorem ret_int {k : IntKind} {a b : Int} (h : a = b) : Ending.returned (.int k a) = .returned (.int k b) := by rw [h]
theorem ret_bool {a b : Bool} (h : a = b) : Ending.returned (.bool a) = .returned (.bool b) := by rw [h]
theorem wrap_u32' (n : Int) : IntKind.u32.wrap n = n % 4294967296 := by rfl
theorem ofInt32 (a : Nat) (ha : (a : Int) < 4294967296) : (BitVec.ofInt 32 (a : Int)).toNat = a := by
  rw [BitVec.ofInt_natCast, BitVec.toNat_ofNat]; exact Nat.mod_eq_of_lt (by omega)
theorem bits_and_u32 (a b : Int) (ha : 0 ≤ a) (ha' : a < 4294967296) (hb : 0 ≤ b) (hb' : b < 4294967296) : bits .and .u32 a b = Wd.band a b := by
  obtain ⟨a, rfl⟩ := Int.eq_ofNat_of_zero_le ha
  obtain ⟨b, rfl⟩ := Int.eq_ofNat_of_zero_le hb
  have hx : a &&& b < 2 ^ 32 := Nat.and_lt_two_pow _ (by omega)
  show IntKind.u32.wrap ((BitVec.ofInt 32 (a : Int) &&& BitVec.ofInt 32 (b : Int)).toNat : Int) = _
  rw [BitVec.toNat_and, ofInt32 a ha', ofInt32 b hb', wrap_u32']
  simp only [Wd.band, Int.toNat_natCast]
  omega
theorem bits_or_u32 (a b : Int) (ha : 0 ≤ a) (ha' : a < 4294967296) (hb : 0 ≤ b) (hb' : b < 4294967296) : bits .or .u32 a b = Wd.bor a b := by
  obtain ⟨a, rfl⟩ := Int.eq_ofNat_of_zero_le ha
  obtain ⟨b, rfl⟩ := Int.eq_ofNat_of_zero_le hb
  have hx : a ||| b < 2 ^ 32 := Nat.or_lt_two_pow (by omega) (by omega)
  show IntKind.u32.wrap ((BitVec.ofInt 32 (a : Int) ||| BitVec.ofInt 32 (b : Int)).toNat : Int) = _
  rw [BitVec.toNat_or, ofInt32 a ha', ofInt32 b hb', wrap_u32']
  simp only [Wd.bor, Int.toNat_natCast]
  omega

theorem within_any (a b c : Int) (w : World) :
    Calls Tryd.prog 105 #[.int .i64 a, .int .i64 b, .int .i64 c] w fun e w' => e = .returned (.bool (decide (b ≤ a) && decide (a ≤ c))) ∧ w' = w := by
  by_cases h : b ≤ a
  all_goals
    go_enter Tryd.func105, Tryd.ntmps105
    go_wp2
    go_ret
    exact ⟨ret_bool (by simp [h]; try omega), rfl⟩
theorem and_mask (x : Int) (n : Nat) (h0 : 0 ≤ x) (h1 : x < 4294967296) (hn : n ≤ 31) : bits .and .u32 x ((2 ^ n - 1) % 4294967296) = x % 2 ^ n := by
  have hp : (2 : Int) ^ n = ((2 ^ n : Nat) : Int) := by simp
  have hb : (2 : Nat) ^ n ≤ 2 ^ 31 := Nat.pow_le_pow_right (by omega) hn
  have hb0 : 0 < (2 : Nat) ^ n := Nat.two_pow_pos _
  obtain ⟨x, rfl⟩ := Int.eq_ofNat_of_zero_le h0
  have e : ((2 : Int) ^ n - 1) % 4294967296 = ((2 ^ n - 1 : Nat) : Int) := by rw [hp]; omega
  rw [e, bits_and_u32 _ _ h0 h1 (by omega) (by omega)]
  unfold Wd.band
  rw [Int.toNat_natCast, Int.toNat_natCast, Nat.and_two_pow_sub_one_eq_mod, hp]
  omega
theorem bor_lo (x y : Int) (i : Nat) (hx : 0 ≤ x) (hy : 0 ≤ y) (h : x < 2 ^ i) : Wd.bor x (y * 2 ^ i) = x + y * 2 ^ i := by
  obtain ⟨x, rfl⟩ := Int.eq_ofNat_of_zero_le hx
  obtain ⟨y, rfl⟩ := Int.eq_ofNat_of_zero_le hy
  have e : (y : Int) * 2 ^ i = ((y * 2 ^ i : Nat) : Int) := by simp
  have h' : x < 2 ^ i := by
    have : ((2 : Int) ^ i) = ((2 ^ i : Nat) : Int) := by simp
    rw [this] at h; omega
  rw [e]
  unfold Wd.bor
  rw [Int.toNat_natCast, Int.toNat_natCast, Nat.or_comm, Dc.nor_add _ _ _ h']
  omega
theorem bor_comm (x y : Int) : Wd.bor x y = Wd.bor y x := by unfold Wd.bor; rw [Nat.or_comm]
theorem bor_hi (x y : Int) (i : Nat) (hx : 0 ≤ x) (hy : 0 ≤ y) (h : x < 2 ^ i) : Wd.bor (y * 2 ^ i) x = y * 2 ^ i + x := by
  rw [bor_comm, bor_lo x y i hx hy h]; omega
theorem taken_any (a at' n : Int) (w : World) (ha : 0 ≤ a) (ha' : a < 4294967296) (h1 : 0 ≤ at') (h2 : at' ≤ 31) (h3 : 0 ≤ n) (h4 : n ≤ 31) :
    Calls Tryd.prog 107 #[.int .u32 a, .int .i64 at', .int .i64 n] w fun e w' => e = .returned (.int .u32 (a / 2 ^ at'.toNat % 2 ^ n.toNat)) ∧ ∃ m, w' = w.drewN m := by
  go_enter Tryd.func107, Tryd.ntmps107
  go_wp2
  refine wp_region_quiet_lit (by kernel_rfl) (by kernel_rfl) ?_
  iterate 8 go_big_quiet_step (fail)
  refine wpQuiet_nil ?_; intro _ h; obtain ⟨nq, h2⟩ := h; subst h2
  go_wp2
  go_ret
  refine ⟨ret_int (and_mask _ _ (Int.ediv_nonneg ha (Int.pow_nonneg (by omega))) ?_ (by omega)), _, rfl⟩
  exact Int.lt_of_le_of_lt (Int.ediv_le_self _ ha) ha'
/-- 'taken' at numbers that are known. -/
theorem taken_as (a at' n r : Int) (w : World) (ha : 0 ≤ a) (ha' : a < 4294967296) (h1 : 0 ≤ at') (h2 : at' ≤ 31) (h3 : 0 ≤ n) (h4 : n ≤ 31) (hr : a / 2 ^ at'.toNat % 2 ^ n.toNat = r) :
    Calls Tryd.prog 107 #[.int .u32 a, .int .i64 at', .int .i64 n] w fun e w' => e = .returned (.int .u32 r) ∧ ∃ m, w' = w.drewN m := hr ▸ taken_any a at' n w ha ha' h1 h2 h3 h4
theorem row_num (low m u : Int) (h1 : 0 ≤ low) (h2 : low < 4096) (h3 : 0 ≤ m) (h4 : m < 8) (h5 : 0 ≤ u) (h6 : u < 128) :
    bits .or .u32 (bits .or .u32 low (m * 4096)) (u * 33554432) = low + m * 4096 + u * 33554432 := by
  rw [show m * 4096 = m * 2 ^ 12 by omega, show u * 33554432 = u * 2 ^ 25 by omega]
  rw [bits_or_u32 low _ h1 (by omega) (by omega) (by omega), bor_lo low m 12 h1 h3 (by omega)]
  rw [bits_or_u32 _ _ (by omega) (by omega) (by omega) (by omega), bor_lo _ u 25 (by omega) h5 (by omega)]
theorem row_any (op first low : Int) (b : Nat) (ms : List Int) (w : World) (T : Tab w) (hm : ∀ i n, ms[i]? = some n → w.cell? ⟨b, i, none⟩ = some (.int .u32 n)) (hms : ∀ n ∈ ms, 0 ≤ n ∧ n < 8)
    (h1 : first ≤ op) (h2 : op - first < ms.length) (h3 : 0 ≤ op) (h4 : op < 60) (h5 : 0 ≤ low) (h6 : low < 128) (h7 : -1 ≤ first) (h8 : ms.length ≤ 20) :
    Calls Tryd.prog 104 #[.int .i64 op, .int .i64 first, .int .u32 low, .slice (some ⟨b, 0, none⟩) ms.length ms.length] w fun e w' => e = .returned (.int .u32 (Dc.rowOf op first low ms)) ∧ Gr w w' := by
  obtain ⟨m, hm1⟩ : ∃ m, ms[(op - first).toNat]? = some m := ⟨_, List.getElem?_eq_getElem (by omega)⟩
  have hl : Dc.uppers.length = 60 := by decide
  obtain ⟨u, hu1⟩ : ∃ u, Dc.uppers[op.toNat]? = some u := ⟨_, List.getElem?_eq_getElem (by omega)⟩
  have hmb := hms m (List.mem_of_getElem? hm1)
  have hub : 0 ≤ u ∧ u < 128 := by
    have : ∀ u ∈ Dc.uppers, 0 ≤ u ∧ u < 128 := by decide
    exact this u (List.mem_of_getElem? hu1)
  have c1 := hm _ _ hm1
  have c2 := T.uppers _ _ hu1
  have E : Hid (Dc.rowOf op first low ms = low + m * 4096 + u * 33554432) := by
    show _ = _
    unfold Dc.rowOf Dc.nth
    rw [List.getD, hm1, List.getD, hu1]; rfl
  clear hm hms hm1 hu1 T hl
  go_enter Tryd.func104, Tryd.ntmps104
  go_wp2
  refine wp_region_quiet_lit (by kernel_rfl) (by kernel_rfl) ?_
  iterate 15 go_big_quiet_step (fail)
  refine wpQuiet_nil ?_; intro _ h; obtain ⟨nq, h2⟩ := h; subst h2
  go_wp2
  go_ret
  rw [E.out]
  exact ⟨ret_int (row_num low m u h5 (by omega) hmb.1 hmb.2 hub.1 hub.2), (Gr.refl w).drewN _⟩
theorem within_yes (a b c : Int) (w : World) (h : b ≤ a ∧ a ≤ c) :
    Calls Tryd.prog 105 #[.int .i64 a, .int .i64 b, .int .i64 c] w fun e w' => e = .returned (.bool true) ∧ w' = w := by
  refine (within_any a b c w).mono ?_
  rintro e w' ⟨rfl, rfl⟩
  exact ⟨ret_bool (by simp [h]), rfl⟩
theorem within_no (a b c : Int) (w : World) (h : ¬ (b ≤ a ∧ a ≤ c)) :
    Calls Tryd.prog 105 #[.int .i64 a, .int .i64 b, .int .i64 c] w fun e w' => e = .returned (.bool false) ∧ w' = w := by
  refine (within_any a b c w).mono ?_
  rintro e w' ⟨rfl, rfl⟩
  exact ⟨ret_bool (by rw [← Bool.decide_and]; simpa using h), rfl⟩
theorem cells_new (w : World) (ms : List Int) (t : TypeId) : ∀ i n, ms[i]? = some n → (w.alloc (.cells (ms.map (Value.int .u32)).toArray t)).cell? ⟨w.heap.size, i, none⟩ = some (.int .u32 n) := by
  intro i n h
  rw [World.cell?_alloc_new]; simp [h]
/-- What is told of an op: its form, its bits. -/
def Told (op : Int) : Prop := ∀ w : World, Tab w → Calls Tryd.prog 87 #[.int .i64 op] w fun e w' => e = .returned (.tuple #[.int .i64 (Dc.frm op), .int .u32 (Dc.tbits op)]) ∧ Gr w w'
theorem ret_two {a b c d : Int} (h : a = c) (h' : b = d) : Ending.returned (.tuple #[.int .i64 a, .int .u32 b]) = .returned (.tuple #[.int .i64 c, .int .u32 d]) := by rw [h, h']
theorem told_4 (op : Int) (h1 : 4 ≤ op) (h2 : op ≤ 4) : Told op := by
  intro w T
  have F : Hid (Dc.frm op = 3) := by
    show _ = _
    unfold Dc.frm
    repeat (first | rw [if_pos (by omega)] | rw [if_neg (by omega)])
  have B : Hid (Dc.tbits op = Dc.rowOf op 4 103 [0]) := by
    show _ = _
    unfold Dc.tbits
    repeat (first | rw [if_pos (by omega)] | rw [if_neg (by omega)])
  have e1 : (op == 1) = false := by simp; omega
  have e2 : (op == 2) = false := by simp; omega
  have e3 : (op == 3) = false := by simp; omega
  have e4 : (op == 4) = true := by simp; omega
  have e57 : (op == 57) = false := by simp; omega
  have e58 : (op == 58) = false := by simp; omega
  have e59 : (op == 59) = false := by simp; omega
  go_enter Tryd.func87, Tryd.ntmps87
  go_wp2_with (first | (go_at_call 105; first | (refine (within_yes _ _ _ _ (by omega)).mono ?_; rintro e w' ⟨rfl, rfl⟩) | (refine (within_no _ _ _ _ (by omega)).mono ?_; rintro e w' ⟨rfl, rfl⟩)) | (go_at_call 104; refine (row_any _ _ _ _ [0] _ (T.of ((Gr.refl _).alloc _ _)) (cells_new _ [0] _) (by decide) (by omega) (by simp <;> omega) (by omega) (by omega) (by omega) (by omega) (by omega) (by decide)).mono ?_; rintro e w' ⟨rfl, g⟩))
  go_ret2
  exact ⟨ret_two F.out.symm B.out.symm, ((Gr.refl _).alloc _ _).trans g⟩
theorem told_5 (op : Int) (h1 : 5 ≤ op) (h2 : op ≤ 10) : Told op := by
  intro w T
  have F : Hid (Dc.frm op = 5) := by
    show _ = _
    unfold Dc.frm
    repeat (first | rw [if_pos (by omega)] | rw [if_neg (by omega)])
  have B : Hid (Dc.tbits op = Dc.rowOf op 5 99 [0, 1, 4, 5, 6, 7]) := by
    show _ = _
    unfold Dc.tbits
    repeat (first | rw [if_pos (by omega)] | rw [if_neg (by omega)])
  have e1 : (op == 1) = false := by simp; omega
  have e2 : (op == 2) = false := by simp; omega
  have e3 : (op == 3) = false := by simp; omega
  have e4 : (op == 4) = false := by simp; omega
  have e57 : (op == 57) = false := by simp; omega
  have e58 : (op == 58) = false := by simp; omega
  have e59 : (op == 59) = false := by simp; omega
  go_enter Tryd.func87, Tryd.ntmps87
  go_wp2_with (first | (go_at_call 105; first | (refine (within_yes _ _ _ _ (by omega)).mono ?_; rintro e w' ⟨rfl, rfl⟩) | (refine (within_no _ _ _ _ (by omega)).mono ?_; rintro e w' ⟨rfl, rfl⟩)) | (go_at_call 104; refine (row_any _ _ _ _ [0, 1, 4, 5, 6, 7] _ (T.of ((Gr.refl _).alloc _ _)) (cells_new _ [0, 1, 4, 5, 6, 7] _) (by decide) (by omega) (by simp <;> omega) (by omega) (by omega) (by omega) (by omega) (by omega) (by decide)).mono ?_; rintro e w' ⟨rfl, g⟩))
  go_ret2
  exact ⟨ret_two F.out.symm B.out.symm, ((Gr.refl _).alloc _ _).trans g⟩
theorem told_11 (op : Int) (h1 : 11 ≤ op) (h2 : op ≤ 15) : Told op := by
  intro w T
  have F : Hid (Dc.frm op = 3) := by
    show _ = _
    unfold Dc.frm
    repeat (first | rw [if_pos (by omega)] | rw [if_neg (by omega)])
  have B : Hid (Dc.tbits op = Dc.rowOf op 11 3 [0, 1, 2, 4, 5]) := by
    show _ = _
    unfold Dc.tbits
    repeat (first | rw [if_pos (by omega)] | rw [if_neg (by omega)])
  have e1 : (op == 1) = false := by simp; omega
  have e2 : (op == 2) = false := by simp; omega
  have e3 : (op == 3) = false := by simp; omega
  have e4 : (op == 4) = false := by simp; omega
  have e57 : (op == 57) = false := by simp; omega
  have e58 : (op == 58) = false := by simp; omega
  have e59 : (op == 59) = false := by simp; omega
  go_enter Tryd.func87, Tryd.ntmps87
  go_wp2_with (first | (go_at_call 105; first | (refine (within_yes _ _ _ _ (by omega)).mono ?_; rintro e w' ⟨rfl, rfl⟩) | (refine (within_no _ _ _ _ (by omega)).mono ?_; rintro e w' ⟨rfl, rfl⟩)) | (go_at_call 104; refine (row_any _ _ _ _ [0, 1, 2, 4, 5] _ (T.of ((Gr.refl _).alloc _ _)) (cells_new _ [0, 1, 2, 4, 5] _) (by decide) (by omega) (by simp <;> omega) (by omega) (by omega) (by omega) (by omega) (by omega) (by decide)).mono ?_; rintro e w' ⟨rfl, g⟩))
  go_ret2
  exact ⟨ret_two F.out.symm B.out.symm, ((Gr.refl _).alloc _ _).trans g⟩
theorem told_16 (op : Int) (h1 : 16 ≤ op) (h2 : op ≤ 18) : Told op := by
  intro w T
  have F : Hid (Dc.frm op = 6) := by
    show _ = _
    unfold Dc.frm
    repeat (first | rw [if_pos (by omega)] | rw [if_neg (by omega)])
  have B : Hid (Dc.tbits op = Dc.rowOf op 16 35 [0, 1, 2]) := by
    show _ = _
    unfold Dc.tbits
    repeat (first | rw [if_pos (by omega)] | rw [if_neg (by omega)])
  have e1 : (op == 1) = false := by simp; omega
  have e2 : (op == 2) = false := by simp; omega
  have e3 : (op == 3) = false := by simp; omega
  have e4 : (op == 4) = false := by simp; omega
  have e57 : (op == 57) = false := by simp; omega
  have e58 : (op == 58) = false := by simp; omega
  have e59 : (op == 59) = false := by simp; omega
  go_enter Tryd.func87, Tryd.ntmps87
  go_wp2_with (first | (go_at_call 105; first | (refine (within_yes _ _ _ _ (by omega)).mono ?_; rintro e w' ⟨rfl, rfl⟩) | (refine (within_no _ _ _ _ (by omega)).mono ?_; rintro e w' ⟨rfl, rfl⟩)) | (go_at_call 104; refine (row_any _ _ _ _ [0, 1, 2] _ (T.of ((Gr.refl _).alloc _ _)) (cells_new _ [0, 1, 2] _) (by decide) (by omega) (by simp <;> omega) (by omega) (by omega) (by omega) (by omega) (by omega) (by decide)).mono ?_; rintro e w' ⟨rfl, g⟩))
  go_ret2
  exact ⟨ret_two F.out.symm B.out.symm, ((Gr.refl _).alloc _ _).trans g⟩
theorem told_19 (op : Int) (h1 : 19 ≤ op) (h2 : op ≤ 24) : Told op := by
  intro w T
  have F : Hid (Dc.frm op = 3) := by
    show _ = _
    unfold Dc.frm
    repeat (first | rw [if_pos (by omega)] | rw [if_neg (by omega)])
  have B : Hid (Dc.tbits op = Dc.rowOf op 19 19 [0, 2, 3, 4, 6, 7]) := by
    show _ = _
    unfold Dc.tbits
    repeat (first | rw [if_pos (by omega)] | rw [if_neg (by omega)])
  have e1 : (op == 1) = false := by simp; omega
  have e2 : (op == 2) = false := by simp; omega
  have e3 : (op == 3) = false := by simp; omega
  have e4 : (op == 4) = false := by simp; omega
  have e57 : (op == 57) = false := by simp; omega
  have e58 : (op == 58) = false := by simp; omega
  have e59 : (op == 59) = false := by simp; omega
  go_enter Tryd.func87, Tryd.ntmps87
  go_wp2_with (first | (go_at_call 105; first | (refine (within_yes _ _ _ _ (by omega)).mono ?_; rintro e w' ⟨rfl, rfl⟩) | (refine (within_no _ _ _ _ (by omega)).mono ?_; rintro e w' ⟨rfl, rfl⟩)) | (go_at_call 104; refine (row_any _ _ _ _ [0, 2, 3, 4, 6, 7] _ (T.of ((Gr.refl _).alloc _ _)) (cells_new _ [0, 2, 3, 4, 6, 7] _) (by decide) (by omega) (by simp <;> omega) (by omega) (by omega) (by omega) (by omega) (by omega) (by decide)).mono ?_; rintro e w' ⟨rfl, g⟩))
  go_ret2
  exact ⟨ret_two F.out.symm B.out.symm, ((Gr.refl _).alloc _ _).trans g⟩
theorem told_25 (op : Int) (h1 : 25 ≤ op) (h2 : op ≤ 27) : Told op := by
  intro w T
  have F : Hid (Dc.frm op = 4) := by
    show _ = _
    unfold Dc.frm
    repeat (first | rw [if_pos (by omega)] | rw [if_neg (by omega)])
  have B : Hid (Dc.tbits op = Dc.rowOf op 25 19 [1, 5, 5]) := by
    show _ = _
    unfold Dc.tbits
    repeat (first | rw [if_pos (by omega)] | rw [if_neg (by omega)])
  have e1 : (op == 1) = false := by simp; omega
  have e2 : (op == 2) = false := by simp; omega
  have e3 : (op == 3) = false := by simp; omega
  have e4 : (op == 4) = false := by simp; omega
  have e57 : (op == 57) = false := by simp; omega
  have e58 : (op == 58) = false := by simp; omega
  have e59 : (op == 59) = false := by simp; omega
  go_enter Tryd.func87, Tryd.ntmps87
  go_wp2_with (first | (go_at_call 105; first | (refine (within_yes _ _ _ _ (by omega)).mono ?_; rintro e w' ⟨rfl, rfl⟩) | (refine (within_no _ _ _ _ (by omega)).mono ?_; rintro e w' ⟨rfl, rfl⟩)) | (go_at_call 104; refine (row_any _ _ _ _ [1, 5, 5] _ (T.of ((Gr.refl _).alloc _ _)) (cells_new _ [1, 5, 5] _) (by decide) (by omega) (by simp <;> omega) (by omega) (by omega) (by omega) (by omega) (by omega) (by decide)).mono ?_; rintro e w' ⟨rfl, g⟩))
  go_ret2
  exact ⟨ret_two F.out.symm B.out.symm, ((Gr.refl _).alloc _ _).trans g⟩
theorem told_28 (op : Int) (h1 : 28 ≤ op) (h2 : op ≤ 37) : Told op := by
  intro w T
  have F : Hid (Dc.frm op = 7) := by
    show _ = _
    unfold Dc.frm
    repeat (first | rw [if_pos (by omega)] | rw [if_neg (by omega)])
  have B : Hid (Dc.tbits op = Dc.rowOf op 28 51 [0, 0, 1, 2, 3, 4, 5, 5, 6, 7]) := by
    show _ = _
    unfold Dc.tbits
    repeat (first | rw [if_pos (by omega)] | rw [if_neg (by omega)])
  have e1 : (op == 1) = false := by simp; omega
  have e2 : (op == 2) = false := by simp; omega
  have e3 : (op == 3) = false := by simp; omega
  have e4 : (op == 4) = false := by simp; omega
  have e57 : (op == 57) = false := by simp; omega
  have e58 : (op == 58) = false := by simp; omega
  have e59 : (op == 59) = false := by simp; omega
  go_enter Tryd.func87, Tryd.ntmps87
  go_wp2_with (first | (go_at_call 105; first | (refine (within_yes _ _ _ _ (by omega)).mono ?_; rintro e w' ⟨rfl, rfl⟩) | (refine (within_no _ _ _ _ (by omega)).mono ?_; rintro e w' ⟨rfl, rfl⟩)) | (go_at_call 104; refine (row_any _ _ _ _ [0, 0, 1, 2, 3, 4, 5, 5, 6, 7] _ (T.of ((Gr.refl _).alloc _ _)) (cells_new _ [0, 0, 1, 2, 3, 4, 5, 5, 6, 7] _) (by decide) (by omega) (by simp <;> omega) (by omega) (by omega) (by omega) (by omega) (by omega) (by decide)).mono ?_; rintro e w' ⟨rfl, g⟩))
  go_ret2
  exact ⟨ret_two F.out.symm B.out.symm, ((Gr.refl _).alloc _ _).trans g⟩
theorem told_38 (op : Int) (h1 : 38 ≤ op) (h2 : op ≤ 45) : Told op := by
  intro w T
  have F : Hid (Dc.frm op = 7) := by
    show _ = _
    unfold Dc.frm
    repeat (first | rw [if_pos (by omega)] | rw [if_neg (by omega)])
  have B : Hid (Dc.tbits op = Dc.rowOf op 38 51 [0, 1, 2, 3, 4, 5, 6, 7]) := by
    show _ = _
    unfold Dc.tbits
    repeat (first | rw [if_pos (by omega)] | rw [if_neg (by omega)])
  have e1 : (op == 1) = false := by simp; omega
  have e2 : (op == 2) = false := by simp; omega
  have e3 : (op == 3) = false := by simp; omega
  have e4 : (op == 4) = false := by simp; omega
  have e57 : (op == 57) = false := by simp; omega
  have e58 : (op == 58) = false := by simp; omega
  have e59 : (op == 59) = false := by simp; omega
  go_enter Tryd.func87, Tryd.ntmps87
  go_wp2_with (first | (go_at_call 105; first | (refine (within_yes _ _ _ _ (by omega)).mono ?_; rintro e w' ⟨rfl, rfl⟩) | (refine (within_no _ _ _ _ (by omega)).mono ?_; rintro e w' ⟨rfl, rfl⟩)) | (go_at_call 104; refine (row_any _ _ _ _ [0, 1, 2, 3, 4, 5, 6, 7] _ (T.of ((Gr.refl _).alloc _ _)) (cells_new _ [0, 1, 2, 3, 4, 5, 6, 7] _) (by decide) (by omega) (by simp <;> omega) (by omega) (by omega) (by omega) (by omega) (by omega) (by decide)).mono ?_; rintro e w' ⟨rfl, g⟩))
  go_ret2
  exact ⟨ret_two F.out.symm B.out.symm, ((Gr.refl _).alloc _ _).trans g⟩
theorem told_46 (op : Int) (h1 : 46 ≤ op) (h2 : op ≤ 56) : Told op := by
  intro w T
  have F : Hid (Dc.frm op = 8) := by
    show _ = _
    unfold Dc.frm
    repeat (first | rw [if_pos (by omega)] | rw [if_neg (by omega)])
  have B : Hid (Dc.tbits op = Dc.rowOf op op 47 [2]) := by
    show _ = _
    unfold Dc.tbits
    repeat (first | rw [if_pos (by omega)] | rw [if_neg (by omega)])
  have e1 : (op == 1) = false := by simp; omega
  have e2 : (op == 2) = false := by simp; omega
  have e3 : (op == 3) = false := by simp; omega
  have e4 : (op == 4) = false := by simp; omega
  have e57 : (op == 57) = false := by simp; omega
  have e58 : (op == 58) = false := by simp; omega
  have e59 : (op == 59) = false := by simp; omega
  go_enter Tryd.func87, Tryd.ntmps87
  go_wp2_with (first | (go_at_call 105; first | (refine (within_yes _ _ _ _ (by omega)).mono ?_; rintro e w' ⟨rfl, rfl⟩) | (refine (within_no _ _ _ _ (by omega)).mono ?_; rintro e w' ⟨rfl, rfl⟩)) | (go_at_call 104; refine (row_any _ _ _ _ [2] _ (T.of ((Gr.refl _).alloc _ _)) (cells_new _ [2] _) (by decide) (by omega) (by simp <;> omega) (by omega) (by omega) (by omega) (by omega) (by omega) (by decide)).mono ?_; rintro e w' ⟨rfl, g⟩))
  go_ret2
  exact ⟨ret_two F.out.symm B.out.symm, ((Gr.refl _).alloc _ _).trans g⟩
theorem told_57 : Told 57 := by
  intro w T
  go_enter Tryd.func87, Tryd.ntmps87
  go_wp2_with (first | (go_at_call 105; first | (refine (within_yes _ _ _ _ (by omega)).mono ?_; rintro e w' ⟨rfl, rfl⟩) | (refine (within_no _ _ _ _ (by omega)).mono ?_; rintro e w' ⟨rfl, rfl⟩)) | (go_at_call 104; refine (row_any 57 57 15 _ [0] _ (T.of ((Gr.refl _).alloc _ _)) (cells_new _ [0] _) (by decide) (by omega) (by simp <;> omega) (by omega) (by omega) (by omega) (by omega) (by omega) (by decide)).mono ?_; rintro e w' ⟨rfl, g⟩))
  go_ret2
  exact ⟨rfl, ((Gr.refl _).alloc _ _).trans g⟩
theorem told_1 : Told 1 := by
  intro w T
  go_enter Tryd.func87, Tryd.ntmps87
  go_wp2_with (go_at_call 105; first | (refine (within_yes _ _ _ _ (by omega)).mono ?_; rintro e w' ⟨rfl, rfl⟩) | (refine (within_no _ _ _ _ (by omega)).mono ?_; rintro e w' ⟨rfl, rfl⟩))
  go_ret2
  exact ⟨rfl, Gr.refl _⟩
theorem told_2 : Told 2 := by
  intro w T
  go_enter Tryd.func87, Tryd.ntmps87
  go_wp2_with (go_at_call 105; first | (refine (within_yes _ _ _ _ (by omega)).mono ?_; rintro e w' ⟨rfl, rfl⟩) | (refine (within_no _ _ _ _ (by omega)).mono ?_; rintro e w' ⟨rfl, rfl⟩))
  go_ret2
  exact ⟨rfl, Gr.refl _⟩
theorem told_3 : Told 3 := by
  intro w T
  go_enter Tryd.func87, Tryd.ntmps87
  go_wp2_with (go_at_call 105; first | (refine (within_yes _ _ _ _ (by omega)).mono ?_; rintro e w' ⟨rfl, rfl⟩) | (refine (within_no _ _ _ _ (by omega)).mono ?_; rintro e w' ⟨rfl, rfl⟩))
  go_ret2
  exact ⟨rfl, Gr.refl _⟩
theorem told_58 : Told 58 := by
  intro w T
  go_enter Tryd.func87, Tryd.ntmps87
  go_wp2_with (go_at_call 105; first | (refine (within_yes _ _ _ _ (by omega)).mono ?_; rintro e w' ⟨rfl, rfl⟩) | (refine (within_no _ _ _ _ (by omega)).mono ?_; rintro e w' ⟨rfl, rfl⟩))
  go_ret2
  exact ⟨rfl, Gr.refl _⟩
theorem told_59 : Told 59 := by
  intro w T
  go_enter Tryd.func87, Tryd.ntmps87
  go_wp2_with (go_at_call 105; first | (refine (within_yes _ _ _ _ (by omega)).mono ?_; rintro e w' ⟨rfl, rfl⟩) | (refine (within_no _ _ _ _ (by omega)).mono ?_; rintro e w' ⟨rfl, rfl⟩))
  go_ret2
  exact ⟨rfl, Gr.refl _⟩
theorem told_none (op : Int) (h : op < 1 ∨ 59 < op) : Told op := by
  intro w T
  have F : Hid (Dc.frm op = 0) := by
    show _ = _
    unfold Dc.frm
    repeat (first | rw [if_pos (by omega)] | rw [if_neg (by omega)])
  have B : Hid (Dc.tbits op = 0) := by
    show _ = _
    unfold Dc.tbits
    repeat (first | rw [if_neg (by omega)])
  have e1 : (op == 1) = false := by simp; omega
  have e2 : (op == 2) = false := by simp; omega
  have e3 : (op == 3) = false := by simp; omega
  have e4 : (op == 4) = false := by simp; omega
  have e57 : (op == 57) = false := by simp; omega
  have e58 : (op == 58) = false := by simp; omega
  have e59 : (op == 59) = false := by simp; omega
  go_enter Tryd.func87, Tryd.ntmps87
  go_wp2_with (go_at_call 105; first | (refine (within_yes _ _ _ _ (by omega)).mono ?_; rintro e w' ⟨rfl, rfl⟩) | (refine (within_no _ _ _ _ (by omega)).mono ?_; rintro e w' ⟨rfl, rfl⟩))
  go_ret2
  exact ⟨ret_two F.out.symm B.out.symm, Gr.refl _⟩
theorem told_any (op : Int) : Told op := by
  by_cases h0 : op < 1 ∨ 59 < op
  · exact told_none op h0
  by_cases e1 : op = 1
  · subst e1; exact told_1
  by_cases e2 : op = 2
  · subst e2; exact told_2
  by_cases e3 : op = 3
  · subst e3; exact told_3
  by_cases e58 : op = 58
  · subst e58; exact told_58
  by_cases e59 : op = 59
  · subst e59; exact told_59
  by_cases h4 : op ≤ 4
  · exact told_4 op (by omega) h4
  by_cases h5 : op ≤ 10
  · exact told_5 op (by omega) h5
  by_cases h11 : op ≤ 15
  · exact told_11 op (by omega) h11
  by_cases h16 : op ≤ 18
  · exact told_16 op (by omega) h16
  by_cases h19 : op ≤ 24
  · exact told_19 op (by omega) h19
  by_cases h25 : op ≤ 27
  · exact told_25 op (by omega) h25
  by_cases h28 : op ≤ 37
  · exact told_28 op (by omega) h28
  by_cases h38 : op ≤ 45
  · exact told_38 op (by omega) h38
  by_cases h46 : op ≤ 56
  · exact told_46 op (by omega) h46
  obtain rfl : op = 57 := by omega
  exact told_57
theorem span_any (a : Int) (w : World) (h0 : 0 ≤ a) (h1 : a < 4294967296) :
    Calls Tryd.prog 86 #[.int .u32 a] w fun e w' => e = .returned (.tuple #[.int .i64 (Dc.sp1 (a % 128)), .int .i64 (Dc.sp2 (a % 128))]) ∧ w' = w := by
  have B : bits .and .u32 a 127 = a % 128 := (bits_and_u32 a 127 h0 h1 (by omega) (by omega)).trans (Dc.band1 h0 h1)
  by_cases e55 : a % 128 = 55
  · have b55 : (a % 128 == 55) = true := by simp [e55]
    have S1 : Hid (Dc.sp1 (a % 128) = 1) := by show _ = _; rw [e55]; rfl
    have S2 : Hid (Dc.sp2 (a % 128) = 1) := by show _ = _; rw [e55]; rfl
    clear e55
    go_enter Tryd.func86, Tryd.ntmps86
    go_wp2
    go_ret2
    rw [S1.out, S2.out]
    exact ⟨rfl, rfl⟩
  have b55 : (a % 128 == 55) = false := by simp [e55]
  by_cases e23 : a % 128 = 23
  · have b23 : (a % 128 == 23) = true := by simp [e23]
    have S1 : Hid (Dc.sp1 (a % 128) = 2) := by show _ = _; rw [e23]; rfl
    have S2 : Hid (Dc.sp2 (a % 128) = 2) := by show _ = _; rw [e23]; rfl
    clear e23
    go_enter Tryd.func86, Tryd.ntmps86
    go_wp2
    go_ret2
    rw [S1.out, S2.out]
    exact ⟨rfl, rfl⟩
  have b23 : (a % 128 == 23) = false := by simp [e23]
  by_cases e111 : a % 128 = 111
  · have b111 : (a % 128 == 111) = true := by simp [e111]
    have S1 : Hid (Dc.sp1 (a % 128) = 3) := by show _ = _; rw [e111]; rfl
    have S2 : Hid (Dc.sp2 (a % 128) = 3) := by show _ = _; rw [e111]; rfl
    clear e111
    go_enter Tryd.func86, Tryd.ntmps86
    go_wp2
    go_ret2
    rw [S1.out, S2.out]
    exact ⟨rfl, rfl⟩
  have b111 : (a % 128 == 111) = false := by simp [e111]
  by_cases e103 : a % 128 = 103
  · have b103 : (a % 128 == 103) = true := by simp [e103]
    have S1 : Hid (Dc.sp1 (a % 128) = 4) := by show _ = _; rw [e103]; rfl
    have S2 : Hid (Dc.sp2 (a % 128) = 4) := by show _ = _; rw [e103]; rfl
    clear e103
    go_enter Tryd.func86, Tryd.ntmps86
    go_wp2
    go_ret2
    rw [S1.out, S2.out]
    exact ⟨rfl, rfl⟩
  have b103 : (a % 128 == 103) = false := by simp [e103]
  by_cases e99 : a % 128 = 99
  · have b99 : (a % 128 == 99) = true := by simp [e99]
    have S1 : Hid (Dc.sp1 (a % 128) = 5) := by show _ = _; rw [e99]; rfl
    have S2 : Hid (Dc.sp2 (a % 128) = 10) := by show _ = _; rw [e99]; rfl
    clear e99
    go_enter Tryd.func86, Tryd.ntmps86
    go_wp2
    go_ret2
    rw [S1.out, S2.out]
    exact ⟨rfl, rfl⟩
  have b99 : (a % 128 == 99) = false := by simp [e99]
  by_cases e3 : a % 128 = 3
  · have b3 : (a % 128 == 3) = true := by simp [e3]
    have S1 : Hid (Dc.sp1 (a % 128) = 11) := by show _ = _; rw [e3]; rfl
    have S2 : Hid (Dc.sp2 (a % 128) = 15) := by show _ = _; rw [e3]; rfl
    clear e3
    go_enter Tryd.func86, Tryd.ntmps86
    go_wp2
    go_ret2
    rw [S1.out, S2.out]
    exact ⟨rfl, rfl⟩
  have b3 : (a % 128 == 3) = false := by simp [e3]
  by_cases e35 : a % 128 = 35
  · have b35 : (a % 128 == 35) = true := by simp [e35]
    have S1 : Hid (Dc.sp1 (a % 128) = 16) := by show _ = _; rw [e35]; rfl
    have S2 : Hid (Dc.sp2 (a % 128) = 18) := by show _ = _; rw [e35]; rfl
    clear e35
    go_enter Tryd.func86, Tryd.ntmps86
    go_wp2
    go_ret2
    rw [S1.out, S2.out]
    exact ⟨rfl, rfl⟩
  have b35 : (a % 128 == 35) = false := by simp [e35]
  by_cases e19 : a % 128 = 19
  · have b19 : (a % 128 == 19) = true := by simp [e19]
    have S1 : Hid (Dc.sp1 (a % 128) = 19) := by show _ = _; rw [e19]; rfl
    have S2 : Hid (Dc.sp2 (a % 128) = 27) := by show _ = _; rw [e19]; rfl
    clear e19
    go_enter Tryd.func86, Tryd.ntmps86
    go_wp2
    go_ret2
    rw [S1.out, S2.out]
    exact ⟨rfl, rfl⟩
  have b19 : (a % 128 == 19) = false := by simp [e19]
  by_cases e51 : a % 128 = 51
  · have b51 : (a % 128 == 51) = true := by simp [e51]
    have S1 : Hid (Dc.sp1 (a % 128) = 28) := by show _ = _; rw [e51]; rfl
    have S2 : Hid (Dc.sp2 (a % 128) = 45) := by show _ = _; rw [e51]; rfl
    clear e51
    go_enter Tryd.func86, Tryd.ntmps86
    go_wp2
    go_ret2
    rw [S1.out, S2.out]
    exact ⟨rfl, rfl⟩
  have b51 : (a % 128 == 51) = false := by simp [e51]
  by_cases e47 : a % 128 = 47
  · have b47 : (a % 128 == 47) = true := by simp [e47]
    have S1 : Hid (Dc.sp1 (a % 128) = 46) := by show _ = _; rw [e47]; rfl
    have S2 : Hid (Dc.sp2 (a % 128) = 56) := by show _ = _; rw [e47]; rfl
    clear e47
    go_enter Tryd.func86, Tryd.ntmps86
    go_wp2
    go_ret2
    rw [S1.out, S2.out]
    exact ⟨rfl, rfl⟩
  have b47 : (a % 128 == 47) = false := by simp [e47]
  by_cases e15 : a % 128 = 15
  · have b15 : (a % 128 == 15) = true := by simp [e15]
    have S1 : Hid (Dc.sp1 (a % 128) = 57) := by show _ = _; rw [e15]; rfl
    have S2 : Hid (Dc.sp2 (a % 128) = 57) := by show _ = _; rw [e15]; rfl
    clear e15
    go_enter Tryd.func86, Tryd.ntmps86
    go_wp2
    go_ret2
    rw [S1.out, S2.out]
    exact ⟨rfl, rfl⟩
  have b15 : (a % 128 == 15) = false := by simp [e15]
  by_cases e115 : a % 128 = 115
  · have b115 : (a % 128 == 115) = true := by simp [e115]
    have S1 : Hid (Dc.sp1 (a % 128) = 58) := by show _ = _; rw [e115]; rfl
    have S2 : Hid (Dc.sp2 (a % 128) = 59) := by show _ = _; rw [e115]; rfl
    clear e115
    go_enter Tryd.func86, Tryd.ntmps86
    go_wp2
    go_ret2
    rw [S1.out, S2.out]
    exact ⟨rfl, rfl⟩
  have b115 : (a % 128 == 115) = false := by simp [e115]
  have S1 : Hid (Dc.sp1 (a % 128) = 0) := by show _ = _; unfold Dc.sp1; simp [e55, e23, e111, e103, e99, e3, e35, e19, e51, e47, e15, e115]
  have S2 : Hid (Dc.sp2 (a % 128) = -1) := by show _ = _; unfold Dc.sp2; simp [e55, e23, e111, e103, e99, e3, e35, e19, e51, e47, e15, e115]
  clear e55 e23 e111 e103 e99 e3 e35 e19 e51 e47 e15 e115
  go_enter Tryd.func86, Tryd.ntmps86
  go_wp2
  go_ret2
  rw [S1.out, S2.out]
  exact ⟨rfl, rfl⟩
end Go.Proofs.YtbihifipemldhabDoor.Dw
