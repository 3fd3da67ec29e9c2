/-
  Ref4c, Ref4d, Ref4e: texts of ours that lie in one file.
-/
import Derived.Test.YtbihifipemldhabDoorQ11
import Derived.Test.YtbihifipemldhabDoorQ03
import Derived.Test.YtbihifipemldhabDoorQ09
import Derived.Test.YtbihifipemldhabDoorQ13
set_option linter.unusedVariables false
set_option linter.unusedSimpArgs false
set_option maxHeartbeats 8000000
set_option maxRecDepth 100000
/-
  What ferrybridgeref4.atom returns, way by way: where no word is, of LRW, of SCW, of the others; and nothing old in memory turns.
-/
namespace Go.Proofs.YtbihifipemldhabDoor.Hr
open Go.ChangeShapes Go.WideShapes Go.ChangeAt Go.RowKit Mm Hh

/-- An instruction's cells. -/
def iA (op rd r1 r2 im : Int) : Array Value := #[.int .i64 op, .int .i64 rd, .int .i64 r1, .int .i64 r2, .int .i32 im]
theorem three_blocks {w w' : World} {A I Z : Array Value} {t u v : Nat} (g : Gr (((w.alloc (.cells A t)).alloc (.cells I u)).alloc (.cells Z v)) w') :
    w'.heap[w.heap.size]? = some (.cells A t (0, 0)) ∧ w'.heap[w.heap.size + 1]? = some (.cells I u (0, 0)) ∧ w'.heap[w.heap.size + 1 + 1]? = some (.cells Z v (0, 0)) := by
  refine ⟨heap_of_gr g ?_, heap_of_gr g ?_, heap_of_gr g ?_⟩
  · rw [heap_alloc_old _ _ (by simp; omega)]; exact heap_alloc2_old _ _ _
  · rw [heap_alloc_old _ _ (by simp)]; exact heap_alloc2_new _ _ _
  · have := heap_alloc_new ((w.alloc (.cells A t)).alloc (.cells I u)) (.cells Z v)
    simpa using this
theorem first_of_three (w : World) (A I Z : Array Value) (t u v : Nat) : (((w.alloc (.cells A t)).alloc (.cells I u)).alloc (.cells Z v)).heap[w.heap.size]? = some (.cells A t (0, 0)) := (three_blocks (Gr.refl _)).1

theorem atom_fault {d : Dv} (o : d.Ok) {ao : Option Addr} {n cap : Nat} {l : List UInt8} (hm : d.m = .slice ao n cap) (op rd r1 r2 im a b : Int) {w : World} (M : Mem w ao n l) (hn : n ≤ 140737488351232) (h0 : 0 ≤ a) (h1 : a < 4294967296) (ok : ldOk l 13 a = false) :
    Calls Tryd.prog 78 #[.agg (dA d), .agg (iA op rd r1 r2 im), .int .u32 a, .int .u32 b] w fun e w' => e = .returned (.tuple #[.agg (dA (d.setH (d.h.trap (if op = 46 then 3 else 4)))), .bool false]) ∧ Gr w w' := by
  have L : Hid (∀ W : World, Gr w W → Calls Tryd.prog 29 #[.slice ao n cap, .int .i64 13, .int .u32 a] W fun e w' => e = .returned (.tuple #[.int .u32 (ldV l 13 a), .bool false]) ∧ w' = W) := fun W G => by
    have := Mr.Load_any cap 13 a (M.of G) hn h0 h1
    rwa [ok] at this
  have T : Hid (∀ (c : Int) (W : World), Calls Tryd.prog 73 #[.agg (dA d), .int .i64 c] W fun e w' => e = .returned (.agg (dA (d.setH (d.h.trap c)))) ∧ Gr W w') := fun c W => trap_any o c W
  have SE : Hid (∀ c, (dA (d.setH (d.h.trap c))).size = 41) := fun c => dA_size (d := d.setH _) (o.h.trap c)
  have H1 : Hid (∀ c, (dA (d.setH (d.h.trap c))).all (·.oneCell') = true) := fun c => one_dA (o.setH (o.h.trap c))
  have g37 : (dA d)[37]? = some (.slice ao n cap) := by rw [dA_fld o.h 0]; simp [hm]
  have hs : Hid ((dA d).size = 41) := dA_size o.h
  generalize dA d = D0 at *
  generalize ldV l 13 a = y at *
  clear M hm ok o
  unfold iA
  by_cases h46 : op = 46
  · rw [if_pos h46]
    have b46 : (op == 46) = true := by simp [h46]
    clear h46
    have S3 := SE.out 3
    have O3 := H1.out 3
    generalize hD : dA (d.setH (d.h.trap 3)) = D2 at *
    have T3 : Hid (∀ W : World, Calls Tryd.prog 73 #[.agg D0, .int .i64 3] W fun e w' => e = .returned (.agg D2) ∧ Gr W w') := fun W => by rw [← hD]; exact T.out 3 W
    have HS : Hid (D2.size = 41) := S3
    have HO : Hid (D2.all (·.oneCell') = true) := O3
    clear SE H1 T S3 O3 hD
    go_enter Tryd.func78, Tryd.ntmps78
    go_wp2_with fail
    refine (L.out _ ((((Gr.refl _).alloc _).alloc _).alloc _)).mono ?_
    rintro e w' ⟨rfl, rfl⟩
    go_wp2_with (refine wpList_load_row rfl 105 _ rfl w.heap.size rfl 105 D0 (0, 0) _ ?hb1 Tryd.underlying105 rfl (by rw [hs.out]; exact iD) ?_; (case hb1 => exact first_of_three w _ _ _ _ _ _))
    refine (T3.out _).mono ?_
    rintro e w1 ⟨rfl, G1⟩
    have HR : Hid (∃ Z : Array Value, Z.size = 41 ∧ w1.heap[w.heap.size + 1 + 1]? = some (.cells Z 105 (0, 0))) := ⟨_, rfl, (three_blocks G1).2.2⟩
    have HG : Hid (Gr w w1) := ((((Gr.refl _).alloc _).alloc _).alloc _).trans G1
    obtain ⟨Z, hz, hR⟩ := HR.out
    have HR2 : Hid (w1.heap[w.heap.size + 1 + 1]? = some (.cells Z 105 (0, 0))) := hR
    clear G1 T3 L HR hR
    go_wp2_with (refine wpList_store_row rfl 105 _ _ rfl (w.heap.size + 1 + 1) D2 rfl rfl 105 Z ?hb2 (by rw [HS.out]; exact iD) (by rw [HS.out, hz]) HO.out ?_; (case hb2 => exact HR2.out))
    refine bodyPost_ret (v := .tuple #[.agg D2, .bool false]) (results_cell_tmp' Tryd.results78 _ _ _ _ _ (0, 0) _ _ rfl rfl (setRow_heap _ _ _ _ _ (0, 0) HR2.out) Tryd.underlying105 rfl (by rw [HS.out]; exact iD)) rfl ⟨rfl, ?_⟩
    exact gr_setRow HG.out (by omega) _
  · rw [if_neg h46]
    have b46 : (op == 46) = false := by simp [h46]
    clear h46
    have S3 := SE.out 4
    have O3 := H1.out 4
    generalize hD : dA (d.setH (d.h.trap 4)) = D2 at *
    have T3 : Hid (∀ W : World, Calls Tryd.prog 73 #[.agg D0, .int .i64 4] W fun e w' => e = .returned (.agg D2) ∧ Gr W w') := fun W => by rw [← hD]; exact T.out 4 W
    have HS : Hid (D2.size = 41) := S3
    have HO : Hid (D2.all (·.oneCell') = true) := O3
    clear SE H1 T S3 O3 hD
    go_enter Tryd.func78, Tryd.ntmps78
    go_wp2_with fail
    refine (L.out _ ((((Gr.refl _).alloc _).alloc _).alloc _)).mono ?_
    rintro e w' ⟨rfl, rfl⟩
    go_wp2_with (refine wpList_load_row rfl 105 _ rfl w.heap.size rfl 105 D0 (0, 0) _ ?hb1 Tryd.underlying105 rfl (by rw [hs.out]; exact iD) ?_; (case hb1 => exact first_of_three w _ _ _ _ _ _))
    refine (T3.out _).mono ?_
    rintro e w1 ⟨rfl, G1⟩
    have HR : Hid (∃ Z : Array Value, Z.size = 41 ∧ w1.heap[w.heap.size + 1 + 1]? = some (.cells Z 105 (0, 0))) := ⟨_, rfl, (three_blocks G1).2.2⟩
    have HG : Hid (Gr w w1) := ((((Gr.refl _).alloc _).alloc _).alloc _).trans G1
    obtain ⟨Z, hz, hR⟩ := HR.out
    have HR2 : Hid (w1.heap[w.heap.size + 1 + 1]? = some (.cells Z 105 (0, 0))) := hR
    clear G1 T3 L HR hR
    go_wp2_with (refine wpList_store_row rfl 105 _ _ rfl (w.heap.size + 1 + 1) D2 rfl rfl 105 Z ?hb2 (by rw [HS.out]; exact iD) (by rw [HS.out, hz]) HO.out ?_; (case hb2 => exact HR2.out))
    refine bodyPost_ret (v := .tuple #[.agg D2, .bool false]) (results_cell_tmp' Tryd.results78 _ _ _ _ _ (0, 0) _ _ rfl rfl (setRow_heap _ _ _ _ _ (0, 0) HR2.out) Tryd.underlying105 rfl (by rw [HS.out]; exact iD)) rfl ⟨rfl, ?_⟩
    exact gr_setRow HG.out (by omega) _

theorem hold_e {d : Dv} (o : d.Ok) (b : Bool) (a : Int) : ∃ X : Array Value, X.size = 41 ∧ (dA d).setIfInBounds 33 (.bool b) = X ∧ X.setIfInBounds 34 (.int .u32 a) = dA (d.setH (d.h.hold b a)) := by
  have o1 : Hv.Ok { d.h with held := b } := ⟨o.h.len, o.h.reg, o.h.pc0, o.h.pc1, o.h.at0, o.h.at1⟩
  exact ⟨_, dA_size (d := { d with h := { d.h with held := b } }) o1, dA_set o.h (by omega) (set_held o.h b), dA_set (d := { d with h := { d.h with held := b } }) o1 (by omega) (set_heldAt o1 a)⟩

/-- What atom's three blocks hold in a later world: the struct, the instruction's Op and Rd, and room for the result. -/
structure Bl (w : World) (B : Nat) (D I Z : Array Value) : Prop where
  d : w.heap[B]? = some (.cells D 105 (0, 0))
  i : w.heap[B + 1]? = some (.cells I 63 (0, 0))
  z : w.heap[B + 1 + 1]? = some (.cells Z 105 (0, 0))
theorem Bl.of {w w' : World} {B : Nat} {D I Z : Array Value} (h : Bl w B D I Z) (g : Gr w w') : Bl w' B D I Z := ⟨heap_of_gr g h.d, heap_of_gr g h.i, heap_of_gr g h.z⟩
theorem Bl.cellI {w : World} {B : Nat} {D I Z : Array Value} (h : Bl w B D I Z) (j : Nat) : w.cell? ⟨B + 1, j, none⟩ = I[j]? := cell_of_row _ _ _ _ _ _ h.i
theorem Bl.cellD {w : World} {B : Nat} {D I Z : Array Value} (h : Bl w B D I Z) (j : Nat) : w.cell? ⟨B, j, none⟩ = D[j]? := cell_of_row _ _ _ _ _ _ h.d
theorem Bl.fz {w : World} {B : Nat} {D I Z : Array Value} (h : Bl w B D I Z) (j : Nat) : w.frozen? ⟨B, j, none⟩ = false := frozen_of_row _ _ j _ _ h.d
theorem Bl.set {w : World} {B : Nat} {D I Z : Array Value} (h : Bl w B D I Z) (j : Nat) (v : Value) : Bl (w.setCell ⟨B, j, none⟩ v) B (D.setIfInBounds j v) I Z :=
  ⟨heap_setCell_same _ _ _ _ _ _ h.d, by rw [heap_setCell_other _ _ _ _ (by simp)]; exact h.i, by rw [heap_setCell_other _ _ _ _ (by simp; omega)]; exact h.z⟩
theorem Bl.row {w : World} {B : Nat} {D I Z : Array Value} (h : Bl w B D I Z) (E : Array Value) : Bl (w.setRow B E) B E I Z :=
  ⟨setRow_heap _ _ _ _ _ (0, 0) h.d, by rw [setRow_other _ _ _ _ (by omega)]; exact h.i, by rw [setRow_other _ _ _ _ (by omega)]; exact h.z⟩

theorem atom_lr {d : Dv} (o : d.Ok) {ao : Option Addr} {n cap : Nat} {l : List UInt8} (hm : d.m = .slice ao n cap) (rd r1 r2 im a b : Int) {w : World} (M : Mem w ao n l) (hn : n ≤ 140737488351232) (h0 : 0 ≤ a) (h1 : a < 4294967296) (hr0 : 0 ≤ rd) (hr1 : rd < 32) (ok : ldOk l 13 a = true) (hv0 : 0 ≤ ldV l 13 a) (hv1 : ldV l 13 a < 4294967296) :
    Calls Tryd.prog 78 #[.agg (dA d), .agg (iA 46 rd r1 r2 im), .int .u32 a, .int .u32 b] w fun e w' => e = .returned (.tuple #[.agg (dA ((d.setH (d.h.hold true a)).setH ((d.h.hold true a).set rd.toNat (ldV l 13 a)))), .bool true]) ∧ Gr w w' := by
  have L : Hid (∀ W : World, Gr w W → Calls Tryd.prog 29 #[.slice ao n cap, .int .i64 13, .int .u32 a] W fun e w' => e = .returned (.tuple #[.int .u32 (ldV l 13 a), .bool true]) ∧ Gr W w') := fun W G => by
    have := Mr.Load_any cap 13 a (M.of G) hn h0 h1
    rw [ok] at this
    exact this.mono fun e w' h => ⟨h.1, by rw [h.2]; exact Gr.refl _⟩
  have o1 : (d.setH (d.h.hold true a)).Ok := o.setH (o.h.hold true h0 h1)
  have T : Hid (∀ W : World, Calls Tryd.prog 75 #[.agg (dA (d.setH (d.h.hold true a))), .int .i64 rd, .int .u32 (ldV l 13 a)] W fun e w' => e = .returned (.agg (dA ((d.setH (d.h.hold true a)).setH ((d.h.hold true a).set rd.toNat (ldV l 13 a))))) ∧ Gr W w') := fun W => set_any o1 rd _ W hr0 hr1 hv0 hv1
  have HS : Hid ((dA ((d.setH (d.h.hold true a)).setH ((d.h.hold true a).set rd.toNat (ldV l 13 a)))).size = 41) := dA_size (d := (d.setH _).setH _) (o1.h.set _ hv0 hv1)
  have HO : Hid ((dA ((d.setH (d.h.hold true a)).setH ((d.h.hold true a).set rd.toNat (ldV l 13 a)))).all (·.oneCell') = true) := one_dA (o1.setH (o1.h.set _ hv0 hv1))
  have g37 : (dA d)[37]? = some (.slice ao n cap) := by rw [dA_fld o.h 0]; simp [hm]
  have g33 : (dA d)[33]? = some (.bool d.h.held) := by rw [dA_get o.h (by omega)]; exact hL_fld o.h 1
  have g34 : (dA d)[34]? = some (.int .u32 d.h.heldAt) := by rw [dA_get o.h (by omega)]; exact hL_fld o.h 2
  have S1 : Hid ((dA (d.setH (d.h.hold true a))).size = 41) := dA_size o1.h
  obtain ⟨X, sX, e1, e2⟩ := hold_e o true a
  generalize d.h.held = q1 at *
  generalize d.h.heldAt = q2 at *
  generalize ldV l 13 a = y at *
  generalize dA ((d.setH (d.h.hold true a)).setH ((d.h.hold true a).set rd.toNat y)) = D2 at *
  generalize dA (d.setH (d.h.hold true a)) = D1 at *
  generalize dA d = D0 at *
  clear M hm ok o o1
  unfold iA
  go_enter Tryd.func78, Tryd.ntmps78
  go_wp2_with fail
  refine (L.out _ ((((Gr.refl _).alloc _).alloc _).alloc _)).mono ?_
  rintro e w1 ⟨rfl, G1⟩
  have HZ : Hid (∃ Z : Array Value, Z.size = 41 ∧ Bl w1 w.heap.size D0 #[.int .i64 46, .int .i64 rd, .int .i64 r1, .int .i64 r2, .int .i32 im] Z) := ⟨_, rfl, (three_blocks G1).1, (three_blocks G1).2.1, (three_blocks G1).2.2⟩
  obtain ⟨Z, hz, hb⟩ := HZ.out
  have HG : Hid (Gr w w1) := ((((Gr.refl _).alloc _).alloc _).alloc _).trans G1
  have c0 : w1.cell? ⟨w.heap.size + 1, 0, none⟩ = some (.int .i64 46) := hb.cellI 0
  have c1 : w1.cell? ⟨w.heap.size + 1, 1, none⟩ = some (.int .i64 rd) := hb.cellI 1
  have c33 : w1.cell? ⟨w.heap.size, 33, none⟩ = some (.bool q1) := (hb.cellD 33).trans g33
  have c34 : w1.cell? ⟨w.heap.size, 34, none⟩ = some (.int .u32 q2) := (hb.cellD 34).trans g34
  have fz := hb.fz
  have HB : Hid (Bl ((w1.setCell ⟨w.heap.size, 33, none⟩ (.bool true)).setCell ⟨w.heap.size, 34, none⟩ (.int .u32 a)) w.heap.size D1 #[.int .i64 46, .int .i64 rd, .int .i64 r1, .int .i64 r2, .int .i32 im] Z) := by
    have := (hb.set 33 (.bool true)).set 34 (.int .u32 a)
    rw [e1, e2] at this
    exact this
  have HG2 : Hid (Gr w ((w1.setCell ⟨w.heap.size, 33, none⟩ (.bool true)).setCell ⟨w.heap.size, 34, none⟩ (.int .u32 a))) := (HG.out.setCell (Nat.le_refl _) _).setCell (Nat.le_refl _) _
  clear G1 L hb HZ e1 e2 sX g33 g34 g37
  go_wp2_with (refine wpList_load_row rfl 105 _ rfl w.heap.size rfl 105 D1 (0, 0) _ ?hb1 Tryd.underlying105 rfl (by rw [S1.out]; exact iD) ?_; (case hb1 => exact HB.out.d))
  refine (T.out _).mono ?_
  rintro e w2 ⟨rfl, G2⟩
  have HG3 : Hid (Gr w w2) := HG2.out.trans G2
  have HR : Hid (w2.heap[w.heap.size + 1 + 1]? = some (.cells Z 105 (0, 0))) := (HB.out.of G2).z
  clear G2 T HG2 HG HB c0 c1 c33 c34 fz
  go_wp2_with (refine wpList_store_row rfl 105 _ _ rfl (w.heap.size + 1 + 1) D2 rfl rfl 105 Z ?hb2 (by rw [HS.out]; exact iD) (by rw [HS.out, hz]) HO.out ?_; (case hb2 => exact HR.out))
  refine bodyPost_ret (v := .tuple #[.agg D2, .bool true]) (results_cell_tmp' Tryd.results78 _ _ _ _ _ (0, 0) _ _ rfl rfl (setRow_heap _ _ _ _ _ (0, 0) HR.out) Tryd.underlying105 rfl (by rw [HS.out]; exact iD)) rfl ⟨rfl, ?_⟩
  exact gr_setRow HG3.out (by omega) _

theorem atom_sc_no {d : Dv} (o : d.Ok) {ao : Option Addr} {n cap : Nat} {l : List UInt8} (hm : d.m = .slice ao n cap) (rd r1 r2 im a b : Int) {w : World} (M : Mem w ao n l) (hn : n ≤ 140737488351232) (h0 : 0 ≤ a) (h1 : a < 4294967296) (hr0 : 0 ≤ rd) (hr1 : rd < 32) (ok : ldOk l 13 a = true) (hmine : ¬ (d.h.held = true ∧ d.h.heldAt = a)) :
    Calls Tryd.prog 78 #[.agg (dA d), .agg (iA 47 rd r1 r2 im), .int .u32 a, .int .u32 b] w fun e w' => e = .returned (.tuple #[.agg (dA ((d.setH (d.h.hold false 0)).setH ((d.h.hold false 0).set rd.toNat 1))), .bool true]) ∧ Gr w w' := by
  have L : Hid (∀ W : World, Gr w W → Calls Tryd.prog 29 #[.slice ao n cap, .int .i64 13, .int .u32 a] W fun e w' => e = .returned (.tuple #[.int .u32 (ldV l 13 a), .bool true]) ∧ Gr W w') := fun W G => by
    have := Mr.Load_any cap 13 a (M.of G) hn h0 h1
    rw [ok] at this
    exact this.mono fun e w' h => ⟨h.1, by rw [h.2]; exact Gr.refl _⟩
  have o1 : (d.setH (d.h.hold false 0)).Ok := o.setH (o.h.hold false (x := 0) (by omega) (by omega))
  have T : Hid (∀ W : World, Calls Tryd.prog 75 #[.agg (dA (d.setH (d.h.hold false 0))), .int .i64 rd, .int .u32 1] W fun e w' => e = .returned (.agg (dA ((d.setH (d.h.hold false 0)).setH ((d.h.hold false 0).set rd.toNat 1)))) ∧ Gr W w') := fun W => set_any o1 rd 1 W hr0 hr1 (by omega) (by omega)
  have HS : Hid ((dA ((d.setH (d.h.hold false 0)).setH ((d.h.hold false 0).set rd.toNat 1))).size = 41) := dA_size (d := (d.setH _).setH _) (o1.h.set _ (x := 1) (by omega) (by omega))
  have HO : Hid ((dA ((d.setH (d.h.hold false 0)).setH ((d.h.hold false 0).set rd.toNat 1))).all (·.oneCell') = true) := one_dA (o1.setH (o1.h.set _ (x := 1) (by omega) (by omega)))
  have g37 : (dA d)[37]? = some (.slice ao n cap) := by rw [dA_fld o.h 0]; simp [hm]
  have g33 : (dA d)[33]? = some (.bool d.h.held) := by rw [dA_get o.h (by omega)]; exact hL_fld o.h 1
  have g34 : (dA d)[34]? = some (.int .u32 d.h.heldAt) := by rw [dA_get o.h (by omega)]; exact hL_fld o.h 2
  have S1 : Hid ((dA (d.setH (d.h.hold false 0))).size = 41) := dA_size o1.h
  obtain ⟨X, sX, e1, e2⟩ := hold_e o false 0
  generalize d.h.held = q1 at *
  generalize d.h.heldAt = q2 at *
  generalize ldV l 13 a = y at *
  generalize dA ((d.setH (d.h.hold false 0)).setH ((d.h.hold false 0).set rd.toNat 1)) = D2 at *
  generalize dA (d.setH (d.h.hold false 0)) = D1 at *
  generalize dA d = D0 at *
  clear M hm ok o o1
  unfold iA
  cases q1 with
  | false =>
    clear hmine
    go_enter Tryd.func78, Tryd.ntmps78
    go_wp2_with fail
    refine (L.out _ ((((Gr.refl _).alloc _).alloc _).alloc _)).mono ?_
    rintro e w1 ⟨rfl, G1⟩
    have HZ : Hid (∃ Z : Array Value, Z.size = 41 ∧ Bl w1 w.heap.size D0 #[.int .i64 47, .int .i64 rd, .int .i64 r1, .int .i64 r2, .int .i32 im] Z) := ⟨_, rfl, (three_blocks G1).1, (three_blocks G1).2.1, (three_blocks G1).2.2⟩
    obtain ⟨Z, hz, hb⟩ := HZ.out
    have HG : Hid (Gr w w1) := ((((Gr.refl _).alloc _).alloc _).alloc _).trans G1
    have c0 : w1.cell? ⟨w.heap.size + 1, 0, none⟩ = some (.int .i64 47) := hb.cellI 0
    have c1 : w1.cell? ⟨w.heap.size + 1, 1, none⟩ = some (.int .i64 rd) := hb.cellI 1
    have c33 : w1.cell? ⟨w.heap.size, 33, none⟩ = some (.bool false) := (hb.cellD 33).trans g33
    have c34 : w1.cell? ⟨w.heap.size, 34, none⟩ = some (.int .u32 q2) := (hb.cellD 34).trans g34
    have fz := hb.fz
    have HB : Hid (Bl ((w1.setCell ⟨w.heap.size, 33, none⟩ (.bool false)).setCell ⟨w.heap.size, 34, none⟩ (.int .u32 0)) w.heap.size D1 #[.int .i64 47, .int .i64 rd, .int .i64 r1, .int .i64 r2, .int .i32 im] Z) := by
      have := (hb.set 33 (.bool false)).set 34 (.int .u32 0)
      rw [e1, e2] at this
      exact this
    have HG2 : Hid (Gr w ((w1.setCell ⟨w.heap.size, 33, none⟩ (.bool false)).setCell ⟨w.heap.size, 34, none⟩ (.int .u32 0))) := (HG.out.setCell (Nat.le_refl _) _).setCell (Nat.le_refl _) _
    clear G1 L hb HZ e1 e2 sX g33 g34 g37
    go_wp2_with (refine wpList_load_row rfl 105 _ rfl w.heap.size rfl 105 D1 (0, 0) _ ?hb1 Tryd.underlying105 rfl (by rw [S1.out]; exact iD) ?_; (case hb1 => exact HB.out.d))
    refine (T.out _).mono ?_
    rintro e w2 ⟨rfl, G2⟩
    have HG3 : Hid (Gr w w2) := HG2.out.trans G2
    have HR : Hid (w2.heap[w.heap.size + 1 + 1]? = some (.cells Z 105 (0, 0))) := (HB.out.of G2).z
    clear G2 T HG2 HG HB c0 c1 c33 c34 fz
    go_wp2_with (refine wpList_store_row rfl 105 _ _ rfl (w.heap.size + 1 + 1) D2 rfl rfl 105 Z ?hb2 (by rw [HS.out]; exact iD) (by rw [HS.out, hz]) HO.out ?_; (case hb2 => exact HR.out))
    refine bodyPost_ret (v := .tuple #[.agg D2, .bool true]) (results_cell_tmp' Tryd.results78 _ _ _ _ _ (0, 0) _ _ rfl rfl (setRow_heap _ _ _ _ _ (0, 0) HR.out) Tryd.underlying105 rfl (by rw [HS.out]; exact iD)) rfl ⟨rfl, ?_⟩
    exact gr_setRow HG3.out (by omega) _
  | true =>
    have hne : (q2 == a) = false := by simp at hmine; simp [hmine]
    clear hmine
    go_enter Tryd.func78, Tryd.ntmps78
    go_wp2_with fail
    refine (L.out _ ((((Gr.refl _).alloc _).alloc _).alloc _)).mono ?_
    rintro e w1 ⟨rfl, G1⟩
    have HZ : Hid (∃ Z : Array Value, Z.size = 41 ∧ Bl w1 w.heap.size D0 #[.int .i64 47, .int .i64 rd, .int .i64 r1, .int .i64 r2, .int .i32 im] Z) := ⟨_, rfl, (three_blocks G1).1, (three_blocks G1).2.1, (three_blocks G1).2.2⟩
    obtain ⟨Z, hz, hb⟩ := HZ.out
    have HG : Hid (Gr w w1) := ((((Gr.refl _).alloc _).alloc _).alloc _).trans G1
    have c0 : w1.cell? ⟨w.heap.size + 1, 0, none⟩ = some (.int .i64 47) := hb.cellI 0
    have c1 : w1.cell? ⟨w.heap.size + 1, 1, none⟩ = some (.int .i64 rd) := hb.cellI 1
    have c33 : w1.cell? ⟨w.heap.size, 33, none⟩ = some (.bool true) := (hb.cellD 33).trans g33
    have c34 : w1.cell? ⟨w.heap.size, 34, none⟩ = some (.int .u32 q2) := (hb.cellD 34).trans g34
    have fz := hb.fz
    have HB : Hid (Bl ((w1.setCell ⟨w.heap.size, 33, none⟩ (.bool false)).setCell ⟨w.heap.size, 34, none⟩ (.int .u32 0)) w.heap.size D1 #[.int .i64 47, .int .i64 rd, .int .i64 r1, .int .i64 r2, .int .i32 im] Z) := by
      have := (hb.set 33 (.bool false)).set 34 (.int .u32 0)
      rw [e1, e2] at this
      exact this
    have HG2 : Hid (Gr w ((w1.setCell ⟨w.heap.size, 33, none⟩ (.bool false)).setCell ⟨w.heap.size, 34, none⟩ (.int .u32 0))) := (HG.out.setCell (Nat.le_refl _) _).setCell (Nat.le_refl _) _
    clear G1 L hb HZ e1 e2 sX g33 g34 g37
    go_wp2_with (refine wpList_load_row rfl 105 _ rfl w.heap.size rfl 105 D1 (0, 0) _ ?hb1 Tryd.underlying105 rfl (by rw [S1.out]; exact iD) ?_; (case hb1 => exact HB.out.d))
    refine (T.out _).mono ?_
    rintro e w2 ⟨rfl, G2⟩
    have HG3 : Hid (Gr w w2) := HG2.out.trans G2
    have HR : Hid (w2.heap[w.heap.size + 1 + 1]? = some (.cells Z 105 (0, 0))) := (HB.out.of G2).z
    clear G2 T HG2 HG HB c0 c1 c33 c34 fz
    go_wp2_with (refine wpList_store_row rfl 105 _ _ rfl (w.heap.size + 1 + 1) D2 rfl rfl 105 Z ?hb2 (by rw [HS.out]; exact iD) (by rw [HS.out, hz]) HO.out ?_; (case hb2 => exact HR.out))
    refine bodyPost_ret (v := .tuple #[.agg D2, .bool true]) (results_cell_tmp' Tryd.results78 _ _ _ _ _ (0, 0) _ _ rfl rfl (setRow_heap _ _ _ _ _ (0, 0) HR.out) Tryd.underlying105 rfl (by rw [HS.out]; exact iD)) rfl ⟨rfl, ?_⟩
    exact gr_setRow HG3.out (by omega) _
end Go.Proofs.YtbihifipemldhabDoor.Hr
/-
  What ferrybridgeref4.atom returns: of SCW that is met, of AMOSWAP to AMOMAXU, and all ways in one ('atom_any').
-/
namespace Go.Proofs.YtbihifipemldhabDoor.Hr
open Go.ChangeShapes Go.WideShapes Go.ChangeAt Go.RowKit Mm Hh

theorem Dv.Ok.setM {d : Dv} (o : d.Ok) (ao : Option Addr) (n cap : Nat) (a k : Int) : (d.setM (.slice ao n cap) a k).Ok := ⟨o.h, rfl, o.out⟩
theorem Bl.lt {w : World} {B : Nat} {D I Z : Array Value} (h : Bl w B D I Z) : B + 1 + 1 < w.heap.size := (Array.getElem?_eq_some_iff.1 h.z).1
/-- What atom answers, where it stores: the hart d1, x for Rd, y in memory. -/
def AtomSt (d d1 : Dv) (op rd r1 r2 im a b x y : Int) (l : List UInt8) (w : World) : Prop :=
  Calls Tryd.prog 78 #[.agg (dA d), .agg (iA op rd r1 r2 im), .int .u32 a, .int .u32 b] w fun e w' => ∃ ao' n' cap', e = .returned (.tuple #[.agg (dA ((d1.setM (.slice ao' n' cap') a 4).setH (d1.h.set rd.toNat x))), .bool true]) ∧ Mem w' ao' n' (stL l 18 a y) ∧ Gr w w' ∧ ∀ ad, ao' = some ad → w.heap.size ≤ ad.block

theorem atom_sc_yes {d : Dv} (o : d.Ok) {ao : Option Addr} {n cap : Nat} {l : List UInt8} (hm : d.m = .slice ao n cap) (rd r1 r2 im a b : Int) {w : World} (M : Mem w ao n l) (hn : n ≤ 140737488351232) (h0 : 0 ≤ a) (h1 : a < 4294967296) (hy0 : 0 ≤ b) (hy1 : b < 4294967296) (hr0 : 0 ≤ rd) (hr1 : rd < 32) (ok : ldOk l 13 a = true) (hmine : d.h.held = true ∧ d.h.heldAt = a) :
    AtomSt d (d.setH (d.h.hold false 0)) 47 rd r1 r2 im a b 0 b l w := by
  unfold AtomSt
  have hx0 : (0 : Int) ≤ 0 := by omega
  have hx1 : (0 : Int) < 4294967296 := by omega
  have o1 : (d.setH (d.h.hold false 0)).Ok := o.setH (o.h.hold false (x := 0) (by omega) (by omega))
  have L : Hid (∀ W : World, Gr w W → Calls Tryd.prog 29 #[.slice ao n cap, .int .i64 13, .int .u32 a] W fun e w' => e = .returned (.tuple #[.int .u32 (ldV l 13 a), .bool true]) ∧ Gr W w') := fun W G => by
    have := Mr.Load_any cap 13 a (M.of G) hn h0 h1
    rw [ok] at this
    exact this.mono fun e w' h => ⟨h.1, by rw [h.2]; exact Gr.refl _⟩
  have S : Hid (∀ W : World, Gr w W → Calls Tryd.prog 76 #[.agg (dA (d.setH (d.h.hold false 0))), .int .i64 18, .int .u32 a, .int .u32 b] W fun e w' => ∃ ao' n' cap', e = .returned (.tuple #[.agg (dA ((d.setH (d.h.hold false 0)).setM (.slice ao' n' cap') a 4)), .bool true]) ∧ Mem w' ao' n' (stL l 18 a b) ∧ Gr W w' ∧ ∀ ad, ao' = some ad → W.heap.size ≤ ad.block) := fun W G => store_yes (d := (d.setH (d.h.hold false 0))) o1 hm 18 a b (M.of G) hn h0 h1 hy0 hy1 (st_of_ld ok)
  have T : Hid (∀ (ao' : Option Addr) (n' c' : Nat) (W : World), Calls Tryd.prog 75 #[.agg (dA ((d.setH (d.h.hold false 0)).setM (.slice ao' n' c') a 4)), .int .i64 rd, .int .u32 0] W fun e w' => e = .returned (.agg (dA (((d.setH (d.h.hold false 0)).setM (.slice ao' n' c') a 4).setH ((d.setH (d.h.hold false 0)).h.set rd.toNat 0)))) ∧ Gr W w') := fun ao' n' c' W => set_any (Dv.Ok.setM o1 ao' n' c' a 4) rd 0 W hr0 hr1 hx0 hx1
  have SM : Hid (∀ (ao' : Option Addr) (n' c' : Nat), (dA ((d.setH (d.h.hold false 0)).setM (.slice ao' n' c') a 4)).size = 41 ∧ (dA ((d.setH (d.h.hold false 0)).setM (.slice ao' n' c') a 4)).all (·.oneCell') = true) := fun ao' n' c' => ⟨dA_size (d := (d.setH (d.h.hold false 0)).setM _ _ _) o1.h, one_dA (Dv.Ok.setM o1 ao' n' c' a 4)⟩
  have SF : Hid (∀ (ao' : Option Addr) (n' c' : Nat), (dA (((d.setH (d.h.hold false 0)).setM (.slice ao' n' c') a 4).setH ((d.setH (d.h.hold false 0)).h.set rd.toNat 0))).size = 41 ∧ (dA (((d.setH (d.h.hold false 0)).setM (.slice ao' n' c') a 4).setH ((d.setH (d.h.hold false 0)).h.set rd.toNat 0))).all (·.oneCell') = true) := fun ao' n' c' => ⟨dA_size (d := ((d.setH (d.h.hold false 0)).setM _ _ _).setH _) (o1.h.set _ hx0 hx1), one_dA ((Dv.Ok.setM o1 ao' n' c' a 4).setH (o1.h.set _ hx0 hx1))⟩
  have g37 : (dA d)[37]? = some (.slice ao n cap) := by rw [dA_fld o.h 0]; simp [hm]
  have g33 : (dA d)[33]? = some (.bool true) := by rw [dA_get o.h (by omega), ← hmine.1]; exact hL_fld o.h 1
  have g34 : (dA d)[34]? = some (.int .u32 a) := by rw [dA_get o.h (by omega), ← hmine.2]; exact hL_fld o.h 2
  have HS1 : Hid ((dA (d.setH (d.h.hold false 0))).size = 41) := dA_size o1.h
  obtain ⟨X, sX, e1, e2⟩ := hold_e o false 0
  generalize ldV l 13 a = y at *
  generalize stL l 18 a b = K at *
  generalize hD1 : dA (d.setH (d.h.hold false 0)) = D1 at *
  generalize dA d = D0 at *
  clear M hm ok o o1 hmine hD1
  unfold iA
  go_enter Tryd.func78, Tryd.ntmps78
  go_wp2_with fail
  refine (L.out _ ((((Gr.refl _).alloc _).alloc _).alloc _)).mono ?_
  rintro e w1 ⟨rfl, G1⟩
  have HZ : Hid (∃ Z : Array Value, Z.size = 41 ∧ Bl w1 w.heap.size D0 #[.int .i64 47, .int .i64 rd, .int .i64 r1, .int .i64 r2, .int .i32 im] Z) := ⟨_, rfl, (three_blocks G1).1, (three_blocks G1).2.1, (three_blocks G1).2.2⟩
  obtain ⟨Z, hz, hb⟩ := HZ.out
  have HG : Hid (Gr w w1) := ((((Gr.refl _).alloc _).alloc _).alloc _).trans G1
  have c0 : w1.cell? ⟨w.heap.size + 1, 0, none⟩ = some (.int .i64 47) := hb.cellI 0
  have c33 : w1.cell? ⟨w.heap.size, 33, none⟩ = some (.bool true) := (hb.cellD 33).trans g33
  have c34 : w1.cell? ⟨w.heap.size, 34, none⟩ = some (.int .u32 a) := (hb.cellD 34).trans g34
  have fz := hb.fz
  have HBl : Hid (Bl ((w1.setCell ⟨w.heap.size, 33, none⟩ (.bool false)).setCell ⟨w.heap.size, 34, none⟩ (.int .u32 0)) w.heap.size D1 #[.int .i64 47, .int .i64 rd, .int .i64 r1, .int .i64 r2, .int .i32 im] Z) := by
    have := (hb.set 33 (.bool false)).set 34 (.int .u32 0)
    rw [e1, e2] at this
    exact this
  have HGW : Hid (Gr w ((w1.setCell ⟨w.heap.size, 33, none⟩ (.bool false)).setCell ⟨w.heap.size, 34, none⟩ (.int .u32 0))) := (HG.out.setCell (Nat.le_refl _) _).setCell (Nat.le_refl _) _
  clear G1 L hb HZ e1 e2 sX g33 g34 g37
  go_wp2_with (refine wpList_load_row rfl 105 _ rfl w.heap.size rfl 105 D1 (0, 0) _ ?hb1 Tryd.underlying105 rfl (by rw [HS1.out]; exact iD) ?_; (case hb1 => exact HBl.out.d))
  refine (S.out _ HGW.out).mono ?_
  rintro e w3 ⟨a1, n1, c1, rfl, M3, G3, F3⟩
  have hb3 := HBl.out.of G3
  have hlt := HBl.out.lt
  have HM3 : Hid (Mem w3 a1 n1 K) := M3
  have HF3 : Hid (∀ ad, a1 = some ad → w.heap.size + 1 + 1 < ad.block) := fun ad q => by have := F3 ad q; omega
  have HG3 : Hid (Gr w w3) := HGW.out.trans G3
  have s2 := SM.out a1 n1 c1
  have s3 := SF.out a1 n1 c1
  have T2 := T.out a1 n1 c1
  generalize hD3 : dA (((d.setH (d.h.hold false 0)).setM (.slice a1 n1 c1) a 4).setH ((d.setH (d.h.hold false 0)).h.set rd.toNat 0)) = D3 at *
  have HD3 : Hid (dA (((d.setH (d.h.hold false 0)).setM (.slice a1 n1 c1) a 4).setH ((d.setH (d.h.hold false 0)).h.set rd.toNat 0)) = D3) := hD3
  generalize dA ((d.setH (d.h.hold false 0)).setM (.slice a1 n1 c1) a 4) = D2 at *
  have HT : Hid (∀ W : World, Calls Tryd.prog 75 #[.agg D2, .int .i64 rd, .int .u32 0] W fun e w' => e = .returned (.agg D3) ∧ Gr W w') := T2
  have H2 : Hid (D2.size = 41 ∧ D2.all (·.oneCell') = true) := s2
  have H3 : Hid (D3.size = 41 ∧ D3.all (·.oneCell') = true) := s3
  have HB3 : Hid (Bl w3 w.heap.size D1 #[.int .i64 47, .int .i64 rd, .int .i64 r1, .int .i64 r2, .int .i32 im] Z) := hb3
  have HB4 : Hid (Bl (w3.setRow w.heap.size D2) w.heap.size D2 #[.int .i64 47, .int .i64 rd, .int .i64 r1, .int .i64 r2, .int .i32 im] Z) := hb3.row D2
  have c1' : (w3.setRow w.heap.size D2).cell? ⟨w.heap.size + 1, 1, none⟩ = some (.int .i64 rd) := HB4.out.cellI 1
  have HG4 : Hid (Gr w (w3.setRow w.heap.size D2)) := gr_setRow HG3.out (Nat.le_refl _) _
  have HM4 : Hid (Mem (w3.setRow w.heap.size D2) a1 n1 K) := HM3.out.apart fun ad q => setRow_other _ _ _ _ (by have := HF3.out ad q; omega)
  clear M3 G3 F3 hb3 s2 s3 T2 hD3 S T SM SF HBl HGW HM3 HG3 c0 c33 c34 fz
  go_wp2_with (first
    | (refine wpList_store_row rfl 105 _ _ rfl w.heap.size D2 rfl rfl 105 D1 ?hb5 (by rw [H2.out.1]; exact iD) (by rw [H2.out.1]; exact HS1.out) H2.out.2 ?_; (case hb5 => exact HB3.out.d))
    | (refine wpList_load_row rfl 105 _ rfl w.heap.size rfl 105 D2 (0, 0) _ ?hb6 Tryd.underlying105 rfl (by rw [H2.out.1]; exact iD) ?_; (case hb6 => exact HB4.out.d)))
  refine (HT.out _).mono ?_
  rintro e w5 ⟨rfl, G5⟩
  have HR5 : Hid (w5.heap[w.heap.size + 1 + 1]? = some (.cells Z 105 (0, 0))) := (HB4.out.of G5).z
  have HM5 : Hid (Mem w5 a1 n1 K) := HM4.out.of G5
  have HG5 : Hid (Gr w w5) := HG4.out.trans G5
  clear G5 HT HB3 HB4 HM4 HG4 c1'
  go_wp2_with (refine wpList_store_row rfl 105 _ _ rfl (w.heap.size + 1 + 1) D3 rfl rfl 105 Z ?hb7 (by rw [H3.out.1]; exact iD) (by rw [H3.out.1, hz]) H3.out.2 ?_; (case hb7 => exact HR5.out))
  refine bodyPost_ret (v := .tuple #[.agg D3, .bool true]) (results_cell_tmp' Tryd.results78 _ _ _ _ _ (0, 0) _ _ rfl rfl (setRow_heap _ _ _ _ _ (0, 0) HR5.out) Tryd.underlying105 rfl (by rw [H3.out.1]; exact iD)) rfl ⟨a1, n1, c1, by rw [HD3.out], ?_, ?_, fun ad q => by have := HF3.out ad q; omega⟩
  · exact HM5.out.apart fun ad q => setRow_other _ _ _ _ (by have := HF3.out ad q; omega)
  · exact gr_setRow HG5.out (by omega) _

theorem atom_amo {d : Dv} (o : d.Ok) {ao : Option Addr} {n cap : Nat} {l : List UInt8} (hm : d.m = .slice ao n cap) (op rd r1 r2 im a b : Int) {w : World} (M : Mem w ao n l) (hn : n ≤ 140737488351232) (h0 : 0 ≤ a) (h1 : a < 4294967296) (hb0 : 0 ≤ b) (hb1 : b < 4294967296) (hr0 : 0 ≤ rd) (hr1 : rd < 32) (ok : ldOk l 13 a = true) (h46 : ¬ op = 46) (h47 : ¬ op = 47) :
    AtomSt d d op rd r1 r2 im a b (ldV l 13 a) (Wd.amo op (ldV l 13 a) b) l w := by
  unfold AtomSt
  have wv := W.ldV l 13 a
  have hx0 := wv.1
  have hx1 := wv.2
  have wa := W.amo (op := op) wv ⟨hb0, hb1⟩
  have hy0 := wa.1
  have hy1 := wa.2
  have o1 : d.Ok := o
  have L : Hid (∀ W : World, Gr w W → Calls Tryd.prog 29 #[.slice ao n cap, .int .i64 13, .int .u32 a] W fun e w' => e = .returned (.tuple #[.int .u32 (ldV l 13 a), .bool true]) ∧ Gr W w') := fun W G => by
    have := Mr.Load_any cap 13 a (M.of G) hn h0 h1
    rw [ok] at this
    exact this.mono fun e w' h => ⟨h.1, by rw [h.2]; exact Gr.refl _⟩
  have Am : Hid (∀ W : World, Calls Tryd.prog 99 #[.int .i64 op, .int .u32 (ldV l 13 a), .int .u32 b] W fun e w' => e = .returned (.int .u32 (Wd.amo op (ldV l 13 a) b)) ∧ Gr W w') := fun W => (Rw.amo_any op _ b W hx0 hx1 hb0 hb1).mono fun e w' ⟨h, k, q⟩ => ⟨h, by rw [q]; exact (Gr.refl _).drewN k⟩
  have S : Hid (∀ W : World, Gr w W → Calls Tryd.prog 76 #[.agg (dA d), .int .i64 18, .int .u32 a, .int .u32 (Wd.amo op (ldV l 13 a) b)] W fun e w' => ∃ ao' n' cap', e = .returned (.tuple #[.agg (dA (d.setM (.slice ao' n' cap') a 4)), .bool true]) ∧ Mem w' ao' n' (stL l 18 a (Wd.amo op (ldV l 13 a) b)) ∧ Gr W w' ∧ ∀ ad, ao' = some ad → W.heap.size ≤ ad.block) := fun W G => store_yes (d := d) o1 hm 18 a (Wd.amo op (ldV l 13 a) b) (M.of G) hn h0 h1 hy0 hy1 (st_of_ld ok)
  have T : Hid (∀ (ao' : Option Addr) (n' c' : Nat) (W : World), Calls Tryd.prog 75 #[.agg (dA (d.setM (.slice ao' n' c') a 4)), .int .i64 rd, .int .u32 (ldV l 13 a)] W fun e w' => e = .returned (.agg (dA ((d.setM (.slice ao' n' c') a 4).setH (d.h.set rd.toNat (ldV l 13 a))))) ∧ Gr W w') := fun ao' n' c' W => set_any (Dv.Ok.setM o1 ao' n' c' a 4) rd (ldV l 13 a) W hr0 hr1 hx0 hx1
  have SM : Hid (∀ (ao' : Option Addr) (n' c' : Nat), (dA (d.setM (.slice ao' n' c') a 4)).size = 41 ∧ (dA (d.setM (.slice ao' n' c') a 4)).all (·.oneCell') = true) := fun ao' n' c' => ⟨dA_size (d := d.setM _ _ _) o1.h, one_dA (Dv.Ok.setM o1 ao' n' c' a 4)⟩
  have SF : Hid (∀ (ao' : Option Addr) (n' c' : Nat), (dA ((d.setM (.slice ao' n' c') a 4).setH (d.h.set rd.toNat (ldV l 13 a)))).size = 41 ∧ (dA ((d.setM (.slice ao' n' c') a 4).setH (d.h.set rd.toNat (ldV l 13 a)))).all (·.oneCell') = true) := fun ao' n' c' => ⟨dA_size (d := (d.setM _ _ _).setH _) (o1.h.set _ hx0 hx1), one_dA ((Dv.Ok.setM o1 ao' n' c' a 4).setH (o1.h.set _ hx0 hx1))⟩
  have g37 : (dA d)[37]? = some (.slice ao n cap) := by rw [dA_fld o.h 0]; simp [hm]
  have HS1 : Hid ((dA d).size = 41) := dA_size o1.h
  have b46 : (op == 46) = false := by simp [h46]
  have b47 : (op == 47) = false := by simp [h47]
  generalize stL l 18 a (Wd.amo op (ldV l 13 a) b) = K at *
  generalize Wd.amo op (ldV l 13 a) b = Y at *
  generalize ldV l 13 a = X at *
  generalize hD0 : dA d = D0 at *
  clear M hm ok o o1 wv wa h46 h47 hD0
  unfold iA
  go_enter Tryd.func78, Tryd.ntmps78
  go_wp2_with fail
  refine (L.out _ ((((Gr.refl _).alloc _).alloc _).alloc _)).mono ?_
  rintro e w0 ⟨rfl, G1⟩
  have HZ : Hid (∃ Z : Array Value, Z.size = 41 ∧ Bl w0 w.heap.size D0 #[.int .i64 op, .int .i64 rd, .int .i64 r1, .int .i64 r2, .int .i32 im] Z) := ⟨_, rfl, (three_blocks G1).1, (three_blocks G1).2.1, (three_blocks G1).2.2⟩
  obtain ⟨Z, hz, hb⟩ := HZ.out
  have HG : Hid (Gr w w0) := ((((Gr.refl _).alloc _).alloc _).alloc _).trans G1
  have c0 : w0.cell? ⟨w.heap.size + 1, 0, none⟩ = some (.int .i64 op) := hb.cellI 0
  have HBo : Hid (Bl w0 w.heap.size D0 #[.int .i64 op, .int .i64 rd, .int .i64 r1, .int .i64 r2, .int .i32 im] Z) := hb
  clear G1 L hb HZ g37
  go_wp2_with fail
  refine (Am.out _).mono ?_
  rintro e w1 ⟨rfl, G2⟩
  have HBl : Hid (Bl w1 w.heap.size D0 #[.int .i64 op, .int .i64 rd, .int .i64 r1, .int .i64 r2, .int .i32 im] Z) := HBo.out.of G2
  have HGW : Hid (Gr w w1) := HG.out.trans G2
  clear Am G2 HBo HG c0
  go_wp2_with (refine wpList_load_row rfl 105 _ rfl w.heap.size rfl 105 D0 (0, 0) _ ?hb1 Tryd.underlying105 rfl (by rw [HS1.out]; exact iD) ?_; (case hb1 => exact HBl.out.d))
  refine (S.out _ HGW.out).mono ?_
  rintro e w3 ⟨a1, n1, c1, rfl, M3, G3, F3⟩
  have hb3 := HBl.out.of G3
  have hlt := HBl.out.lt
  have HM3 : Hid (Mem w3 a1 n1 K) := M3
  have HF3 : Hid (∀ ad, a1 = some ad → w.heap.size + 1 + 1 < ad.block) := fun ad q => by have := F3 ad q; omega
  have HG3 : Hid (Gr w w3) := HGW.out.trans G3
  have s2 := SM.out a1 n1 c1
  have s3 := SF.out a1 n1 c1
  have T2 := T.out a1 n1 c1
  generalize hD3 : dA ((d.setM (.slice a1 n1 c1) a 4).setH (d.h.set rd.toNat X)) = D3 at *
  have HD3 : Hid (dA ((d.setM (.slice a1 n1 c1) a 4).setH (d.h.set rd.toNat X)) = D3) := hD3
  generalize dA (d.setM (.slice a1 n1 c1) a 4) = D2 at *
  have HT : Hid (∀ W : World, Calls Tryd.prog 75 #[.agg D2, .int .i64 rd, .int .u32 X] W fun e w' => e = .returned (.agg D3) ∧ Gr W w') := T2
  have H2 : Hid (D2.size = 41 ∧ D2.all (·.oneCell') = true) := s2
  have H3 : Hid (D3.size = 41 ∧ D3.all (·.oneCell') = true) := s3
  have HB3 : Hid (Bl w3 w.heap.size D0 #[.int .i64 op, .int .i64 rd, .int .i64 r1, .int .i64 r2, .int .i32 im] Z) := hb3
  have HB4 : Hid (Bl (w3.setRow w.heap.size D2) w.heap.size D2 #[.int .i64 op, .int .i64 rd, .int .i64 r1, .int .i64 r2, .int .i32 im] Z) := hb3.row D2
  have c1' : (w3.setRow w.heap.size D2).cell? ⟨w.heap.size + 1, 1, none⟩ = some (.int .i64 rd) := HB4.out.cellI 1
  have HG4 : Hid (Gr w (w3.setRow w.heap.size D2)) := gr_setRow HG3.out (Nat.le_refl _) _
  have HM4 : Hid (Mem (w3.setRow w.heap.size D2) a1 n1 K) := HM3.out.apart fun ad q => setRow_other _ _ _ _ (by have := HF3.out ad q; omega)
  clear M3 G3 F3 hb3 s2 s3 T2 hD3 S T SM SF HBl HGW HM3 HG3
  go_wp2_with (first
    | (refine wpList_store_row rfl 105 _ _ rfl w.heap.size D2 rfl rfl 105 D0 ?hb5 (by rw [H2.out.1]; exact iD) (by rw [H2.out.1]; exact HS1.out) H2.out.2 ?_; (case hb5 => exact HB3.out.d))
    | (refine wpList_load_row rfl 105 _ rfl w.heap.size rfl 105 D2 (0, 0) _ ?hb6 Tryd.underlying105 rfl (by rw [H2.out.1]; exact iD) ?_; (case hb6 => exact HB4.out.d)))
  refine (HT.out _).mono ?_
  rintro e w5 ⟨rfl, G5⟩
  have HR5 : Hid (w5.heap[w.heap.size + 1 + 1]? = some (.cells Z 105 (0, 0))) := (HB4.out.of G5).z
  have HM5 : Hid (Mem w5 a1 n1 K) := HM4.out.of G5
  have HG5 : Hid (Gr w w5) := HG4.out.trans G5
  clear G5 HT HB3 HB4 HM4 HG4 c1'
  go_wp2_with (refine wpList_store_row rfl 105 _ _ rfl (w.heap.size + 1 + 1) D3 rfl rfl 105 Z ?hb7 (by rw [H3.out.1]; exact iD) (by rw [H3.out.1, hz]) H3.out.2 ?_; (case hb7 => exact HR5.out))
  refine bodyPost_ret (v := .tuple #[.agg D3, .bool true]) (results_cell_tmp' Tryd.results78 _ _ _ _ _ (0, 0) _ _ rfl rfl (setRow_heap _ _ _ _ _ (0, 0) HR5.out) Tryd.underlying105 rfl (by rw [H3.out.1]; exact iD)) rfl ⟨a1, n1, c1, by rw [HD3.out], ?_, ?_, fun ad q => by have := HF3.out ad q; omega⟩
  · exact HM5.out.apart fun ad q => setRow_other _ _ _ _ (by have := HF3.out ad q; omega)
  · exact gr_setRow HG5.out (by omega) _

end Go.Proofs.YtbihifipemldhabDoor.Hr
/-
  The frame of ferrybridgeref4.Step: what it answers, as data ('Dd', 'RStep'); the blocks that it makes ('Bs'); the two traps ahead of the instruction.
-/
namespace Go.Proofs.YtbihifipemldhabDoor.Hr
open Go.ChangeShapes Go.WideShapes Go.ChangeAt Go.RowKit Mm Hh

/-- What came out, as a slice. -/
def OutV (w : World) (v : Value) (os : List Int) : Prop := (v = .slice none 0 0 ∧ os = []) ∨ ∃ k x, v = .slice (some ⟨k, 0, none⟩) 1 1 ∧ os = [x] ∧ w.heap[k]? = some (.cells #[.int .u32 x] 38 (0, 0))
/-- Where was stored. -/
def StoV (d : Dv) (ss : List (Int × Int)) : Prop := (ss = [] ∧ d.fro = 0 ∧ d.many = 0) ∨ ss = [(d.fro, d.many)]
/-- In world w, d is the step S; its memory is v0, or lies in a block from b0 on. -/
structure Dd (w : World) (v0 : Value) (b0 : Nat) (d : Dv) (S : Sv) : Prop where
  ok : d.Ok
  h : d.h = S.h
  m : ∃ ao n cap, d.m = .slice ao n cap ∧ Mem w ao n S.m ∧ (d.m = v0 ∨ ∀ ad, ao = some ad → b0 ≤ ad.block)
  out : OutV w d.out S.out
  sto : StoV d S.sto
def RStep (h : Hv) (ao : Option Addr) (n cap : Nat) (w : World) (S : Sv) : Prop :=
  Calls Tryd.prog 41 #[.agg (hA h), .slice ao n cap] w fun e w' => ∃ d, e = .returned (.agg (dA d)) ∧ Dd w' (.slice ao n cap) w.heap.size d S ∧ Gr w w'
/-- The blocks of a call: the hart, room for the result, what was done, the instruction. -/
structure Bt (w : World) (B : Nat) (H Z D : Array Value) : Prop where
  h : w.heap[B]? = some (.cells H 48 (0, 0))
  z : w.heap[B + 1]? = some (.cells Z 105 (0, 0))
  d : w.heap[B + 1 + 1]? = some (.cells D 105 (0, 0))
structure Bs (w : World) (B J : Nat) (H Z D I : Array Value) : Prop where
  t : Bt w B H Z D
  i : w.heap[J]? = some (.cells I 63 (0, 0))
theorem Bt.of {w w' : World} {B : Nat} {H Z D : Array Value} (h : Bt w B H Z D) (g : Gr w w') : Bt w' B H Z D := ⟨heap_of_gr g h.h, heap_of_gr g h.z, heap_of_gr g h.d⟩
theorem Bs.of {w w' : World} {B J : Nat} {H Z D I : Array Value} (h : Bs w B J H Z D I) (g : Gr w w') : Bs w' B J H Z D I := ⟨h.t.of g, heap_of_gr g h.i⟩
theorem Bt.row {w : World} {B : Nat} {H Z D : Array Value} (h : Bt w B H Z D) (E : Array Value) : Bt (w.setRow (B + 1 + 1) E) B H Z E :=
  ⟨by rw [setRow_other _ _ _ _ (by omega)]; exact h.h, by rw [setRow_other _ _ _ _ (by omega)]; exact h.z, setRow_heap _ _ _ _ _ (0, 0) h.d⟩
theorem Bt.lt {w : World} {B : Nat} {H Z D : Array Value} (h : Bt w B H Z D) : B + 1 + 1 < w.heap.size := (Array.getElem?_eq_some_iff.1 h.d).1
theorem Bs.ne {w : World} {B J : Nat} {H Z D I : Array Value} (h : Bs w B J H Z D I) : J ≠ B + 1 + 1 := Hc.ne_of_types h.i h.t.d (by decide)
theorem Bs.row {w : World} {B J : Nat} {H Z D I : Array Value} (h : Bs w B J H Z D I) (E : Array Value) : Bs (w.setRow (B + 1 + 1) E) B J H Z E I :=
  ⟨h.t.row E, by rw [setRow_other _ _ _ _ h.ne]; exact h.i⟩
theorem Bt.set {w : World} {B : Nat} {H Z D : Array Value} (h : Bt w B H Z D) (j : Nat) (v : Value) : Bt (w.setCell ⟨B + 1 + 1, j, none⟩ v) B H Z (D.setIfInBounds j v) :=
  ⟨by rw [heap_setCell_other _ _ _ _ (by simp; omega)]; exact h.h, by rw [heap_setCell_other _ _ _ _ (by simp)]; exact h.z, heap_setCell_same _ _ _ _ _ _ h.d⟩
theorem Bt.cellH {w : World} {B : Nat} {H Z D : Array Value} (h : Bt w B H Z D) (j : Nat) : w.cell? ⟨B, j, none⟩ = H[j]? := cell_of_row _ _ _ _ _ _ h.h
theorem Bt.cellD {w : World} {B : Nat} {H Z D : Array Value} (h : Bt w B H Z D) (j : Nat) : w.cell? ⟨B + 1 + 1, j, none⟩ = D[j]? := cell_of_row _ _ _ _ _ _ h.d
theorem Bt.fz {w : World} {B : Nat} {H Z D : Array Value} (h : Bt w B H Z D) (j : Nat) : w.frozen? ⟨B + 1 + 1, j, none⟩ = false := frozen_of_row _ _ j _ _ h.d
theorem Bs.cellI {w : World} {B J : Nat} {H Z D I : Array Value} (h : Bs w B J H Z D I) (j : Nat) : w.cell? ⟨J, j, none⟩ = I[j]? := cell_of_row _ _ _ _ _ _ h.i
/-- Three blocks, the third one stored in. -/
theorem three_of {w w' : World} {H Z Y D : Array Value} (g : Gr ((((w.alloc (.cells H 48)).alloc (.cells Z 105)).alloc (.cells Y 105)).setRow (w.heap.size + 1 + 1) D) w') : Bt w' w.heap.size H Z D := by
  have b := three_blocks (Gr.refl (((w.alloc (.cells H 48)).alloc (.cells Z 105)).alloc (.cells Y 105)))
  refine Bt.of ⟨?_, ?_, ?_⟩ g
  · rw [setRow_other _ _ _ _ (by omega)]; exact b.1
  · rw [setRow_other _ _ _ _ (by omega)]; exact b.2.1
  · exact setRow_heap _ _ _ _ _ (0, 0) b.2.2
theorem third_of (w : World) (H Z Y : Array Value) : (((w.alloc (.cells H 48)).alloc (.cells Z 105)).alloc (.cells Y 105)).heap[w.heap.size + 1 + 1]? = some (.cells Y 105 (0, 0)) := (three_blocks (Gr.refl _)).2.2
theorem gr_three (w : World) (H Z Y D : Array Value) : Gr w ((((w.alloc (.cells H 48)).alloc (.cells Z 105)).alloc (.cells Y 105)).setRow (w.heap.size + 1 + 1) D) := gr_setRow ((((Gr.refl _).alloc _).alloc _).alloc _) (by omega) _
def dv0 (h : Hv) (v : Value) : Dv := ⟨h, v, Hc.nilS, 0, 0⟩
theorem dv0_ok {h : Hv} (o : h.Ok) (ao : Option Addr) (n cap : Nat) : (dv0 h (.slice ao n cap)).Ok := ⟨o, rfl, rfl⟩
theorem pc_e {d : Dv} (o : d.h.Ok) (x : Int) : (dA d).setIfInBounds 32 (.int .u32 x) = dA (d.setH (d.h.go x)) := dA_set o (by omega) (set_pc o x)
/-- The instruction's premises. -/
structure Pr (h : Hv) (ao : Option Addr) (n cap : Nat) (l : List UInt8) (w : World) (x op rd : Int) (r1 r2 : Nat) (im : Int) : Prop where
  o : h.Ok
  M : Mem w ao n l
  hn : n ≤ 140737488351232
  ok : ldOk l 13 h.pc = true
  ex : x = ldV l 13 h.pc
  D : ∀ W : World, Calls Tryd.prog 30 #[.int .u32 x] W fun e w' => e = .returned (.tuple #[.agg #[.int .i64 op, .int .i64 rd, .int .i64 r1, .int .i64 r2, .int .i32 im], .bool true]) ∧ Gr W w'
  d0 : 0 ≤ rd
  d1 : rd < 32
  s1 : r1 < 32
  t1 : r2 < 32
  i0 : -2147483648 ≤ im
  i1 : im < 2147483648
theorem rs_fetch {h : Hv} {ao : Option Addr} {n cap : Nat} {l : List UInt8} {w : World} (o : h.Ok) (M : Mem w ao n l) (hn : n ≤ 140737488351232) (ok : ldOk l 13 h.pc = false) : RStep h ao n cap w ⟨h.trap 1, l, [], []⟩ := by
  unfold RStep
  have L : Hid (∀ W : World, Gr w W → Calls Tryd.prog 29 #[.slice ao n cap, .int .i64 13, .int .u32 h.pc] W fun e w' => e = .returned (.tuple #[.int .u32 (ldV l 13 h.pc), .bool false]) ∧ Gr W w') := fun W G => by
    have := Mr.Load_any cap 13 h.pc (M.of G) hn o.pc0 o.pc1
    rw [ok] at this
    exact this.mono fun e w' h => ⟨h.1, by rw [h.2]; exact Gr.refl _⟩
  have HBu : Hid (Tryd.prog.built 105 [(0, .agg (hA h)), (1, .slice ao n cap)] = some (dA (dv0 h (.slice ao n cap)))) := Hc.built_did o _ rfl
  have HS : Hid ((hA h).size = 37) := hA_size o
  have HS0 : Hid ((dA (dv0 h (.slice ao n cap))).size = 41) := dA_size (d := dv0 _ _) o
  have HO0 : Hid ((dA (dv0 h (.slice ao n cap))).all (·.oneCell') = true) := one_dA (dv0_ok o _ _ _)
  have gpc : (hA h)[32]? = some (.int .u32 h.pc) := by simp only [hA, List.getElem?_toArray]; exact hL_fld o 0
  have Tr : Hid (∀ W : World, Calls Tryd.prog 73 #[.agg (dA (dv0 h (.slice ao n cap))), .int .i64 1] W fun e w' => e = .returned (.agg (dA ((dv0 h (.slice ao n cap)).setH ((dv0 h (.slice ao n cap)).h.trap 1)))) ∧ Gr W w') := fun W => trap_any (dv0_ok o ao n cap) 1 W
  have HSt : Hid ((dA ((dv0 h (.slice ao n cap)).setH ((dv0 h (.slice ao n cap)).h.trap 1))).size = 41) := dA_size (d := (dv0 h (.slice ao n cap)).setH _) ((dv0_ok o ao n cap).h.trap 1)
  have HOt : Hid ((dA ((dv0 h (.slice ao n cap)).setH ((dv0 h (.slice ao n cap)).h.trap 1))).all (·.oneCell') = true) := one_dA ((dv0_ok o ao n cap).setH ((dv0_ok o ao n cap).h.trap 1))
  have Okt : Hid (((dv0 h (.slice ao n cap)).setH ((dv0 h (.slice ao n cap)).h.trap 1)).Ok) := (dv0_ok o ao n cap).setH ((dv0_ok o ao n cap).h.trap 1)
  generalize hDt : dA ((dv0 h (.slice ao n cap)).setH ((dv0 h (.slice ao n cap)).h.trap 1)) = Dt at *
  have HDt : Hid (dA ((dv0 h (.slice ao n cap)).setH ((dv0 h (.slice ao n cap)).h.trap 1)) = Dt) := hDt
  clear hDt
  have HM : Hid (Mem w ao n l) := M
  generalize dA (dv0 h (.slice ao n cap)) = D0 at *
  generalize hA h = H at *
  generalize ldV l 13 h.pc = x at *
  generalize h.pc = pc at *
  clear M ok o
  have kpc : ∀ Z Y : Array Value, ((((w.alloc (.cells H 48)).alloc (.cells Z 105)).alloc (.cells Y 105)).setRow (w.heap.size + 1 + 1) D0).cell? ⟨w.heap.size, 32, none⟩ = some (.int .u32 pc) := fun Z Y => ((three_of (Gr.refl _)).cellH 32).trans gpc
  go_enter Tryd.func41, Tryd.ntmps41
  go_wp2_with (first
    | (refine wpList_load_row rfl 48 _ rfl w.heap.size rfl 48 H (0, 0) _ ?ha1 Tryd.underlying48 rfl (by rw [HS.out]; exact iH) ?_; (case ha1 => exact heap_alloc2_old w _ _))
    | (refine wpList_buildTo rfl 105 _ rfl _ rfl D0 (by have := HBu.out; simp [Act.eval, Act.put]; exact this) ?_)
    | (refine wpList_store_row rfl 105 _ _ rfl (w.heap.size + 1 + 1) D0 rfl rfl 105 _ (third_of w _ _ _) (by rw [HS0.out]; exact iD) (by rw [HS0.out]; rfl) HO0.out ?_))
  refine (L.out _ (gr_three w _ _ _ _)).mono ?_
  rintro e w1 ⟨rfl, G1⟩
  have HZ : Hid (∃ Z : Array Value, Z.size = 41 ∧ Bt w1 w.heap.size H Z D0) := ⟨_, rfl, three_of G1⟩
  obtain ⟨Z, hz, hb⟩ := HZ.out
  have HG1 : Hid (Gr w w1) := (gr_three w _ _ _ _).trans G1
  have HB1 : Hid (Bt w1 w.heap.size H Z D0) := hb
  clear G1 L hb HZ HBu kpc
  go_wp2_with (refine wpList_load_row rfl 105 _ rfl (w.heap.size + 1 + 1) rfl 105 D0 (0, 0) _ ?hd1 Tryd.underlying105 rfl (by rw [HS0.out]; exact iD) ?_; (case hd1 => exact HB1.out.d))
  refine (Tr.out _).mono ?_
  rintro e wt ⟨rfl, Gt⟩
  have HRt : Hid (wt.heap[w.heap.size + 1]? = some (.cells Z 105 (0, 0))) := (HB1.out.of Gt).z
  have HGt : Hid (Gr w wt) := HG1.out.trans Gt
  clear Gt Tr
  go_wp2_with (refine wpList_store_row rfl 105 _ _ rfl (w.heap.size + 1) Dt rfl rfl 105 Z ?hd2 (by rw [HSt.out]; exact iD) (by rw [HSt.out, hz]) HOt.out ?_; (case hd2 => exact HRt.out))
  refine bodyPost_ret (v := .agg Dt) (results_cell_row rfl _ _ _ _ _ (0, 0) _ rfl (setRow_heap _ _ _ _ _ (0, 0) HRt.out) Tryd.underlying105 rfl (by rw [HSt.out]; exact iD)) rfl ⟨(dv0 h (.slice ao n cap)).setH ((dv0 h (.slice ao n cap)).h.trap 1), by rw [HDt.out], ⟨Okt.out, rfl, ⟨ao, n, cap, rfl, HM.out.of (gr_setRow HGt.out (by omega) _), .inl rfl⟩, .inl ⟨rfl, rfl⟩, .inl ⟨rfl, rfl, rfl⟩⟩, ?_⟩
  exact gr_setRow HGt.out (by omega) _

theorem rs_word {h : Hv} {ao : Option Addr} {n cap : Nat} {l : List UInt8} {w : World} (o : h.Ok) (M : Mem w ao n l) (hn : n ≤ 140737488351232) (ok : ldOk l 13 h.pc = true) (D : ∀ W : World, Calls Tryd.prog 30 #[.int .u32 (ldV l 13 h.pc)] W fun e w' => e = .returned (.tuple #[.agg #[.int .i64 0, .int .i64 0, .int .i64 0, .int .i64 0, .int .i32 0], .bool false]) ∧ Gr W w') : RStep h ao n cap w ⟨h.trap 2, l, [], []⟩ := by
  unfold RStep
  have L : Hid (∀ W : World, Gr w W → Calls Tryd.prog 29 #[.slice ao n cap, .int .i64 13, .int .u32 h.pc] W fun e w' => e = .returned (.tuple #[.int .u32 (ldV l 13 h.pc), .bool true]) ∧ Gr W w') := fun W G => by
    have := Mr.Load_any cap 13 h.pc (M.of G) hn o.pc0 o.pc1
    rw [ok] at this
    exact this.mono fun e w' h => ⟨h.1, by rw [h.2]; exact Gr.refl _⟩
  have HBu : Hid (Tryd.prog.built 105 [(0, .agg (hA h)), (1, .slice ao n cap)] = some (dA (dv0 h (.slice ao n cap)))) := Hc.built_did o _ rfl
  have HS : Hid ((hA h).size = 37) := hA_size o
  have HS0 : Hid ((dA (dv0 h (.slice ao n cap))).size = 41) := dA_size (d := dv0 _ _) o
  have HO0 : Hid ((dA (dv0 h (.slice ao n cap))).all (·.oneCell') = true) := one_dA (dv0_ok o _ _ _)
  have gpc : (hA h)[32]? = some (.int .u32 h.pc) := by simp only [hA, List.getElem?_toArray]; exact hL_fld o 0
  have Tr : Hid (∀ W : World, Calls Tryd.prog 73 #[.agg (dA (dv0 h (.slice ao n cap))), .int .i64 2] W fun e w' => e = .returned (.agg (dA ((dv0 h (.slice ao n cap)).setH ((dv0 h (.slice ao n cap)).h.trap 2)))) ∧ Gr W w') := fun W => trap_any (dv0_ok o ao n cap) 2 W
  have HSt : Hid ((dA ((dv0 h (.slice ao n cap)).setH ((dv0 h (.slice ao n cap)).h.trap 2))).size = 41) := dA_size (d := (dv0 h (.slice ao n cap)).setH _) ((dv0_ok o ao n cap).h.trap 2)
  have HOt : Hid ((dA ((dv0 h (.slice ao n cap)).setH ((dv0 h (.slice ao n cap)).h.trap 2))).all (·.oneCell') = true) := one_dA ((dv0_ok o ao n cap).setH ((dv0_ok o ao n cap).h.trap 2))
  have Okt : Hid (((dv0 h (.slice ao n cap)).setH ((dv0 h (.slice ao n cap)).h.trap 2)).Ok) := (dv0_ok o ao n cap).setH ((dv0_ok o ao n cap).h.trap 2)
  generalize hDt : dA ((dv0 h (.slice ao n cap)).setH ((dv0 h (.slice ao n cap)).h.trap 2)) = Dt at *
  have HDt : Hid (dA ((dv0 h (.slice ao n cap)).setH ((dv0 h (.slice ao n cap)).h.trap 2)) = Dt) := hDt
  clear hDt
  have HM : Hid (Mem w ao n l) := M
  have HD : Hid (∀ W : World, Calls Tryd.prog 30 #[.int .u32 (ldV l 13 h.pc)] W fun e w' => e = .returned (.tuple #[.agg #[.int .i64 0, .int .i64 0, .int .i64 0, .int .i64 0, .int .i32 0], .bool false]) ∧ Gr W w') := D
  generalize dA (dv0 h (.slice ao n cap)) = D0 at *
  generalize hA h = H at *
  generalize ldV l 13 h.pc = x at *
  generalize h.pc = pc at *
  clear M ok o D
  have kpc : ∀ Z Y : Array Value, ((((w.alloc (.cells H 48)).alloc (.cells Z 105)).alloc (.cells Y 105)).setRow (w.heap.size + 1 + 1) D0).cell? ⟨w.heap.size, 32, none⟩ = some (.int .u32 pc) := fun Z Y => ((three_of (Gr.refl _)).cellH 32).trans gpc
  go_enter Tryd.func41, Tryd.ntmps41
  go_wp2_with (first
    | (refine wpList_load_row rfl 48 _ rfl w.heap.size rfl 48 H (0, 0) _ ?ha1 Tryd.underlying48 rfl (by rw [HS.out]; exact iH) ?_; (case ha1 => exact heap_alloc2_old w _ _))
    | (refine wpList_buildTo rfl 105 _ rfl _ rfl D0 (by have := HBu.out; simp [Act.eval, Act.put]; exact this) ?_)
    | (refine wpList_store_row rfl 105 _ _ rfl (w.heap.size + 1 + 1) D0 rfl rfl 105 _ (third_of w _ _ _) (by rw [HS0.out]; exact iD) (by rw [HS0.out]; rfl) HO0.out ?_))
  refine (L.out _ (gr_three w _ _ _ _)).mono ?_
  rintro e w1 ⟨rfl, G1⟩
  have HZ : Hid (∃ Z : Array Value, Z.size = 41 ∧ Bt w1 w.heap.size H Z D0) := ⟨_, rfl, three_of G1⟩
  obtain ⟨Z, hz, hb⟩ := HZ.out
  have HG1 : Hid (Gr w w1) := (gr_three w _ _ _ _).trans G1
  have HB1 : Hid (Bt w1 w.heap.size H Z D0) := hb
  clear G1 L hb HZ HBu kpc
  go_wp2_with fail
  refine (HD.out _).mono ?_
  rintro e w2 ⟨rfl, G2⟩
  have HB2 : Hid (∀ ob, Bt (w2.alloc ob) w.heap.size H Z D0) := fun ob => (HB1.out.of G2).of ((Gr.refl _).alloc _)
  have HG2 : Hid (∀ ob, Gr w (w2.alloc ob)) := fun ob => (HG1.out.trans G2).alloc _
  clear G2 HD HB1 HG1
  go_wp2_with (refine wpList_load_row rfl 105 _ rfl (w.heap.size + 1 + 1) rfl 105 D0 (0, 0) _ ?hd1 Tryd.underlying105 rfl (by rw [HS0.out]; exact iD) ?_; (case hd1 => exact (HB2.out _).d))
  refine (Tr.out _).mono ?_
  rintro e wt ⟨rfl, Gt⟩
  have HRt : Hid (wt.heap[w.heap.size + 1]? = some (.cells Z 105 (0, 0))) := ((HB2.out _).of Gt).z
  have HGt : Hid (Gr w wt) := (HG2.out _).trans Gt
  clear Gt Tr
  go_wp2_with (refine wpList_store_row rfl 105 _ _ rfl (w.heap.size + 1) Dt rfl rfl 105 Z ?hd2 (by rw [HSt.out]; exact iD) (by rw [HSt.out, hz]) HOt.out ?_; (case hd2 => exact HRt.out))
  refine bodyPost_ret (v := .agg Dt) (results_cell_row rfl _ _ _ _ _ (0, 0) _ rfl (setRow_heap _ _ _ _ _ (0, 0) HRt.out) Tryd.underlying105 rfl (by rw [HSt.out]; exact iD)) rfl ⟨(dv0 h (.slice ao n cap)).setH ((dv0 h (.slice ao n cap)).h.trap 2), by rw [HDt.out], ⟨Okt.out, rfl, ⟨ao, n, cap, rfl, HM.out.of (gr_setRow HGt.out (by omega) _), .inl rfl⟩, .inl ⟨rfl, rfl⟩, .inl ⟨rfl, rfl, rfl⟩⟩, ?_⟩
  exact gr_setRow HGt.out (by omega) _
end Go.Proofs.YtbihifipemldhabDoor.Hr
