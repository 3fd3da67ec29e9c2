/-
  Walks3, Walks4, Hm5, Hm6, MemArgs, Ha: texts of ours that lie in one file.
-/
import Derived.Test.YtjooaobmbndkfaaDoorK12
import Derived.Test.YtjooaobmbndkfaaDoorK10
import Derived.Test.YtjooaobmbndkfaaDoorK01
import Derived.ProofKit
import Derived.SizedLaws
import Derived.Test.YtjooaobmbndkfaaDoorK11
/-
  What read and Decode return. Conditions: the tables hold what their initialisers lay ('Tab'); words are from 0 to 2^32 - 1.
-/
namespace Go.Proofs.YtjooaobmbndkfaaDoor.Dw
open Go.ChangeShapes Go.WideShapes Go.ChangeAt Go.RowKit
set_option linter.unusedVariables false
set_option linter.unusedSimpArgs false

/-- An instruction, as its five fields. -/
def insV (op rd rs1 rs2 imm : Int) : Value := .agg #[.int .i64 op, .int .i64 rd, .int .i64 rs1, .int .i64 rs2, .int .i32 imm]
/-- A block that was made just ahead stands, and is not marked. -/
theorem fresh_of {w w1 : World} {c : Array Value} {t : TypeId} (g : Gr (w.alloc (.cells c t)) w1) :
    (∀ i v, c[i]? = some v → w1.cell? ⟨w.heap.size, i, none⟩ = some v) ∧ (∀ i, w1.frozen? ⟨w.heap.size, i, none⟩ = false) ∧ w.heap.size < w1.heap.size := by
  have hs : (w.alloc (.cells c t)).heap.size = w.heap.size + 1 := by simp
  refine ⟨fun i v h => ?_, fun i => ?_, by have := g.size; omega⟩
  · rw [g.cell _ _ (by omega), World.cell?_alloc_new, h]
  · rw [g.2, frozen?_alloc_cells]
    simp [World.frozen?]
theorem taken_rd (a : Int) (w : World) (h0 : 0 ≤ a) (h1 : a < 4294967296) : Calls Tryd.prog 54 #[.int .u32 a, .int .i64 7, .int .i64 5] w fun e w' => e = .returned (.int .u32 (a / 128 % 32)) ∧ ∃ m, w' = w.drewN m := taken_as a 7 5 _ w h0 h1 (by omega) (by omega) (by omega) (by omega) rfl
theorem taken_rs1 (a : Int) (w : World) (h0 : 0 ≤ a) (h1 : a < 4294967296) : Calls Tryd.prog 54 #[.int .u32 a, .int .i64 15, .int .i64 5] w fun e w' => e = .returned (.int .u32 (a / 32768 % 32)) ∧ ∃ m, w' = w.drewN m := taken_as a 15 5 _ w h0 h1 (by omega) (by omega) (by omega) (by omega) rfl
theorem taken_rs2 (a : Int) (w : World) (h0 : 0 ≤ a) (h1 : a < 4294967296) : Calls Tryd.prog 54 #[.int .u32 a, .int .i64 20, .int .i64 5] w fun e w' => e = .returned (.int .u32 (a / 1048576 % 32)) ∧ ∃ m, w' = w.drewN m := taken_as a 20 5 _ w h0 h1 (by omega) (by omega) (by omega) (by omega) rfl
/-- What read answers of a form. -/
def Read (f : Int) : Prop := ∀ (k a : Int) (w : World), Tab w → 0 ≤ a → a < 4294967296 → Calls Tryd.prog 27 #[.int .i64 k, .int .i64 f, .int .u32 a] w fun e w' => e = .returned (insV k (Dc.rdF f a) (Dc.rs1F f a) (Dc.rs2F f a) (Dc.immF f a)) ∧ Gr w w'

set_option maxHeartbeats 1000000 in
theorem read_0 : Read 0 := by
  intro k a w T h0 h1
  go_enter Tryd.func27, Tryd.ntmps27
  go_wp2_with fail
  refine (readImm_0 a _ (T.of ((Gr.refl _).alloc _ _)) h0 h1).mono ?_
  rintro e w1 ⟨rfl, g⟩
  have T1 := (T.of ((Gr.refl _).alloc _ _)).of g
  have b0 : 0 < w1.heap.size := lt_of_cell (T1.shapes 0 _ rfl)
  have c1 : w1.cell? ⟨0, 1, none⟩ = some (.bool false) := T1.shapes 1 _ rfl
  have c2 : w1.cell? ⟨0, 2, none⟩ = some (.bool false) := T1.shapes 2 _ rfl
  have c3 : w1.cell? ⟨0, 3, none⟩ = some (.bool false) := T1.shapes 3 _ rfl
  obtain ⟨f1, f2, f3⟩ := fresh_of g
  have r0 := f1 0 _ rfl
  have r1 := f1 1 _ rfl
  have r2 := f1 2 _ rfl
  have r3 := f1 3 _ rfl
  have r4 := f1 4 _ rfl
  have G : Hid (Gr w w1) := ((Gr.refl _).alloc _ _).trans g
  clear f1 T1 g T
  go_wp2_with fail
  refine bodyPost_ret (v := insV k (Dc.rdF 0 a) (Dc.rs1F 0 a) (Dc.rs2F 0 a) (Dc.immF 0 a)) (by simp [results, Tryd.results27, go_sem, r0, r1, r2, r3, r4, f3, insV, Dc.rdF, Dc.rs1F, Dc.rs2F, Dc.hasRd, Dc.hasRs1, Dc.hasRs2]) rfl ⟨rfl, ?_⟩
  have Z := G.out
  exact (((((Z.setCell (by simp) _).setCell (by simp) _).setCell (by simp) _).setCell (by simp) _).setCell (by simp) _).alloc _ _
set_option maxHeartbeats 1000000 in
theorem read_1 : Read 1 := by
  intro k a w T h0 h1
  go_enter Tryd.func27, Tryd.ntmps27
  go_wp2_with fail
  refine (readImm_1 a _ (T.of ((Gr.refl _).alloc _ _)) h0 h1).mono ?_
  rintro e w1 ⟨rfl, g⟩
  have T1 := (T.of ((Gr.refl _).alloc _ _)).of g
  have b0 : 0 < w1.heap.size := lt_of_cell (T1.shapes 0 _ rfl)
  have c1 : w1.cell? ⟨0, 18, none⟩ = some (.bool true) := T1.shapes 18 _ rfl
  have c2 : w1.cell? ⟨0, 19, none⟩ = some (.bool false) := T1.shapes 19 _ rfl
  have c3 : w1.cell? ⟨0, 20, none⟩ = some (.bool false) := T1.shapes 20 _ rfl
  obtain ⟨f1, f2, f3⟩ := fresh_of g
  have r0 := f1 0 _ rfl
  have r1 := f1 1 _ rfl
  have r2 := f1 2 _ rfl
  have r3 := f1 3 _ rfl
  have r4 := f1 4 _ rfl
  have G : Hid (Gr w w1) := ((Gr.refl _).alloc _ _).trans g
  clear f1 T1 g T
  go_wp2_with fail
  refine (taken_rd a _ h0 h1).mono ?_
  rintro e w' ⟨rfl, m_rd, rfl⟩
  go_wp2_with fail
  refine bodyPost_ret (v := insV k (Dc.rdF 1 a) (Dc.rs1F 1 a) (Dc.rs2F 1 a) (Dc.immF 1 a)) (by simp [results, Tryd.results27, go_sem, r0, r1, r2, r3, r4, f3, insV, Dc.rdF, Dc.rs1F, Dc.rs2F, Dc.hasRd, Dc.hasRs1, Dc.hasRs2]) rfl ⟨rfl, ?_⟩
  have Z := G.out
  exact ((((((((Z.alloc _ _).drewN _).setCell (by simp; omega) _).setCell (by simp) _).setCell (by simp) _).setCell (by simp) _).setCell (by simp) _).setCell (by simp) _)
set_option maxHeartbeats 1000000 in
theorem read_2 : Read 2 := by
  intro k a w T h0 h1
  go_enter Tryd.func27, Tryd.ntmps27
  go_wp2_with fail
  refine (readImm_2 a _ (T.of ((Gr.refl _).alloc _ _)) h0 h1).mono ?_
  rintro e w1 ⟨rfl, g⟩
  have T1 := (T.of ((Gr.refl _).alloc _ _)).of g
  have b0 : 0 < w1.heap.size := lt_of_cell (T1.shapes 0 _ rfl)
  have c1 : w1.cell? ⟨0, 35, none⟩ = some (.bool true) := T1.shapes 35 _ rfl
  have c2 : w1.cell? ⟨0, 36, none⟩ = some (.bool false) := T1.shapes 36 _ rfl
  have c3 : w1.cell? ⟨0, 37, none⟩ = some (.bool false) := T1.shapes 37 _ rfl
  obtain ⟨f1, f2, f3⟩ := fresh_of g
  have r0 := f1 0 _ rfl
  have r1 := f1 1 _ rfl
  have r2 := f1 2 _ rfl
  have r3 := f1 3 _ rfl
  have r4 := f1 4 _ rfl
  have G : Hid (Gr w w1) := ((Gr.refl _).alloc _ _).trans g
  clear f1 T1 g T
  go_wp2_with fail
  refine (taken_rd a _ h0 h1).mono ?_
  rintro e w' ⟨rfl, m_rd, rfl⟩
  go_wp2_with fail
  refine bodyPost_ret (v := insV k (Dc.rdF 2 a) (Dc.rs1F 2 a) (Dc.rs2F 2 a) (Dc.immF 2 a)) (by simp [results, Tryd.results27, go_sem, r0, r1, r2, r3, r4, f3, insV, Dc.rdF, Dc.rs1F, Dc.rs2F, Dc.hasRd, Dc.hasRs1, Dc.hasRs2]) rfl ⟨rfl, ?_⟩
  have Z := G.out
  exact ((((((((Z.alloc _ _).drewN _).setCell (by simp; omega) _).setCell (by simp) _).setCell (by simp) _).setCell (by simp) _).setCell (by simp) _).setCell (by simp) _)
set_option maxHeartbeats 1000000 in
theorem read_3 : Read 3 := by
  intro k a w T h0 h1
  go_enter Tryd.func27, Tryd.ntmps27
  go_wp2_with fail
  refine (readImm_3 a _ (T.of ((Gr.refl _).alloc _ _)) h0 h1).mono ?_
  rintro e w1 ⟨rfl, g⟩
  have T1 := (T.of ((Gr.refl _).alloc _ _)).of g
  have b0 : 0 < w1.heap.size := lt_of_cell (T1.shapes 0 _ rfl)
  have c1 : w1.cell? ⟨0, 52, none⟩ = some (.bool true) := T1.shapes 52 _ rfl
  have c2 : w1.cell? ⟨0, 53, none⟩ = some (.bool true) := T1.shapes 53 _ rfl
  have c3 : w1.cell? ⟨0, 54, none⟩ = some (.bool false) := T1.shapes 54 _ rfl
  obtain ⟨f1, f2, f3⟩ := fresh_of g
  have r0 := f1 0 _ rfl
  have r1 := f1 1 _ rfl
  have r2 := f1 2 _ rfl
  have r3 := f1 3 _ rfl
  have r4 := f1 4 _ rfl
  have G : Hid (Gr w w1) := ((Gr.refl _).alloc _ _).trans g
  clear f1 T1 g T
  go_wp2_with fail
  refine (taken_rd a _ h0 h1).mono ?_
  rintro e w' ⟨rfl, m_rd, rfl⟩
  go_wp2_with fail
  refine (taken_rs1 a _ h0 h1).mono ?_
  rintro e w' ⟨rfl, m_rs1, rfl⟩
  go_wp2_with fail
  refine bodyPost_ret (v := insV k (Dc.rdF 3 a) (Dc.rs1F 3 a) (Dc.rs2F 3 a) (Dc.immF 3 a)) (by simp [results, Tryd.results27, go_sem, r0, r1, r2, r3, r4, f3, insV, Dc.rdF, Dc.rs1F, Dc.rs2F, Dc.hasRd, Dc.hasRs1, Dc.hasRs2]) rfl ⟨rfl, ?_⟩
  have Z := G.out
  exact ((((((((((Z.alloc _ _).drewN _).setCell (by simp; omega) _).drewN _).setCell (by simp; omega) _).setCell (by simp) _).setCell (by simp) _).setCell (by simp) _).setCell (by simp) _).setCell (by simp) _)
set_option maxHeartbeats 1000000 in
theorem read_4 : Read 4 := by
  intro k a w T h0 h1
  go_enter Tryd.func27, Tryd.ntmps27
  go_wp2_with fail
  refine (readImm_4 a _ (T.of ((Gr.refl _).alloc _ _)) h0 h1).mono ?_
  rintro e w1 ⟨rfl, g⟩
  have T1 := (T.of ((Gr.refl _).alloc _ _)).of g
  have b0 : 0 < w1.heap.size := lt_of_cell (T1.shapes 0 _ rfl)
  have c1 : w1.cell? ⟨0, 69, none⟩ = some (.bool true) := T1.shapes 69 _ rfl
  have c2 : w1.cell? ⟨0, 70, none⟩ = some (.bool true) := T1.shapes 70 _ rfl
  have c3 : w1.cell? ⟨0, 71, none⟩ = some (.bool false) := T1.shapes 71 _ rfl
  obtain ⟨f1, f2, f3⟩ := fresh_of g
  have r0 := f1 0 _ rfl
  have r1 := f1 1 _ rfl
  have r2 := f1 2 _ rfl
  have r3 := f1 3 _ rfl
  have r4 := f1 4 _ rfl
  have G : Hid (Gr w w1) := ((Gr.refl _).alloc _ _).trans g
  clear f1 T1 g T
  go_wp2_with fail
  refine (taken_rd a _ h0 h1).mono ?_
  rintro e w' ⟨rfl, m_rd, rfl⟩
  go_wp2_with fail
  refine (taken_rs1 a _ h0 h1).mono ?_
  rintro e w' ⟨rfl, m_rs1, rfl⟩
  go_wp2_with fail
  refine bodyPost_ret (v := insV k (Dc.rdF 4 a) (Dc.rs1F 4 a) (Dc.rs2F 4 a) (Dc.immF 4 a)) (by simp [results, Tryd.results27, go_sem, r0, r1, r2, r3, r4, f3, insV, Dc.rdF, Dc.rs1F, Dc.rs2F, Dc.hasRd, Dc.hasRs1, Dc.hasRs2]) rfl ⟨rfl, ?_⟩
  have Z := G.out
  exact ((((((((((Z.alloc _ _).drewN _).setCell (by simp; omega) _).drewN _).setCell (by simp; omega) _).setCell (by simp) _).setCell (by simp) _).setCell (by simp) _).setCell (by simp) _).setCell (by simp) _)
set_option maxHeartbeats 1000000 in
theorem read_5 : Read 5 := by
  intro k a w T h0 h1
  go_enter Tryd.func27, Tryd.ntmps27
  go_wp2_with fail
  refine (readImm_5 a _ (T.of ((Gr.refl _).alloc _ _)) h0 h1).mono ?_
  rintro e w1 ⟨rfl, g⟩
  have T1 := (T.of ((Gr.refl _).alloc _ _)).of g
  have b0 : 0 < w1.heap.size := lt_of_cell (T1.shapes 0 _ rfl)
  have c1 : w1.cell? ⟨0, 86, none⟩ = some (.bool false) := T1.shapes 86 _ rfl
  have c2 : w1.cell? ⟨0, 87, none⟩ = some (.bool true) := T1.shapes 87 _ rfl
  have c3 : w1.cell? ⟨0, 88, none⟩ = some (.bool true) := T1.shapes 88 _ rfl
  obtain ⟨f1, f2, f3⟩ := fresh_of g
  have r0 := f1 0 _ rfl
  have r1 := f1 1 _ rfl
  have r2 := f1 2 _ rfl
  have r3 := f1 3 _ rfl
  have r4 := f1 4 _ rfl
  have G : Hid (Gr w w1) := ((Gr.refl _).alloc _ _).trans g
  clear f1 T1 g T
  go_wp2_with fail
  refine (taken_rs1 a _ h0 h1).mono ?_
  rintro e w' ⟨rfl, m_rs1, rfl⟩
  go_wp2_with fail
  refine (taken_rs2 a _ h0 h1).mono ?_
  rintro e w' ⟨rfl, m_rs2, rfl⟩
  go_wp2_with fail
  refine bodyPost_ret (v := insV k (Dc.rdF 5 a) (Dc.rs1F 5 a) (Dc.rs2F 5 a) (Dc.immF 5 a)) (by simp [results, Tryd.results27, go_sem, r0, r1, r2, r3, r4, f3, insV, Dc.rdF, Dc.rs1F, Dc.rs2F, Dc.hasRd, Dc.hasRs1, Dc.hasRs2]) rfl ⟨rfl, ?_⟩
  have Z := G.out
  exact ((((((((((Z.alloc _ _).drewN _).setCell (by simp; omega) _).drewN _).setCell (by simp; omega) _).setCell (by simp) _).setCell (by simp) _).setCell (by simp) _).setCell (by simp) _).setCell (by simp) _)
set_option maxHeartbeats 1000000 in
theorem read_6 : Read 6 := by
  intro k a w T h0 h1
  go_enter Tryd.func27, Tryd.ntmps27
  go_wp2_with fail
  refine (readImm_6 a _ (T.of ((Gr.refl _).alloc _ _)) h0 h1).mono ?_
  rintro e w1 ⟨rfl, g⟩
  have T1 := (T.of ((Gr.refl _).alloc _ _)).of g
  have b0 : 0 < w1.heap.size := lt_of_cell (T1.shapes 0 _ rfl)
  have c1 : w1.cell? ⟨0, 103, none⟩ = some (.bool false) := T1.shapes 103 _ rfl
  have c2 : w1.cell? ⟨0, 104, none⟩ = some (.bool true) := T1.shapes 104 _ rfl
  have c3 : w1.cell? ⟨0, 105, none⟩ = some (.bool true) := T1.shapes 105 _ rfl
  obtain ⟨f1, f2, f3⟩ := fresh_of g
  have r0 := f1 0 _ rfl
  have r1 := f1 1 _ rfl
  have r2 := f1 2 _ rfl
  have r3 := f1 3 _ rfl
  have r4 := f1 4 _ rfl
  have G : Hid (Gr w w1) := ((Gr.refl _).alloc _ _).trans g
  clear f1 T1 g T
  go_wp2_with fail
  refine (taken_rs1 a _ h0 h1).mono ?_
  rintro e w' ⟨rfl, m_rs1, rfl⟩
  go_wp2_with fail
  refine (taken_rs2 a _ h0 h1).mono ?_
  rintro e w' ⟨rfl, m_rs2, rfl⟩
  go_wp2_with fail
  refine bodyPost_ret (v := insV k (Dc.rdF 6 a) (Dc.rs1F 6 a) (Dc.rs2F 6 a) (Dc.immF 6 a)) (by simp [results, Tryd.results27, go_sem, r0, r1, r2, r3, r4, f3, insV, Dc.rdF, Dc.rs1F, Dc.rs2F, Dc.hasRd, Dc.hasRs1, Dc.hasRs2]) rfl ⟨rfl, ?_⟩
  have Z := G.out
  exact ((((((((((Z.alloc _ _).drewN _).setCell (by simp; omega) _).drewN _).setCell (by simp; omega) _).setCell (by simp) _).setCell (by simp) _).setCell (by simp) _).setCell (by simp) _).setCell (by simp) _)
set_option maxHeartbeats 1000000 in
theorem read_7 : Read 7 := by
  intro k a w T h0 h1
  go_enter Tryd.func27, Tryd.ntmps27
  go_wp2_with fail
  refine (readImm_7 a _ (T.of ((Gr.refl _).alloc _ _)) h0 h1).mono ?_
  rintro e w1 ⟨rfl, g⟩
  have T1 := (T.of ((Gr.refl _).alloc _ _)).of g
  have b0 : 0 < w1.heap.size := lt_of_cell (T1.shapes 0 _ rfl)
  have c1 : w1.cell? ⟨0, 120, none⟩ = some (.bool true) := T1.shapes 120 _ rfl
  have c2 : w1.cell? ⟨0, 121, none⟩ = some (.bool true) := T1.shapes 121 _ rfl
  have c3 : w1.cell? ⟨0, 122, none⟩ = some (.bool true) := T1.shapes 122 _ rfl
  obtain ⟨f1, f2, f3⟩ := fresh_of g
  have r0 := f1 0 _ rfl
  have r1 := f1 1 _ rfl
  have r2 := f1 2 _ rfl
  have r3 := f1 3 _ rfl
  have r4 := f1 4 _ rfl
  have G : Hid (Gr w w1) := ((Gr.refl _).alloc _ _).trans g
  clear f1 T1 g T
  go_wp2_with fail
  refine (taken_rd a _ h0 h1).mono ?_
  rintro e w' ⟨rfl, m_rd, rfl⟩
  go_wp2_with fail
  refine (taken_rs1 a _ h0 h1).mono ?_
  rintro e w' ⟨rfl, m_rs1, rfl⟩
  go_wp2_with fail
  refine (taken_rs2 a _ h0 h1).mono ?_
  rintro e w' ⟨rfl, m_rs2, rfl⟩
  go_wp2_with fail
  refine bodyPost_ret (v := insV k (Dc.rdF 7 a) (Dc.rs1F 7 a) (Dc.rs2F 7 a) (Dc.immF 7 a)) (by simp [results, Tryd.results27, go_sem, r0, r1, r2, r3, r4, f3, insV, Dc.rdF, Dc.rs1F, Dc.rs2F, Dc.hasRd, Dc.hasRs1, Dc.hasRs2]) rfl ⟨rfl, ?_⟩
  have Z := G.out
  exact ((((((((((((Z.alloc _ _).drewN _).setCell (by simp; omega) _).drewN _).setCell (by simp; omega) _).drewN _).setCell (by simp; omega) _).setCell (by simp) _).setCell (by simp) _).setCell (by simp) _).setCell (by simp) _).setCell (by simp) _)
set_option maxHeartbeats 1000000 in
theorem read_8 : Read 8 := by
  intro k a w T h0 h1
  go_enter Tryd.func27, Tryd.ntmps27
  go_wp2_with fail
  refine (readImm_8 a _ (T.of ((Gr.refl _).alloc _ _)) h0 h1).mono ?_
  rintro e w1 ⟨rfl, g⟩
  have T1 := (T.of ((Gr.refl _).alloc _ _)).of g
  have b0 : 0 < w1.heap.size := lt_of_cell (T1.shapes 0 _ rfl)
  have c1 : w1.cell? ⟨0, 137, none⟩ = some (.bool true) := T1.shapes 137 _ rfl
  have c2 : w1.cell? ⟨0, 138, none⟩ = some (.bool true) := T1.shapes 138 _ rfl
  have c3 : w1.cell? ⟨0, 139, none⟩ = some (.bool true) := T1.shapes 139 _ rfl
  obtain ⟨f1, f2, f3⟩ := fresh_of g
  have r0 := f1 0 _ rfl
  have r1 := f1 1 _ rfl
  have r2 := f1 2 _ rfl
  have r3 := f1 3 _ rfl
  have r4 := f1 4 _ rfl
  have G : Hid (Gr w w1) := ((Gr.refl _).alloc _ _).trans g
  clear f1 T1 g T
  go_wp2_with fail
  refine (taken_rd a _ h0 h1).mono ?_
  rintro e w' ⟨rfl, m_rd, rfl⟩
  go_wp2_with fail
  refine (taken_rs1 a _ h0 h1).mono ?_
  rintro e w' ⟨rfl, m_rs1, rfl⟩
  go_wp2_with fail
  refine (taken_rs2 a _ h0 h1).mono ?_
  rintro e w' ⟨rfl, m_rs2, rfl⟩
  go_wp2_with fail
  refine bodyPost_ret (v := insV k (Dc.rdF 8 a) (Dc.rs1F 8 a) (Dc.rs2F 8 a) (Dc.immF 8 a)) (by simp [results, Tryd.results27, go_sem, r0, r1, r2, r3, r4, f3, insV, Dc.rdF, Dc.rs1F, Dc.rs2F, Dc.hasRd, Dc.hasRs1, Dc.hasRs2]) rfl ⟨rfl, ?_⟩
  have Z := G.out
  exact ((((((((((((Z.alloc _ _).drewN _).setCell (by simp; omega) _).drewN _).setCell (by simp; omega) _).drewN _).setCell (by simp; omega) _).setCell (by simp) _).setCell (by simp) _).setCell (by simp) _).setCell (by simp) _).setCell (by simp) _)
set_option maxHeartbeats 1000000 in
theorem read_9 : Read 9 := by
  intro k a w T h0 h1
  go_enter Tryd.func27, Tryd.ntmps27
  go_wp2_with fail
  refine (readImm_9 a _ (T.of ((Gr.refl _).alloc _ _)) h0 h1).mono ?_
  rintro e w1 ⟨rfl, g⟩
  have T1 := (T.of ((Gr.refl _).alloc _ _)).of g
  have b0 : 0 < w1.heap.size := lt_of_cell (T1.shapes 0 _ rfl)
  have c1 : w1.cell? ⟨0, 154, none⟩ = some (.bool false) := T1.shapes 154 _ rfl
  have c2 : w1.cell? ⟨0, 155, none⟩ = some (.bool false) := T1.shapes 155 _ rfl
  have c3 : w1.cell? ⟨0, 156, none⟩ = some (.bool false) := T1.shapes 156 _ rfl
  obtain ⟨f1, f2, f3⟩ := fresh_of g
  have r0 := f1 0 _ rfl
  have r1 := f1 1 _ rfl
  have r2 := f1 2 _ rfl
  have r3 := f1 3 _ rfl
  have r4 := f1 4 _ rfl
  have G : Hid (Gr w w1) := ((Gr.refl _).alloc _ _).trans g
  clear f1 T1 g T
  go_wp2_with fail
  refine bodyPost_ret (v := insV k (Dc.rdF 9 a) (Dc.rs1F 9 a) (Dc.rs2F 9 a) (Dc.immF 9 a)) (by simp [results, Tryd.results27, go_sem, r0, r1, r2, r3, r4, f3, insV, Dc.rdF, Dc.rs1F, Dc.rs2F, Dc.hasRd, Dc.hasRs1, Dc.hasRs2]) rfl ⟨rfl, ?_⟩
  have Z := G.out
  exact (((((Z.setCell (by simp) _).setCell (by simp) _).setCell (by simp) _).setCell (by simp) _).setCell (by simp) _).alloc _ _
theorem read_any (f : Int) (h0 : 0 ≤ f) (h1 : f ≤ 9) : Read f := by
  have h : f = 0 ∨ f = 1 ∨ f = 2 ∨ f = 3 ∨ f = 4 ∨ f = 5 ∨ f = 6 ∨ f = 7 ∨ f = 8 ∨ f = 9 := by omega
  rcases h with rfl | rfl | rfl | rfl | rfl | rfl | rfl | rfl | rfl | rfl
  · exact read_0
  · exact read_1
  · exact read_2
  · exact read_3
  · exact read_4
  · exact read_5
  · exact read_6
  · exact read_7
  · exact read_8
  · exact read_9
end Go.Proofs.YtjooaobmbndkfaaDoor.Dw
/-
  What package decode's Decode returns: of every word the instruction that 'Dc' tells, and whether it is one. Conditions: the tables hold what their initialisers lay ('Tab'); words are from 0 to 2^32 - 1.
-/
namespace Go.Proofs.YtjooaobmbndkfaaDoor.Dw
open Go.ChangeShapes Go.WideShapes Go.ChangeAt Go.RowKit
set_option linter.unusedVariables false
set_option linter.unusedSimpArgs false

/-- The instruction of a word; all 0, if it is none. -/
def decV (a : Int) : Value := insV (Dc.dop a) (Dc.rdF (Dc.frm (Dc.dop a)) a) (Dc.rs1F (Dc.frm (Dc.dop a)) a) (Dc.rs2F (Dc.frm (Dc.dop a)) a) (Dc.immF (Dc.frm (Dc.dop a)) a)
def decOk (a : Int) : Bool := decide (Dc.dop a ≠ 0)
theorem dec_none {a : Int} (h : Dc.dop a = 0) : decV a = insV 0 0 0 0 0 ∧ decOk a = false := by
  unfold decV decOk; rw [h]; exact ⟨rfl, rfl⟩
theorem dec_some {a k : Int} (h : Dc.dop a = k) (hk : 1 ≤ k) : decV a = insV k (Dc.rdF (Dc.frm k) a) (Dc.rs1F (Dc.frm k) a) (Dc.rs2F (Dc.frm k) a) (Dc.immF (Dc.frm k) a) ∧ decOk a = true := by
  unfold decV decOk; rw [h]; exact ⟨rfl, by simp; omega⟩
theorem sp_bd (lo : Int) : (1 ≤ Dc.sp1 lo ∨ Dc.sp2 lo = -1) ∧ 0 ≤ Dc.sp1 lo ∧ Dc.sp1 lo ≤ 58 ∧ -1 ≤ Dc.sp2 lo ∧ Dc.sp2 lo ≤ 59 ∧ Dc.sp1 lo ≤ Dc.sp2 lo + 1 := by
  unfold Dc.sp1 Dc.sp2
  by_cases h1 : lo = 55
  · simp [h1]
  by_cases h2 : lo = 23
  · simp [h2]
  by_cases h3 : lo = 111
  · simp [h3]
  by_cases h4 : lo = 103
  · simp [h4]
  by_cases h5 : lo = 99
  · simp [h5]
  by_cases h6 : lo = 3
  · simp [h6]
  by_cases h7 : lo = 35
  · simp [h7]
  by_cases h8 : lo = 19
  · simp [h8]
  by_cases h9 : lo = 51
  · simp [h9]
  by_cases h10 : lo = 47
  · simp [h10]
  by_cases h11 : lo = 15
  · simp [h11]
  by_cases h12 : lo = 115
  · simp [h12]
  simp [h1, h2, h3, h4, h5, h6, h7, h8, h9, h10, h11, h12]
theorem mask_bd (f : Int) : 0 ≤ Dc.mask f ∧ Dc.mask f < 4294967296 := by
  unfold Dc.mask; repeat' split
  all_goals omega
theorem mask_cell {w : World} (T : Tab w) (f : Int) (h0 : 0 ≤ f) (h1 : f ≤ 9) : w.cell? ⟨0, f.toNat * 17, none⟩ = some (.int .u32 (Dc.mask f)) := by
  have h : f = 0 ∨ f = 1 ∨ f = 2 ∨ f = 3 ∨ f = 4 ∨ f = 5 ∨ f = 6 ∨ f = 7 ∨ f = 8 ∨ f = 9 := by omega
  rcases h with rfl | rfl | rfl | rfl | rfl | rfl | rfl | rfl | rfl | rfl
  · exact T.shapes 0 _ rfl
  · exact T.shapes 17 _ rfl
  · exact T.shapes 34 _ rfl
  · exact T.shapes 51 _ rfl
  · exact T.shapes 68 _ rfl
  · exact T.shapes 85 _ rfl
  · exact T.shapes 102 _ rfl
  · exact T.shapes 119 _ rfl
  · exact T.shapes 136 _ rfl
  · exact T.shapes 153 _ rfl
theorem raw_none {a s1 s2 : Int} (h0 : 0 ≤ a) (h1 : a < 4294967296) (e1 : Dc.sp1 (a % 128) = s1) (e2 : Dc.sp2 (a % 128) = s2) (h : ∀ j, s1 ≤ j → j ≤ s2 → Dc.raw a ≠ j) : Dc.dop a = 0 := by
  have : Dc.raw a = 0 := by
    by_cases hr : Dc.raw a = 0
    · exact hr
    · have := Dc.raw_told h0 h1 hr
      exact absurd rfl (h (Dc.raw a) (by omega) (by omega))
  unfold Dc.dop; rw [this]; rfl
set_option maxHeartbeats 1000000 in
theorem Decode_any (a : Int) (w : World) (T : Tab w) (h0 : 0 ≤ a) (h1 : a < 4294967296) :
    Calls Tryd.prog 10 #[.int .u32 a] w fun e w' => e = .returned (.tuple #[decV a, .bool (decOk a)]) ∧ Gr w w' := by
  have hs := sp_bd (a % 128)
  go_enter Tryd.func10, Tryd.ntmps10
  go_wp2_with fail
  refine (span_any a _ h0 h1).mono ?_
  rintro e w' ⟨rfl, rfl⟩
  have E1 : Hid (Dc.sp1 (a % 128) = Dc.sp1 (a % 128)) := rfl
  have E2 : Hid (Dc.sp2 (a % 128) = Dc.sp2 (a % 128)) := rfl
  go_wp2_with fail
  generalize hs1 : Dc.sp1 (a % 128) = s1 at *
  generalize hs2 : Dc.sp2 (a % 128) = s2 at *
  have H1 : Hid (Dc.sp1 (a % 128) = s1) := hs1
  have H2 : Hid (Dc.sp2 (a % 128) = s2) := hs2
  clear hs1 hs2 E1 E2
  obtain ⟨p1, p2, p3, p4, p5, p6⟩ := hs
  go_loopw [6] (fun i wr => ∃ k : Int, i = .int .i64 k ∧ s1 ≤ k ∧ k ≤ s2 + 1 ∧ (∀ j, s1 ≤ j → j < k → Dc.raw a ≠ j) ∧ Gr (w.alloc (.cells #[.int .i64 0, .int .i64 0, .int .i64 0, .int .i64 0, .int .i32 0] 24)) wr) (fun i _ => (s2 + 1 - intOf i).toNat)
  case atStart => exact ⟨s1, rfl, by omega, by omega, fun j _ _ => by omega, Gr.refl _⟩
  case round =>
    obtain ⟨k, rfl, k1, k2, k3, g⟩ := hrel
    obtain ⟨f1, f2, f3⟩ := fresh_of g
    have r0 := f1 0 _ rfl
    have r1 := f1 1 _ rfl
    have r2 := f1 2 _ rfl
    have r3 := f1 3 _ rfl
    have r4 := f1 4 _ rfl
    have T1 := (T.of ((Gr.refl _).alloc _ _)).of g
    have G : Hid (Gr w wr) := ((Gr.refl _).alloc _ _).trans g
    have G1 : Hid (Gr (w.alloc (.cells #[.int .i64 0, .int .i64 0, .int .i64 0, .int .i64 0, .int .i32 0] 24)) wr) := g
    clear f1 g
    by_cases hk : k ≤ s2
    · have hfb := Dc.frm_bd k
      have hti := Dc.told_iff (w := a) (k := k) h0 h1 (by omega) (by omega)
      have hmb := mask_bd (Dc.frm k)
      have hb := bits_and_u32 a (Dc.mask (Dc.frm k)) h0 h1 hmb.1 hmb.2
      rw [← hb] at hti
      have HT : Hid (bits .and .u32 a (Dc.mask (Dc.frm k)) = Dc.tbits k ↔ Dc.raw a = k) := hti
      have K3 : Hid (∀ j, s1 ≤ j → j < k → Dc.raw a ≠ j) := k3
      clear hb hti hmb k3
      go_wp2_with fail
      refine (told_any k _ T1).mono ?_
      rintro e w2 ⟨rfl, g2⟩
      have m0 := mask_cell (T1.of g2) (Dc.frm k) hfb.1 hfb.2
      have G2 : Hid (Gr (w.alloc (.cells #[.int .i64 0, .int .i64 0, .int .i64 0, .int .i64 0, .int .i32 0] 24)) w2) := G1.out.trans g2
      have T2 := T1.of g2
      clear g2 r0 r1 r2 r3 r4 f2 f3 T1 G G1
      by_cases hr : Dc.raw a = k
      · have nb : (bits .and .u32 a (Dc.mask (Dc.frm k)) != Dc.tbits k) = false := by simp [HT.out.2 hr]
        have HR : Hid (Dc.raw a = k) := hr
        clear hr
        go_wp2_with fail
        refine (read_any (Dc.frm k) hfb.1 hfb.2 k a w2 T2 h0 h1).mono ?_
        rintro e w3 ⟨rfl, g3⟩
        unfold insV
        have g := G2.out.trans g3
        obtain ⟨f1, f2, f3⟩ := fresh_of g
        have r0 := f1 0 _ rfl
        have r1 := f1 1 _ rfl
        have r2 := f1 2 _ rfl
        have r3 := f1 3 _ rfl
        have r4 := f1 4 _ rfl
        have G : Hid (Gr w w3) := ((Gr.refl _).alloc _ _).trans g
        clear f1 g g3 G2 T2 m0 nb
        by_cases hk46 : k = 46
        · subst hk46
          by_cases hz : a / 1048576 % 32 = 0
          · obtain ⟨DV0, DO0⟩ := dec_some (a := a) (k := 46) (by unfold Dc.dop; rw [HR.out, if_neg (by omega)]) (by omega)
            have DV : Hid (decV a = _) := DV0
            have DO : Hid (decOk a = true) := DO0
            have hz' : Dc.rs2F (Dc.frm 46) a = 0 := hz
            clear DV0 DO0
            go_wp2_with fail
            refine bodyPost_ret (v := .tuple #[insV 46 (Dc.rdF (Dc.frm 46) a) (Dc.rs1F (Dc.frm 46) a) (Dc.rs2F (Dc.frm 46) a) (Dc.immF (Dc.frm 46) a), .bool true]) (by simp [results, Tryd.results10, go_sem, r0, r1, r2, r3, r4, f3, insV, hz']) rfl ⟨by rw [DV.out, DO.out], ?_⟩
            exact (((((G.out.setCell (by simp) _).setCell (by simp) _).setCell (by simp) _).setCell (by simp) _).setCell (by simp) _).alloc _ _
          · obtain ⟨DV0, DO0⟩ := dec_none (a := a) (by unfold Dc.dop; rw [HR.out, if_pos ⟨rfl, hz⟩])
            have DV : Hid (decV a = _) := DV0
            have DO : Hid (decOk a = false) := DO0
            have hz' : (Dc.rs2F (Dc.frm 46) a != 0) = true := by rw [show Dc.rs2F (Dc.frm 46) a = a / 1048576 % 32 from rfl]; simpa using hz
            clear DV0 DO0
            go_wp2_with fail
            refine bodyPost_ret (v := .tuple #[insV 0 0 0 0 0, .bool false]) (by simp [results, Tryd.results10, go_sem, r0, r1, r2, r3, r4, f3, insV]) rfl ⟨by rw [DV.out, DO.out], ?_⟩
            exact (((((G.out.setCell (by simp) _).setCell (by simp) _).setCell (by simp) _).setCell (by simp) _).setCell (by simp) _).alloc _ _
        · obtain ⟨DV0, DO0⟩ := dec_some (a := a) (k := k) (by unfold Dc.dop; rw [HR.out, if_neg (by omega)]) (by omega)
          have DV : Hid (decV a = _) := DV0
          have DO : Hid (decOk a = true) := DO0
          have b46 : (k == 46) = false := by simpa using hk46
          clear DV0 DO0
          go_wp2_with fail
          refine bodyPost_ret (v := .tuple #[insV k (Dc.rdF (Dc.frm k) a) (Dc.rs1F (Dc.frm k) a) (Dc.rs2F (Dc.frm k) a) (Dc.immF (Dc.frm k) a), .bool true]) (by simp [results, Tryd.results10, go_sem, r0, r1, r2, r3, r4, f3, insV]) rfl ⟨by rw [DV.out, DO.out], ?_⟩
          exact (((((G.out.setCell (by simp) _).setCell (by simp) _).setCell (by simp) _).setCell (by simp) _).setCell (by simp) _).alloc _ _
      · have nb : (bits .and .u32 a (Dc.mask (Dc.frm k)) != Dc.tbits k) = true := by simp; intro h; exact hr (HT.out.1 h)
        go_wp2_with fail
        refine ⟨⟨k + 1, rfl, by omega, by omega, fun j j1 j2 => ?_, G2.out⟩, by simp only [intOf]; omega⟩
        by_cases e : j = k
        · rw [e]; exact hr
        · exact K3.out j j1 (by omega)
    · obtain ⟨DV0, DO0⟩ := dec_none (raw_none h0 h1 H1.out H2.out fun j j1 j2 => k3 j j1 (by omega))
      have DV : Hid (decV a = _) := DV0
      have DO : Hid (decOk a = false) := DO0
      clear k3 DV0 DO0
      go_wp2
      refine bodyPost_ret (v := .tuple #[insV 0 0 0 0 0, .bool false]) (by simp [results, Tryd.results10, go_sem, r0, r1, r2, r3, r4, f3, insV]) rfl ⟨by rw [DV.out, DO.out], ?_⟩
      exact (((((G.out.setCell (by simp) _).setCell (by simp) _).setCell (by simp) _).setCell (by simp) _).setCell (by simp) _)
end Go.Proofs.YtjooaobmbndkfaaDoor.Dw
/-
  What the methods do and Step of package hart's core do, of every instruction and every word.
-/
namespace Go.Proofs.YtjooaobmbndkfaaDoor.Hc
open Go.ChangeShapes Go.WideShapes Go.ChangeAt Go.RowKit Mm Hh
set_option linter.unusedVariables false
set_option linter.unusedSimpArgs false

set_option maxHeartbeats 1000000 in
theorem do_any {w : World} {base g : Nat} {h : Hv} {l : List UInt8} {os : List Int} {ss : List (Int × Int)} (I : In w base g h l os ss) (T : Tb w base) (hl : l.length ≤ 140737488351232) (hss : ss.length ≤ 1000000) (hos : os.length ≤ 1000000) (op rd r1 r2 im : Int) (d0 : 0 ≤ rd) (d1 : rd < 32) (s0 : 0 ≤ r1) (s1 : r1 < 32) (t0 : 0 ≤ r2) (t1 : r2 < 32) (i0 : -2147483648 ≤ im) (i1 : im ≤ 2147483647) :
    Calls Tryd.prog 61 #[.pointer (some ⟨g, 0, none⟩), .agg #[.int .i64 op, .int .i64 rd, .int .i64 r1, .int .i64 r2, .int .i32 im]] w fun e w' => e = .returned (.tuple #[]) ∧ In w' base g (ins h l op rd r1 r2 im).h (ins h l op rd r1 r2 im).m (os ++ (ins h l op rd r1 r2 im).out) (ss ++ (ins h l op rd r1 r2 im).sto) ∧ Fr base w w' := by
  obtain ⟨r1, rfl⟩ := Int.eq_ofNat_of_zero_le s0
  obtain ⟨r2, rfl⟩ := Int.eq_ofNat_of_zero_le t0
  have HI : Hid (In w base g h l os ss) := I
  have HT : Hid (Tb w base) := T
  obtain ⟨c0, rfl, J⟩ := I
  have hr1 : r1 < 32 := by omega
  have hr2 : r2 < 32 := by omega
  have k1 := J.reg hr1
  have k2 := J.reg hr2
  have hg := J.lt
  have hbl : base ≤ w.heap.size := J.base_le
  have wa := W.reg J.ok r1
  have wb := W.reg J.ok r2
  have wn : W (im % 4294967296) := W.lo im
  have HE : Hid (ins c0.h l op rd (r1 : Int) (r2 : Int) im = done (eff c0.h l op (rg c0.h r1) (rg c0.h r2) (im % 4294967296)) rd.toNat (nxt c0.h op (rg c0.h r1) (rg c0.h r2) (im % 4294967296))) := rfl
  have ok : Hid ((eff c0.h l op (rg c0.h r1) (rg c0.h r2) (im % 4294967296)).Ok l) := eff_ok J.ok l wa wb wn
  have hx : Hid (W (nxt c0.h op (rg c0.h r1) (rg c0.h r2) (im % 4294967296))) := .nxt
  have N : Hid (∀ W1, In W1 base g c0.h l os ss → Calls Tryd.prog 76 #[.pointer (some ⟨g, 0, none⟩), .int .i64 op, .int .u32 (rg c0.h r1), .int .u32 (rg c0.h r2), .int .u32 (im % 4294967296)] W1 fun e w' => e = .returned (.int .u32 (nxt c0.h op (rg c0.h r1) (rg c0.h r2) (im % 4294967296))) ∧ Gr W1 w') := fun W1 I1 => (next_any I1 op _ _ _ wa.1 wa.2 wb.1 wb.2 wn.1 wn.2).mono fun e w' h => ⟨h.1, by rw [h.2]; exact Gr.refl _⟩
  have E : Hid (∀ W1, In W1 base g c0.h l os ss → Tb W1 base → Calls Tryd.prog 77 #[.pointer (some ⟨g, 0, none⟩), .int .i64 op, .int .u32 (rg c0.h r1), .int .u32 (rg c0.h r2), .int .u32 (im % 4294967296)] W1 fun e w' => e = .returned (ret2 (eff c0.h l op (rg c0.h r1) (rg c0.h r2) (im % 4294967296)).res) ∧ In w' base g (eff c0.h l op (rg c0.h r1) (rg c0.h r2) (im % 4294967296)).h (eff c0.h l op (rg c0.h r1) (rg c0.h r2) (im % 4294967296)).m (os ++ (eff c0.h l op (rg c0.h r1) (rg c0.h r2) (im % 4294967296)).out) (ss ++ (eff c0.h l op (rg c0.h r1) (rg c0.h r2) (im % 4294967296)).sto) ∧ Fr base W1 w') := fun W1 I1 T1 => effect_any I1 T1 hl hss hos op _ _ _ wa wb wn
  rw [HE.out]
  generalize eff c0.h l op (rg c0.h r1) (rg c0.h r2) (im % 4294967296) = Z at *
  generalize nxt c0.h op (rg c0.h r1) (rg c0.h r2) (im % 4294967296) = X at *
  generalize rg c0.h r1 = xa at *
  generalize rg c0.h r2 = xb at *
  generalize c0.h = h0 at *
  clear J HE wa wb wn T
  unfold done ret2 at *
  simp only at *
  have hw0 : Hid (W (Z.res.getD 0)) := ok.out.res
  clear ok
  generalize Z.res = rr at *
  cases rr with
  | none =>
    have e0 : Z.h.put rd.toNat none = Z.h := rfl
    rw [e0]
    clear e0
    generalize Z.h = HH at *
    go_enter Tryd.func61, Tryd.ntmps61
    go_wp2_with fail
    go_quiet (fail)
    go_wp2_with fail
    refine (N.out _ (HI.out.of (((Gr.refl _).alloc _).drewN _))).mono ?_
    rintro e w1 ⟨rfl, G0⟩
    have G1 : Gr w w1 := (((Gr.refl _).alloc _).drewN _).trans G0
    have HB1 : Hid (w1.heap[w.heap.size]? = some (.cells #[.int .i64 op, .int .i64 rd, .int .i64 r1, .int .i64 r2, .int .i32 im] 24 (0, 0))) := (G0.block _ (by simp)).trans (heap_alloc_new w _)
    have HI1 : Hid (In w1 base g h0 l os ss) := HI.out.of G1
    have HF1 : Hid (Fr base w w1) := .ofGr G1 hbl
    have HT1 : Hid (Tb w1 base) := HT.out.of HF1.out
    have q0 : w1.cell? ⟨w.heap.size, 0, none⟩ = some (.int .i64 op) := cell_of_row _ _ _ _ _ _ HB1.out
    clear G0 G1 N k1 k2 hg
    go_wp2_with fail
    refine (E.out _ HI1.out HT1.out).mono ?_
    rintro e w2 ⟨rfl, I2, F2⟩
    have HB2 : Hid (w2.heap[w.heap.size]? = some (.cells #[.int .i64 op, .int .i64 rd, .int .i64 r1, .int .i64 r2, .int .i32 im] 24 (0, 0))) := (F2.keep _ _ _ _ HB1.out (by decide) (by decide) (by decide)).trans HB1.out
    have q1 : w2.cell? ⟨w.heap.size, 1, none⟩ = some (.int .i64 rd) := cell_of_row _ _ _ _ _ _ HB2.out
    have HI2 : Hid (In w2 base g HH Z.m (os ++ Z.out) (ss ++ Z.sto)) := I2
    have HF2 : Hid (Fr base w w2) := HF1.out.trans F2
    clear I2 F2 E HB1 HB2 HI1 HF1 HT1 HT HI q0
    generalize hw : w2 = w3 at *
    have HI3 : Hid (In w3 base g HH Z.m (os ++ Z.out) (ss ++ Z.sto)) := HI2
    have HF3 : Hid (Fr base w w3) := HF2
    clear hw HI2 HF2 q1
    obtain ⟨c1, hc1, J1⟩ := HI3.out
    have k35 : w3.cell? ⟨g, 35, none⟩ = some (.int .i64 HH.state) := (J1.hcell (by omega)).trans (by rw [← hc1]; exact hL_fld J1.ok 3)
    have k32 : w3.cell? ⟨g, 32, none⟩ = some (.int .u32 HH.pc) := (J1.hcell (by omega)).trans (by rw [← hc1]; exact hL_fld J1.ok 0)
    have fz := J1.fz
    have HP : Hid (In (w3.setCell ⟨g, 32, none⟩ (.int .u32 X)) base g (HH.go X) Z.m (os ++ Z.out) (ss ++ Z.sto)) := by
      have := (J1.set (by omega) (set_pc J1.ok X) (J1.ok.go hx.out.1 hx.out.2)).inn
      rw [← hc1]
      exact this
    have HQ : Hid (Fr base w (w3.setCell ⟨g, 32, none⟩ (.int .u32 X))) := HF3.out.trans (HI3.out.below ((Ch.refl g w3).setCell _ _))
    clear J1 hc1
    by_cases h0 : HH.state = 0
    · have e1 : Hid (HH.on X = HH.go X) := by unfold Hid Hv.on; rw [if_pos h0]
      rw [h0] at k35
      clear h0
      generalize HH.pc = pc at *
      go_wp2_with fail
      go_end0
      exact ⟨rfl, by rw [e1.out]; exact HP.out, HQ.out⟩
    · have e1 : Hid (HH.on X = HH) := by unfold Hid Hv.on; rw [if_neg h0]
      have b0 : (HH.state == 0) = false := by simp [h0]
      clear h0
      generalize HH.state = st at *
      generalize HH.pc = pc at *
      go_wp2_with fail
      go_end0
      exact ⟨rfl, by rw [e1.out]; exact HI3.out, HF3.out⟩
  | some x =>
    have e0 : Z.h.put rd.toNat (some x) = Z.h.set rd.toNat x := rfl
    rw [e0]
    clear e0
    have S : Hid (∀ w2, In w2 base g Z.h Z.m (os ++ Z.out) (ss ++ Z.sto) → Calls Tryd.prog 78 #[.pointer (some ⟨g, 0, none⟩), .int .i64 rd, .int .u32 x] w2 fun e w' => e = .returned (.tuple #[]) ∧ In w' base g (Z.h.set rd.toNat x) Z.m (os ++ Z.out) (ss ++ Z.sto) ∧ Ch g w2 w') := fun w2 I2 => set_any I2 rd x d0 d1 hw0.out.1 hw0.out.2
    generalize Z.h.set rd.toNat x = HH at *
    simp only [Option.getD_some, Option.isSome_some] at E
    go_enter Tryd.func61, Tryd.ntmps61
    go_wp2_with fail
    go_quiet (fail)
    go_wp2_with fail
    refine (N.out _ (HI.out.of (((Gr.refl _).alloc _).drewN _))).mono ?_
    rintro e w1 ⟨rfl, G0⟩
    have G1 : Gr w w1 := (((Gr.refl _).alloc _).drewN _).trans G0
    have HB1 : Hid (w1.heap[w.heap.size]? = some (.cells #[.int .i64 op, .int .i64 rd, .int .i64 r1, .int .i64 r2, .int .i32 im] 24 (0, 0))) := (G0.block _ (by simp)).trans (heap_alloc_new w _)
    have HI1 : Hid (In w1 base g h0 l os ss) := HI.out.of G1
    have HF1 : Hid (Fr base w w1) := .ofGr G1 hbl
    have HT1 : Hid (Tb w1 base) := HT.out.of HF1.out
    have q0 : w1.cell? ⟨w.heap.size, 0, none⟩ = some (.int .i64 op) := cell_of_row _ _ _ _ _ _ HB1.out
    clear G0 G1 N k1 k2 hg
    go_wp2_with fail
    refine (E.out _ HI1.out HT1.out).mono ?_
    rintro e w2 ⟨rfl, I2, F2⟩
    have HB2 : Hid (w2.heap[w.heap.size]? = some (.cells #[.int .i64 op, .int .i64 rd, .int .i64 r1, .int .i64 r2, .int .i32 im] 24 (0, 0))) := (F2.keep _ _ _ _ HB1.out (by decide) (by decide) (by decide)).trans HB1.out
    have q1 : w2.cell? ⟨w.heap.size, 1, none⟩ = some (.int .i64 rd) := cell_of_row _ _ _ _ _ _ HB2.out
    have HI2 : Hid (In w2 base g Z.h Z.m (os ++ Z.out) (ss ++ Z.sto)) := I2
    have HF2 : Hid (Fr base w w2) := HF1.out.trans F2
    clear I2 F2 E HB1 HB2 HI1 HF1 HT1 HT HI q0
    go_wp2_with fail
    refine (S.out _ HI2.out).mono ?_
    rintro e w3 ⟨rfl, I3, C3⟩
    have HI3 : Hid (In w3 base g HH Z.m (os ++ Z.out) (ss ++ Z.sto)) := I3
    have HF3 : Hid (Fr base w w3) := HF2.out.trans (HI2.out.below C3)
    clear I3 C3 S HI2 HF2 q1
    obtain ⟨c1, hc1, J1⟩ := HI3.out
    have k35 : w3.cell? ⟨g, 35, none⟩ = some (.int .i64 HH.state) := (J1.hcell (by omega)).trans (by rw [← hc1]; exact hL_fld J1.ok 3)
    have k32 : w3.cell? ⟨g, 32, none⟩ = some (.int .u32 HH.pc) := (J1.hcell (by omega)).trans (by rw [← hc1]; exact hL_fld J1.ok 0)
    have fz := J1.fz
    have HP : Hid (In (w3.setCell ⟨g, 32, none⟩ (.int .u32 X)) base g (HH.go X) Z.m (os ++ Z.out) (ss ++ Z.sto)) := by
      have := (J1.set (by omega) (set_pc J1.ok X) (J1.ok.go hx.out.1 hx.out.2)).inn
      rw [← hc1]
      exact this
    have HQ : Hid (Fr base w (w3.setCell ⟨g, 32, none⟩ (.int .u32 X))) := HF3.out.trans (HI3.out.below ((Ch.refl g w3).setCell _ _))
    clear J1 hc1
    by_cases h0 : HH.state = 0
    · have e1 : Hid (HH.on X = HH.go X) := by unfold Hid Hv.on; rw [if_pos h0]
      rw [h0] at k35
      clear h0
      generalize HH.pc = pc at *
      go_wp2_with fail
      go_end0
      exact ⟨rfl, by rw [e1.out]; exact HP.out, HQ.out⟩
    · have e1 : Hid (HH.on X = HH) := by unfold Hid Hv.on; rw [if_neg h0]
      have b0 : (HH.state == 0) = false := by simp [h0]
      clear h0
      generalize HH.state = st at *
      generalize HH.pc = pc at *
      go_wp2_with fail
      go_end0
      exact ⟨rfl, by rw [e1.out]; exact HI3.out, HF3.out⟩
end Go.Proofs.YtjooaobmbndkfaaDoor.Hc
/-
  What the method Step of package hart's core does: one step ('stp'), of every hart and memory.
-/
namespace Go.Proofs.YtjooaobmbndkfaaDoor.Hc
open Go.ChangeShapes Go.WideShapes Go.ChangeAt Go.RowKit Mm Hh
set_option linter.unusedVariables false
set_option linter.unusedSimpArgs false

/-- All tables that a step reads hold what their initialisers lay. -/
structure TT (w : World) (base : Nat) : Prop where
  tab : Dw.Tab w
  tb : Tb w base
  b1 : 0 < base
  b2 : 1 < base
theorem TT.of {w w' : World} {base : Nat} (T : TT w base) (h : Fr base w w') : TT w' base :=
  ⟨⟨fun i n e => (Below.cell h.below (by exact T.b1)).trans (T.tab.shapes i n e), fun i n e => (Below.cell h.below (by exact T.b2)).trans (T.tab.uppers i n e)⟩, T.tb.of h, T.b1, T.b2⟩
theorem rd_bd (f x : Int) : 0 ≤ Dc.rdF f x ∧ Dc.rdF f x < 32 := by unfold Dc.rdF; split <;> omega
theorem r1_bd (f x : Int) : 0 ≤ Dc.rs1F f x ∧ Dc.rs1F f x < 32 := by unfold Dc.rs1F; split <;> omega
theorem r2_bd (f x : Int) : 0 ≤ Dc.rs2F f x ∧ Dc.rs2F f x < 32 := by unfold Dc.rs2F; split <;> omega
theorem imm_bd {v : Int} (f : Int) (h0 : 0 ≤ v) (h1 : v < 4294967296) : -2147483648 ≤ Dc.immF f v ∧ Dc.immF f v < 2147483648 := by
  unfold Dc.immF Wd.sg Dc.sgn
  repeat' split
  all_goals omega
theorem ret_eq {v v' : Value} (h : v = v') : Ending.returned v = .returned v' := by rw [h]

set_option maxHeartbeats 1000000 in
theorem Step_any {w : World} {base g : Nat} {h : Hv} {l : List UInt8} {os : List Int} {ss : List (Int × Int)} (I : In w base g h l os ss) (T : TT w base) (hl : l.length ≤ 140737488351232) (hss : ss.length ≤ 1000000) (hos : os.length ≤ 1000000) :
    Calls Tryd.prog 36 #[.pointer (some ⟨g, 0, none⟩)] w fun e w' => e = .returned (.tuple #[]) ∧ In w' base g (stp h l).h (stp h l).m (os ++ (stp h l).out) (ss ++ (stp h l).sto) ∧ Fr base w w' := by
  have Tr : Hid (∀ W, In W base g h l os ss → ∀ c, Calls Tryd.prog 60 #[.pointer (some ⟨g, 0, none⟩), .int .i64 c] W fun e w' => e = .returned (.tuple #[]) ∧ In w' base g (h.trap c) l os ss ∧ Ch g W w') := fun W I c => trap_any I c
  have HI : Hid (In w base g h l os ss) := I
  have HT : Hid (TT w base) := T
  obtain ⟨c0, rfl, J⟩ := I
  obtain ⟨ao, cap, hm, M⟩ := J.mem.mem
  have k37 : w.cell? ⟨g, 37, none⟩ = some (.slice ao l.length cap) := (J.fcell 0).trans (by rw [hm]; rfl)
  have k32 : w.cell? ⟨g, 32, none⟩ = some (.int .u32 c0.h.pc) := (J.hcell (by omega)).trans (hL_fld J.ok 0)
  have hbl : base ≤ w.heap.size := J.base_le
  have L : Hid (∀ W : World, Gr w W → Calls Tryd.prog 59 #[.slice ao l.length cap, .int .i64 13, .int .u32 c0.h.pc] W fun e w' => e = .returned (.tuple #[.int .u32 (ldV l 13 c0.h.pc), .bool (ldOk l 13 c0.h.pc)]) ∧ w' = W) := fun W G => Mm.Load_any cap 13 c0.h.pc (M.of G) hl J.ok.pc0 J.ok.pc1
  have wx := W.ldV l 13 c0.h.pc
  have D : Hid (∀ W : World, TT W base → Calls Tryd.prog 10 #[.int .u32 (ldV l 13 c0.h.pc)] W fun e w' => e = .returned (.tuple #[Dw.decV (ldV l 13 c0.h.pc), .bool (Dw.decOk (ldV l 13 c0.h.pc))]) ∧ Gr W w') := fun W T => (Dw.Decode_any _ W T.tab wx.1 wx.2).mono fun e w' h => ⟨h.1, h.2.1⟩
  have HW : Hid (W (ldV l 13 c0.h.pc)) := wx
  have HS : Hid (stp c0.h l = if ldOk l 13 c0.h.pc = true then insW c0.h l (ldV l 13 c0.h.pc) else ⟨c0.h.trap 1, l, [], []⟩) := rfl
  rw [HS.out]
  generalize ldV l 13 c0.h.pc = x at *
  generalize ldOk l 13 c0.h.pc = B at *
  generalize c0.h.pc = pc at *
  generalize c0.h = h at *
  clear HS J M hm T wx
  cases B with
  | false =>
    rw [if_neg (by simp), List.append_nil, List.append_nil]
    clear D HT
    go_enter Tryd.func36, Tryd.ntmps36
    go_wp2_with fail
    go_quiet ((go_at_call 59; exact Calls.quiet_of_same (L.out _ (by repeat (first | exact Gr.refl _ | refine Gr.drewN ?_ _)))))
    go_wp2_with fail
    refine (Tr.out _ (HI.out.of ((Gr.refl _).drewN _)) 1).mono ?_
    rintro e w1 ⟨rfl, I1, C1⟩
    have HI1 : Hid (In w1 base g (h.trap 1) l os ss) := I1
    have HF1 : Hid (Fr base w w1) := (Fr.ofGr ((Gr.refl _).drewN _) hbl).trans ((HI.out.of ((Gr.refl _).drewN _)).below C1)
    clear I1 C1 Tr L HI k37 k32
    go_wp2_with fail
    refine bodyPost_ret (results_none Tryd.results36 _ _ _) rfl ?_
    exact ⟨rfl, HI1.out, HF1.out⟩
  | true =>
    rw [if_pos rfl]
    by_cases hd : Dc.dop x = 0
    · have HS : Hid (insW h l x = ⟨h.trap 2, l, [], []⟩) := if_pos hd
      obtain ⟨d1, d2⟩ := Dw.dec_none hd
      rw [HS.out, List.append_nil, List.append_nil]
      rw [d1, d2] at D
      unfold Dw.insV at D
      have D2 : Hid (∀ W : World, TT W base → Calls Tryd.prog 10 #[.int .u32 x] W fun e w' => e = .returned (.tuple #[.agg #[.int .i64 0, .int .i64 0, .int .i64 0, .int .i64 0, .int .i32 0], .bool false]) ∧ Gr W w') := D
      clear D d1 d2 hd HS
      go_enter Tryd.func36, Tryd.ntmps36
      go_wp2_with fail
      go_quiet ((go_at_call 59; exact Calls.quiet_of_same (L.out _ (by repeat (first | exact Gr.refl _ | refine Gr.drewN ?_ _)))))
      go_wp2_with fail
      refine (D2.out _ (HT.out.of (Fr.ofGr ((Gr.refl _).drewN _) hbl))).mono ?_
      rintro e w1 ⟨rfl, G1⟩
      have G2 : Gr w w1 := ((Gr.refl _).drewN _).trans G1
      have HI1 : Hid (In w1 base g h l os ss) := HI.out.of G2
      have HF1 : Hid (Fr base w w1) := Fr.ofGr G2 hbl
      clear G1 G2 D2 L HI k37 k32 HT
      go_wp2_with fail
      refine (Tr.out _ (HI1.out.of ((Gr.refl _).alloc _)) 2).mono ?_
      rintro e w2 ⟨rfl, I2, C2⟩
      have HI2 : Hid (In w2 base g (h.trap 2) l os ss) := I2
      have HF2 : Hid (Fr base w w2) := (HF1.out.alloc hbl _).trans ((HI1.out.of ((Gr.refl _).alloc _)).below C2)
      clear I2 C2 Tr HI1 HF1
      go_wp2_with fail
      refine bodyPost_ret (results_none Tryd.results36 _ _ _) rfl ?_
      exact ⟨rfl, HI2.out, HF2.out⟩
    · have HS : Hid (insW h l x = ins h l (Dc.dop x) (Dc.rdF (Dc.frm (Dc.dop x)) x) (Dc.rs1F (Dc.frm (Dc.dop x)) x) (Dc.rs2F (Dc.frm (Dc.dop x)) x) (Dc.immF (Dc.frm (Dc.dop x)) x)) := if_neg hd
      have d2 : Dw.decOk x = true := by unfold Dw.decOk; simp [hd]
      have Do : Hid (∀ W, In W base g h l os ss → Tb W base → Calls Tryd.prog 61 #[.pointer (some ⟨g, 0, none⟩), .agg #[.int .i64 (Dc.dop x), .int .i64 (Dc.rdF (Dc.frm (Dc.dop x)) x), .int .i64 (Dc.rs1F (Dc.frm (Dc.dop x)) x), .int .i64 (Dc.rs2F (Dc.frm (Dc.dop x)) x), .int .i32 (Dc.immF (Dc.frm (Dc.dop x)) x)]] W fun e w' => e = .returned (.tuple #[]) ∧ In w' base g (insW h l x).h (insW h l x).m (os ++ (insW h l x).out) (ss ++ (insW h l x).sto) ∧ Fr base W w') := fun W I1 T1 => by
        rw [HS.out]
        have ib := imm_bd (Dc.frm (Dc.dop x)) HW.out.1 HW.out.2
        exact do_any I1 T1 hl hss hos _ _ _ _ _ (rd_bd _ _).1 (rd_bd _ _).2 (r1_bd _ _).1 (r1_bd _ _).2 (r2_bd _ _).1 (r2_bd _ _).2 ib.1 (by omega)
      rw [d2] at D
      unfold Dw.decV Dw.insV at D
      generalize insW h l x = Z at *
      generalize Dc.rdF (Dc.frm (Dc.dop x)) x = x1 at *
      generalize Dc.rs1F (Dc.frm (Dc.dop x)) x = x2 at *
      generalize Dc.rs2F (Dc.frm (Dc.dop x)) x = x3 at *
      generalize Dc.immF (Dc.frm (Dc.dop x)) x = x4 at *
      generalize Dc.dop x = x0 at *
      have D2 : Hid (∀ W : World, TT W base → Calls Tryd.prog 10 #[.int .u32 x] W fun e w' => e = .returned (.tuple #[.agg #[.int .i64 x0, .int .i64 x1, .int .i64 x2, .int .i64 x3, .int .i32 x4], .bool true]) ∧ Gr W w') := D
      clear D d2 hd HS
      go_enter Tryd.func36, Tryd.ntmps36
      go_wp2_with fail
      go_quiet ((go_at_call 59; exact Calls.quiet_of_same (L.out _ (by repeat (first | exact Gr.refl _ | refine Gr.drewN ?_ _)))))
      go_wp2_with fail
      refine (D2.out _ (HT.out.of (Fr.ofGr ((Gr.refl _).drewN _) hbl))).mono ?_
      rintro e w1 ⟨rfl, G1⟩
      have G2 : Gr w w1 := ((Gr.refl _).drewN _).trans G1
      have HI1 : Hid (In w1 base g h l os ss) := HI.out.of G2
      have HF1 : Hid (Fr base w w1) := Fr.ofGr G2 hbl
      have HT1 : Hid (TT w1 base) := HT.out.of HF1.out
      have hb1 : base ≤ w1.heap.size := Nat.le_trans hbl G2.size
      clear G1 G2 D2 L HI k37 k32 HT Tr
      go_wp2_with fail
      refine (Do.out _ (HI1.out.of ((Gr.refl _).alloc _)) (HT1.out.of (Fr.ofGr ((Gr.refl _).alloc _) hb1)).tb).mono ?_
      rintro e w2 ⟨rfl, I2, C2⟩
      have HI2 : Hid (In w2 base g Z.h Z.m (os ++ Z.out) (ss ++ Z.sto)) := I2
      have HF2 : Hid (Fr base w w2) := (HF1.out.alloc hbl _).trans C2
      clear I2 C2 Do HI1 HF1 HT1
      go_wp2_with fail
      go_end0
      exact ⟨rfl, HI2.out, HF2.out⟩
end Go.Proofs.YtjooaobmbndkfaaDoor.Hc
/-
  A slice of bytes that is handed in: the bytes that it reads as, where they lie ('Mem'), and how many there can be.
-/
namespace Go.Proofs.YtjooaobmbndkfaaDoor.Mm
open Go.ChangeShapes Go.WideShapes Go.ChangeAt Go.RowKit
set_option linter.unusedVariables false

theorem cells5 : Tryd.prog.cellsOf 5 = 1 := by kernel_rfl
theorem bytes5 : Tryd.prog.bytesOf 5 = 1 := by kernel_rfl
theorem laidOut : laidOutB Tryd.prog = true := by kernel_rfl
theorem own : ownKnob Tryd.prog.godebug = none := by kernel_rfl

theorem bv_map {Z : List Int} (hz : ∀ n ∈ Z, (Lit.int .u8 n).wf = true) (t : Nat) (ht : t < Z.length) : bv (Z.map fun z => UInt8.ofNat z.toNat) t = Z.getD t 0 := by
  have hm : Z[t] ∈ Z := List.getElem_mem ht
  have hw := hz _ hm
  have hb : 0 ≤ Z[t] ∧ Z[t] ≤ 255 := by simpa [Lit.wf, IntKind.min, IntKind.max, IntKind.signed, IntKind.bits] using hw
  unfold bv
  simp only [List.getD, List.getElem?_map, List.getElem?_eq_getElem ht, Option.map_some, Option.getD_some]
  rw [UInt8.toNat_ofNat']
  omega

/-- An argument of type []byte, opened once, nil or not. -/
theorem open_mem {H : Type} {enc : TypeId × Value → H} {W : World} {fuel : Nat} {ao : Option Addr} {len cap : Nat} {d : DataW H} {p : List MemPlace}
    (hf : DataW.trod enc Tryd.prog W 0 (fun _ => true) true fuel 35 (Value.slice ao len cap).cells.toList = some (d, p)) :
    ∃ l : List UInt8, Mem W ao len l ∧ (d = .nil ∧ len = 0 ∨ ∃ zs sp, d = .slice (lits .u8 zs) sp ∧ zs.length = len) := by
  rcases open_ints Tryd.underlying35 Tryd.underlying5 cells5 hf with ⟨hcs, hx⟩ | ⟨a, len', cap', zs, hcs, _, hl, hm, hz, hx, hcell, hwz⟩
  · simp [Value.cells] at hcs
    obtain ⟨rfl, rfl, rfl⟩ := hcs
    simp only [Prod.mk.injEq] at hx
    obtain ⟨rfl, rfl⟩ := hx
    exact ⟨[], Mem.none _, Or.inl ⟨rfl, rfl⟩⟩
  · simp [Value.cells] at hcs
    obtain ⟨rfl, rfl, rfl⟩ := hcs
    simp only [Prod.mk.injEq] at hx
    obtain ⟨rfl, rfl⟩ := hx
    simp only [if_true] at hz
    refine ⟨(zs.take len).map fun z => UInt8.ofNat z.toNat, ⟨by simp; omega, (fun h => by cases h), fun ad h t ht => ?_⟩, Or.inr ⟨_, _, rfl, by simp; omega⟩⟩
    obtain rfl := Option.some.inj h
    rw [hcell t (by omega), bv_map (fun n hn => hwz n (List.mem_of_mem_take hn)) t (by simp; omega)]
    simp [List.getD, ht]
end Go.Proofs.YtjooaobmbndkfaaDoor.Mm
/-
  A hart that is handed in, opened; and what the condition on the package's tables gives.
-/
namespace Go.Proofs.YtjooaobmbndkfaaDoor.Hc
open Go.ChangeShapes Go.WideShapes Go.ChangeAt Go.RowKit Mm Hh
set_option linter.unusedVariables false
set_option linter.unusedSimpArgs false

theorem c34 : Tryd.prog.cellsOf 34 = 37 := by kernel_rfl
theorem c32 : Tryd.prog.cellsOf 32 = 32 := by kernel_rfl
theorem c22 : Tryd.prog.cellsOf 22 = 1 := by kernel_rfl
theorem c4 : Tryd.prog.cellsOf 4 = 1 := by kernel_rfl
theorem c3 : Tryd.prog.cellsOf 3 = 1 := by kernel_rfl
theorem list6 {α : Type} {l : List α} (h : l.length = 6) : ∃ a b c d e f, l = [a, b, c, d, e, f] := by
  match l, h with
  | [a, b, c, d, e, f], _ => exact ⟨a, b, c, d, e, f, rfl⟩
theorem cut_one {l : List Value} {k : Nat} {v : Value} (h : (l.drop k).take 1 = [v]) : l[k]? = some v := by
  have := congrArg (fun x => x[0]?) h
  simpa using this
theorem u32_bd {n : Int} (h : (Lit.int .u32 n).wf = true) : 0 ≤ n ∧ n < 4294967296 := by
  have : 0 ≤ n ∧ n ≤ 4294967295 := by simpa [Lit.wf, IntKind.min, IntKind.max, IntKind.signed, IntKind.bits] using h
  omega
set_option maxRecDepth 100000 in
theorem open_hart {H : Type} {enc : TypeId × Value → H} {W : World} {base b0 : Nat} {sp : Nat → Bool} {held : Bool} {v : Value} {d : DataW H} {p : List MemPlace}
    (hv : Value.okWide Tryd.prog W .any base 34 v) (h : DataW.Trod enc Tryd.prog W b0 sp held 34 v d p) : ∃ hh : Hv, v = .agg (hA hh) ∧ hh.Ok := by
  obtain ⟨cs, rfl, hsz⟩ := okWide_struct Tryd.underlying34 hv
  rw [c34] at hsz
  obtain ⟨l⟩ := cs
  obtain ⟨fuel, hf⟩ := h
  obtain ⟨xs, m, rfl, hx, _, hlen, hel⟩ := DataW.trod_struct Tryd.underlying34 hf
  obtain ⟨y0, y1, y2, y3, y4, y5, rfl⟩ := list6 (l := xs) hlen
  clear hf hv hlen hx
  have k0 : DataW.trod enc Tryd.prog W b0 sp held m 32 ((l.drop 0).take (Tryd.prog.cellsOf 32)) = some y0 := hel 0 _ rfl
  have k1 : DataW.trod enc Tryd.prog W b0 sp held m 22 ((l.drop 32).take (Tryd.prog.cellsOf 22)) = some y1 := hel 1 _ rfl
  have k2 : DataW.trod enc Tryd.prog W b0 sp held m 4 ((l.drop 33).take (Tryd.prog.cellsOf 4)) = some y2 := hel 2 _ rfl
  have k3 : DataW.trod enc Tryd.prog W b0 sp held m 22 ((l.drop 34).take (Tryd.prog.cellsOf 22)) = some y3 := hel 3 _ rfl
  have k4 : DataW.trod enc Tryd.prog W b0 sp held m 3 ((l.drop 35).take (Tryd.prog.cellsOf 3)) = some y4 := hel 4 _ rfl
  have k5 : DataW.trod enc Tryd.prog W b0 sp held m 3 ((l.drop 36).take (Tryd.prog.cellsOf 3)) = some y5 := hel 5 _ rfl
  clear hel
  have hl : l.length = 37 := by simpa using hsz
  obtain ⟨pc, e1, _, w1⟩ := DataW.trod_int Tryd.underlying22 k1
  obtain ⟨hd, e2, _⟩ := DataW.trod_bool Tryd.underlying4 k2
  obtain ⟨ha, e3, _, w3⟩ := DataW.trod_int Tryd.underlying22 k3
  obtain ⟨st, e4, _, _⟩ := DataW.trod_int Tryd.underlying3 k4
  obtain ⟨ca, e5, _, _⟩ := DataW.trod_int Tryd.underlying3 k5
  obtain ⟨zs, m2, rfl, _, _, hzl, hze⟩ := DataW.trod_array Tryd.underlying32 k0
  clear k0 k1 k2 k3 k4 k5
  rw [c22] at e1 e3
  rw [c4] at e2
  rw [c3] at e4 e5
  have q1 := cut_one e1
  have q2 := cut_one e2
  have q3 := cut_one e3
  have q4 := cut_one e4
  have q5 := cut_one e5
  have qr : ∀ i, i < 32 → ∃ n, l[i]? = some (.int .u32 n) ∧ 0 ≤ n ∧ n < 4294967296 := fun i hi => by
    have ki := hze i hi
    rw [List.getElem?_eq_getElem (by omega)] at ki
    obtain ⟨n, en, _, wn⟩ := DataW.trod_int Tryd.underlying22 ki
    rw [c22, c32] at en
    refine ⟨n, ?_, u32_bd wn⟩
    have := congrArg (fun x => x[0]?) en
    simp only [List.getElem?_take, List.getElem?_drop] at this
    rw [if_pos (by omega), if_pos (by omega)] at this
    simpa using this
  clear hze e1 e2 e3 e4 e5
  have qn : ∀ i, i < 32 → l[i]? = some (.int .u32 (intOf (l.getD i undef))) ∧ 0 ≤ intOf (l.getD i undef) ∧ intOf (l.getD i undef) < 4294967296 := fun i hi => by
    obtain ⟨n, en, b⟩ := qr i hi
    simp only [List.getD, en, Option.getD_some, intOf]
    exact ⟨trivial, b⟩
  refine ⟨⟨(List.range 32).map fun i => intOf (l.getD i undef), pc, hd, ha, st, ca⟩, ?_, ?_⟩
  · have : l = hL ⟨(List.range 32).map fun i => intOf (l.getD i undef), pc, hd, ha, st, ca⟩ := by
      apply List.ext_getElem?
      intro i
      unfold hL
      by_cases hi : i < 32
      · rw [List.getElem?_append_left (by simpa using hi), (qn i hi).1]
        simp [hi]
      · rw [List.getElem?_append_right (by simp; omega)]
        simp only [List.length_map, List.length_range]
        by_cases h37 : i < 37
        · have : i = 32 ∨ i = 33 ∨ i = 34 ∨ i = 35 ∨ i = 36 := by omega
          rcases this with rfl | rfl | rfl | rfl | rfl
          · exact q1
          · exact q2
          · exact q3
          · exact q4
          · exact q5
        · rw [List.getElem?_eq_none (by omega), List.getElem?_eq_none (by simp; omega)]
    unfold hA
    rw [← this]
  · refine ⟨by simp, fun i => ?_, (u32_bd w1).1, (u32_bd w1).2, (u32_bd w3).1, (u32_bd w3).2⟩
    unfold rg
    simp only [List.getD, List.getElem?_map]
    by_cases hi : i < 32
    · rw [List.getElem?_eq_getElem (by simpa using hi)]
      simp only [List.getElem_range, Option.map_some, Option.getD_some]
      exact (qn i hi).2
    · rw [List.getElem?_eq_none (by simp; omega)]
      simp

def sizesL : List Int := [0, 0, 0, 0, 0, 0, 0, 0, 0, 0, 0, 0, 0, 0, 0, 0, 1, 2, 4]
def opersL : List Int := [0, 0, 0, 0, 0, 0, 0, 0, 0, 0, 0, 0, 0, 0, 0, 0, 0, 0, 0, 28, 31, 32, 33, 36, 37, 30, 34, 35]
theorem gSizes : Tryd.prog.globalNamed "ferrybridge/hart.sizes" = some 3 := by kernel_rfl
theorem gOpers : Tryd.prog.globalNamed "ferrybridge/hart.operations" = some 2 := by kernel_rfl
theorem tSizes : (Tryd.prog.globals[3]?).map (·.type) = some 152 := by kernel_rfl
theorem tOpers : (Tryd.prog.globals[2]?).map (·.type) = some 149 := by kernel_rfl
theorem lookSizes : (List.range 19).map (Dw.look Tryd.prog 3 152 (Rows.laid_ferrybridge_hart_sizes (H := Unit))) = sizesL.map fun n => some (.int .u32 n) := by kernel_rfl
theorem lookOpers : (List.range 28).map (Dw.look Tryd.prog 3 149 (Rows.laid_ferrybridge_hart_operations (H := Unit))) = opersL.map fun n => some (.int .i64 n) := by kernel_rfl
/-- The condition gives the tables. -/
theorem tt_of_laid {W : World} (h : laidMetH Tryd.prog [("ferrybridge/decode.shapes", Rows.laid_ferrybridge_decode_shapes), ("ferrybridge/decode.uppers", Rows.laid_ferrybridge_decode_uppers), ("ferrybridge/hart.sizes", Rows.laid_ferrybridge_hart_sizes), ("ferrybridge/hart.operations", Rows.laid_ferrybridge_hart_operations)] W) : TT W W.heap.size := by
  rw [MakeChecks.laidMetH_plain _ _ _ (by kernel_rfl)] at h
  obtain ⟨ps, ⟨g0, t0, cs0, f0, p0, q0, hg0, ht0, hv0, hd0, ⟨g1, t1, cs1, f1, p1, q1, hg1, ht1, hv1, hd1, ⟨g2, t2, cs2, f2, p2, q2, hg2, ht2, hv2, hd2, ⟨g3, t3, cs3, f3, p3, q3, hg3, ht3, hv3, hd3, _, _⟩, _⟩, _⟩, _⟩, _, _⟩ := h
  obtain rfl := Option.some.inj (Dw.gShapes.symm.trans hg0)
  obtain rfl := Option.some.inj (Dw.gUppers.symm.trans hg1)
  obtain rfl := Option.some.inj (gSizes.symm.trans hg2)
  obtain rfl := Option.some.inj (gOpers.symm.trans hg3)
  obtain rfl := Option.some.inj (Dw.tShapes.symm.trans ht0)
  obtain rfl := Option.some.inj (Dw.tUppers.symm.trans ht1)
  obtain rfl := Option.some.inj (tSizes.symm.trans ht2)
  obtain rfl := Option.some.inj (tOpers.symm.trans ht3)
  have T : Dw.Tab W := by
    refine ⟨fun i v hi => ?_, fun i n hi => ?_⟩
    · have := Dw.look_cell 5 hd0 (Dw.look_of Dw.lookShapes hi)
      rw [World.var?_cell hg0 hv0 i]; simpa using this
    · have := Dw.look_cell 3 hd1 (Dw.look_of (l := Dc.uppers.map fun n => .int .u32 n) (i := i) (v := .int .u32 n) (by rw [Dw.lookUppers]; simp [Function.comp_def]) (by simp [hi]))
      rw [World.var?_cell hg1 hv1 i]; simpa using this
  have S : ∀ i n, sizesL[i]? = some n → W.cell? ⟨3, i, none⟩ = some (.int .u32 n) := fun i n hi => by
    have := Dw.look_cell 3 hd2 (Dw.look_of (l := sizesL.map fun n => .int .u32 n) (i := i) (v := .int .u32 n) (by rw [lookSizes]; simp [Function.comp_def]) (by simp [hi]))
    rw [World.var?_cell hg2 hv2 i]; simpa using this
  have O : ∀ i n, opersL[i]? = some n → W.cell? ⟨2, i, none⟩ = some (.int .i64 n) := fun i n hi => by
    have := Dw.look_cell 3 hd3 (Dw.look_of (l := opersL.map fun n => .int .i64 n) (i := i) (v := .int .i64 n) (by rw [lookOpers]; simp [Function.comp_def]) (by simp [hi]))
    rw [World.var?_cell hg3 hv3 i]; simpa using this
  exact ⟨T, ⟨S, O, Dw.lt_of_cell (S 0 _ rfl), Dw.lt_of_cell (O 0 _ rfl)⟩, Dw.lt_of_cell (T.shapes 0 _ rfl), Dw.lt_of_cell (T.uppers 0 _ rfl)⟩
theorem TT.grow {w w' : World} (T : TT w w.heap.size) (G : Gr w w') : TT w' w'.heap.size := by
  have h := T.of (Fr.ofGr G (Nat.le_refl _))
  have s := G.size
  exact ⟨h.tab, ⟨h.tb.sizes, h.tb.opers, Nat.lt_of_lt_of_le h.tb.b1 s, Nat.lt_of_lt_of_le h.tb.b2 s⟩, Nat.lt_of_lt_of_le h.b1 s, Nat.lt_of_lt_of_le h.b2 s⟩
end Go.Proofs.YtjooaobmbndkfaaDoor.Hc
