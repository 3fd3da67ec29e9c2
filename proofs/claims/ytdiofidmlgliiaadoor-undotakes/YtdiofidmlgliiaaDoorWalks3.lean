/-
  What read and Decode return. Conditions: the tables hold what their initialisers lay ('Tab'); words are from 0 to 2^32 - 1.
-/
import Derived.Test.YtdiofidmlgliiaaDoorWalks2
namespace Go.Proofs.YtdiofidmlgliiaaDoor.Dw
open Go.ChangeShapes Go.WideShapes Go.ChangeAt Go.RowKit
set_option linter.unusedVariables false
set_option linter.unusedSimpArgs false

/-- An instruction, as its five fields. -/
def insV (op rd rs1 rs2 imm : Int) : Value := .agg #[.int .i64 op, .int .i64 rd, .int .i64 rs1, .int .i64 rs2, .int .i32 imm]
/-- A block that was made just ahead stands, and is not marked. -/
theorem fresh_of {w w1 : World} {c : Array Value} {t : TypeId} (g : Gr (w.alloc (.cells c t)) w1) :
    (∀ i v, c[i]? = some v → w1.cell? ⟨w.heap.size, i, none⟩ = some v) ∧ (∀ i, w1.frozen? ⟨w.heap.size, i, none⟩ = false) ∧ w.heap.size < w1.heap.size := by
  have hs : (w.alloc (.cells c t)).heap.size = w.heap.size + 1 := by simp
  refine ⟨fun i v h => ?_, fun i => ?_, by have := g.size; omega⟩
  · rw [g.cell _ _ (by omega), World.cell?_alloc_new, h]
  · rw [g.2, frozen?_alloc_cells]
    simp [World.frozen?]
theorem taken_rd (a : Int) (w : World) (h0 : 0 ≤ a) (h1 : a < 4294967296) : Calls Tryd.prog 108 #[.int .u32 a, .int .i64 7, .int .i64 5] w fun e w' => e = .returned (.int .u32 (a / 128 % 32)) ∧ ∃ m, w' = w.drewN m := taken_as a 7 5 _ w h0 h1 (by omega) (by omega) (by omega) (by omega) rfl
theorem taken_rs1 (a : Int) (w : World) (h0 : 0 ≤ a) (h1 : a < 4294967296) : Calls Tryd.prog 108 #[.int .u32 a, .int .i64 15, .int .i64 5] w fun e w' => e = .returned (.int .u32 (a / 32768 % 32)) ∧ ∃ m, w' = w.drewN m := taken_as a 15 5 _ w h0 h1 (by omega) (by omega) (by omega) (by omega) rfl
theorem taken_rs2 (a : Int) (w : World) (h0 : 0 ≤ a) (h1 : a < 4294967296) : Calls Tryd.prog 108 #[.int .u32 a, .int .i64 20, .int .i64 5] w fun e w' => e = .returned (.int .u32 (a / 1048576 % 32)) ∧ ∃ m, w' = w.drewN m := taken_as a 20 5 _ w h0 h1 (by omega) (by omega) (by omega) (by omega) rfl
/-- What read answers of a form. -/
def Read (f : Int) : Prop := ∀ (k a : Int) (w : World), Tab w → 0 ≤ a → a < 4294967296 → Calls Tryd.prog 78 #[.int .i64 k, .int .i64 f, .int .u32 a] w fun e w' => e = .returned (insV k (Dc.rdF f a) (Dc.rs1F f a) (Dc.rs2F f a) (Dc.immF f a)) ∧ Gr w w'

set_option maxHeartbeats 1000000 in
theorem read_0 : Read 0 := by
  intro k a w T h0 h1
  go_enter Tryd.func78, Tryd.ntmps78
  go_wp2_with fail
  refine (readImm_0 a _ (T.of ((Gr.refl _).alloc _ _)) h0 h1).mono ?_
  rintro e w1 ⟨rfl, g⟩
  have T1 := (T.of ((Gr.refl _).alloc _ _)).of g
  have b0 : 2 < w1.heap.size := lt_of_cell (T1.shapes 0 _ rfl)
  have c1 : w1.cell? ⟨2, 1, none⟩ = some (.bool false) := T1.shapes 1 _ rfl
  have c2 : w1.cell? ⟨2, 2, none⟩ = some (.bool false) := T1.shapes 2 _ rfl
  have c3 : w1.cell? ⟨2, 3, none⟩ = some (.bool false) := T1.shapes 3 _ rfl
  obtain ⟨f1, f2, f3⟩ := fresh_of g
  have r0 := f1 0 _ rfl
  have r1 := f1 1 _ rfl
  have r2 := f1 2 _ rfl
  have r3 := f1 3 _ rfl
  have r4 := f1 4 _ rfl
  have G : Hid (Gr w w1) := ((Gr.refl _).alloc _ _).trans g
  clear f1 T1 g T
  go_wp2_with fail
  refine bodyPost_ret (v := insV k (Dc.rdF 0 a) (Dc.rs1F 0 a) (Dc.rs2F 0 a) (Dc.immF 0 a)) (by simp [results, Tryd.results78, go_sem, r0, r1, r2, r3, r4, f3, insV, Dc.rdF, Dc.rs1F, Dc.rs2F, Dc.hasRd, Dc.hasRs1, Dc.hasRs2]) rfl ⟨rfl, ?_⟩
  have Z := G.out
  exact (((((Z.setCell (by simp) _).setCell (by simp) _).setCell (by simp) _).setCell (by simp) _).setCell (by simp) _).alloc _ _
set_option maxHeartbeats 1000000 in
theorem read_1 : Read 1 := by
  intro k a w T h0 h1
  go_enter Tryd.func78, Tryd.ntmps78
  go_wp2_with fail
  refine (readImm_1 a _ (T.of ((Gr.refl _).alloc _ _)) h0 h1).mono ?_
  rintro e w1 ⟨rfl, g⟩
  have T1 := (T.of ((Gr.refl _).alloc _ _)).of g
  have b0 : 2 < w1.heap.size := lt_of_cell (T1.shapes 0 _ rfl)
  have c1 : w1.cell? ⟨2, 18, none⟩ = some (.bool true) := T1.shapes 18 _ rfl
  have c2 : w1.cell? ⟨2, 19, none⟩ = some (.bool false) := T1.shapes 19 _ rfl
  have c3 : w1.cell? ⟨2, 20, none⟩ = some (.bool false) := T1.shapes 20 _ rfl
  obtain ⟨f1, f2, f3⟩ := fresh_of g
  have r0 := f1 0 _ rfl
  have r1 := f1 1 _ rfl
  have r2 := f1 2 _ rfl
  have r3 := f1 3 _ rfl
  have r4 := f1 4 _ rfl
  have G : Hid (Gr w w1) := ((Gr.refl _).alloc _ _).trans g
  clear f1 T1 g T
  go_wp2_with fail
  refine (taken_rd a _ h0 h1).mono ?_
  rintro e w' ⟨rfl, m_rd, rfl⟩
  go_wp2_with fail
  refine bodyPost_ret (v := insV k (Dc.rdF 1 a) (Dc.rs1F 1 a) (Dc.rs2F 1 a) (Dc.immF 1 a)) (by simp [results, Tryd.results78, go_sem, r0, r1, r2, r3, r4, f3, insV, Dc.rdF, Dc.rs1F, Dc.rs2F, Dc.hasRd, Dc.hasRs1, Dc.hasRs2]) rfl ⟨rfl, ?_⟩
  have Z := G.out
  exact ((((((((Z.alloc _ _).drewN _).setCell (by simp; omega) _).setCell (by simp) _).setCell (by simp) _).setCell (by simp) _).setCell (by simp) _).setCell (by simp) _)
set_option maxHeartbeats 1000000 in
theorem read_2 : Read 2 := by
  intro k a w T h0 h1
  go_enter Tryd.func78, Tryd.ntmps78
  go_wp2_with fail
  refine (readImm_2 a _ (T.of ((Gr.refl _).alloc _ _)) h0 h1).mono ?_
  rintro e w1 ⟨rfl, g⟩
  have T1 := (T.of ((Gr.refl _).alloc _ _)).of g
  have b0 : 2 < w1.heap.size := lt_of_cell (T1.shapes 0 _ rfl)
  have c1 : w1.cell? ⟨2, 35, none⟩ = some (.bool true) := T1.shapes 35 _ rfl
  have c2 : w1.cell? ⟨2, 36, none⟩ = some (.bool false) := T1.shapes 36 _ rfl
  have c3 : w1.cell? ⟨2, 37, none⟩ = some (.bool false) := T1.shapes 37 _ rfl
  obtain ⟨f1, f2, f3⟩ := fresh_of g
  have r0 := f1 0 _ rfl
  have r1 := f1 1 _ rfl
  have r2 := f1 2 _ rfl
  have r3 := f1 3 _ rfl
  have r4 := f1 4 _ rfl
  have G : Hid (Gr w w1) := ((Gr.refl _).alloc _ _).trans g
  clear f1 T1 g T
  go_wp2_with fail
  refine (taken_rd a _ h0 h1).mono ?_
  rintro e w' ⟨rfl, m_rd, rfl⟩
  go_wp2_with fail
  refine bodyPost_ret (v := insV k (Dc.rdF 2 a) (Dc.rs1F 2 a) (Dc.rs2F 2 a) (Dc.immF 2 a)) (by simp [results, Tryd.results78, go_sem, r0, r1, r2, r3, r4, f3, insV, Dc.rdF, Dc.rs1F, Dc.rs2F, Dc.hasRd, Dc.hasRs1, Dc.hasRs2]) rfl ⟨rfl, ?_⟩
  have Z := G.out
  exact ((((((((Z.alloc _ _).drewN _).setCell (by simp; omega) _).setCell (by simp) _).setCell (by simp) _).setCell (by simp) _).setCell (by simp) _).setCell (by simp) _)
set_option maxHeartbeats 1000000 in
theorem read_3 : Read 3 := by
  intro k a w T h0 h1
  go_enter Tryd.func78, Tryd.ntmps78
  go_wp2_with fail
  refine (readImm_3 a _ (T.of ((Gr.refl _).alloc _ _)) h0 h1).mono ?_
  rintro e w1 ⟨rfl, g⟩
  have T1 := (T.of ((Gr.refl _).alloc _ _)).of g
  have b0 : 2 < w1.heap.size := lt_of_cell (T1.shapes 0 _ rfl)
  have c1 : w1.cell? ⟨2, 52, none⟩ = some (.bool true) := T1.shapes 52 _ rfl
  have c2 : w1.cell? ⟨2, 53, none⟩ = some (.bool true) := T1.shapes 53 _ rfl
  have c3 : w1.cell? ⟨2, 54, none⟩ = some (.bool false) := T1.shapes 54 _ rfl
  obtain ⟨f1, f2, f3⟩ := fresh_of g
  have r0 := f1 0 _ rfl
  have r1 := f1 1 _ rfl
  have r2 := f1 2 _ rfl
  have r3 := f1 3 _ rfl
  have r4 := f1 4 _ rfl
  have G : Hid (Gr w w1) := ((Gr.refl _).alloc _ _).trans g
  clear f1 T1 g T
  go_wp2_with fail
  refine (taken_rd a _ h0 h1).mono ?_
  rintro e w' ⟨rfl, m_rd, rfl⟩
  go_wp2_with fail
  refine (taken_rs1 a _ h0 h1).mono ?_
  rintro e w' ⟨rfl, m_rs1, rfl⟩
  go_wp2_with fail
  refine bodyPost_ret (v := insV k (Dc.rdF 3 a) (Dc.rs1F 3 a) (Dc.rs2F 3 a) (Dc.immF 3 a)) (by simp [results, Tryd.results78, go_sem, r0, r1, r2, r3, r4, f3, insV, Dc.rdF, Dc.rs1F, Dc.rs2F, Dc.hasRd, Dc.hasRs1, Dc.hasRs2]) rfl ⟨rfl, ?_⟩
  have Z := G.out
  exact ((((((((((Z.alloc _ _).drewN _).setCell (by simp; omega) _).drewN _).setCell (by simp; omega) _).setCell (by simp) _).setCell (by simp) _).setCell (by simp) _).setCell (by simp) _).setCell (by simp) _)
set_option maxHeartbeats 1000000 in
theorem read_4 : Read 4 := by
  intro k a w T h0 h1
  go_enter Tryd.func78, Tryd.ntmps78
  go_wp2_with fail
  refine (readImm_4 a _ (T.of ((Gr.refl _).alloc _ _)) h0 h1).mono ?_
  rintro e w1 ⟨rfl, g⟩
  have T1 := (T.of ((Gr.refl _).alloc _ _)).of g
  have b0 : 2 < w1.heap.size := lt_of_cell (T1.shapes 0 _ rfl)
  have c1 : w1.cell? ⟨2, 69, none⟩ = some (.bool true) := T1.shapes 69 _ rfl
  have c2 : w1.cell? ⟨2, 70, none⟩ = some (.bool true) := T1.shapes 70 _ rfl
  have c3 : w1.cell? ⟨2, 71, none⟩ = some (.bool false) := T1.shapes 71 _ rfl
  obtain ⟨f1, f2, f3⟩ := fresh_of g
  have r0 := f1 0 _ rfl
  have r1 := f1 1 _ rfl
  have r2 := f1 2 _ rfl
  have r3 := f1 3 _ rfl
  have r4 := f1 4 _ rfl
  have G : Hid (Gr w w1) := ((Gr.refl _).alloc _ _).trans g
  clear f1 T1 g T
  go_wp2_with fail
  refine (taken_rd a _ h0 h1).mono ?_
  rintro e w' ⟨rfl, m_rd, rfl⟩
  go_wp2_with fail
  refine (taken_rs1 a _ h0 h1).mono ?_
  rintro e w' ⟨rfl, m_rs1, rfl⟩
  go_wp2_with fail
  refine bodyPost_ret (v := insV k (Dc.rdF 4 a) (Dc.rs1F 4 a) (Dc.rs2F 4 a) (Dc.immF 4 a)) (by simp [results, Tryd.results78, go_sem, r0, r1, r2, r3, r4, f3, insV, Dc.rdF, Dc.rs1F, Dc.rs2F, Dc.hasRd, Dc.hasRs1, Dc.hasRs2]) rfl ⟨rfl, ?_⟩
  have Z := G.out
  exact ((((((((((Z.alloc _ _).drewN _).setCell (by simp; omega) _).drewN _).setCell (by simp; omega) _).setCell (by simp) _).setCell (by simp) _).setCell (by simp) _).setCell (by simp) _).setCell (by simp) _)
set_option maxHeartbeats 1000000 in
theorem read_5 : Read 5 := by
  intro k a w T h0 h1
  go_enter Tryd.func78, Tryd.ntmps78
  go_wp2_with fail
  refine (readImm_5 a _ (T.of ((Gr.refl _).alloc _ _)) h0 h1).mono ?_
  rintro e w1 ⟨rfl, g⟩
  have T1 := (T.of ((Gr.refl _).alloc _ _)).of g
  have b0 : 2 < w1.heap.size := lt_of_cell (T1.shapes 0 _ rfl)
  have c1 : w1.cell? ⟨2, 86, none⟩ = some (.bool false) := T1.shapes 86 _ rfl
  have c2 : w1.cell? ⟨2, 87, none⟩ = some (.bool true) := T1.shapes 87 _ rfl
  have c3 : w1.cell? ⟨2, 88, none⟩ = some (.bool true) := T1.shapes 88 _ rfl
  obtain ⟨f1, f2, f3⟩ := fresh_of g
  have r0 := f1 0 _ rfl
  have r1 := f1 1 _ rfl
  have r2 := f1 2 _ rfl
  have r3 := f1 3 _ rfl
  have r4 := f1 4 _ rfl
  have G : Hid (Gr w w1) := ((Gr.refl _).alloc _ _).trans g
  clear f1 T1 g T
  go_wp2_with fail
  refine (taken_rs1 a _ h0 h1).mono ?_
  rintro e w' ⟨rfl, m_rs1, rfl⟩
  go_wp2_with fail
  refine (taken_rs2 a _ h0 h1).mono ?_
  rintro e w' ⟨rfl, m_rs2, rfl⟩
  go_wp2_with fail
  refine bodyPost_ret (v := insV k (Dc.rdF 5 a) (Dc.rs1F 5 a) (Dc.rs2F 5 a) (Dc.immF 5 a)) (by simp [results, Tryd.results78, go_sem, r0, r1, r2, r3, r4, f3, insV, Dc.rdF, Dc.rs1F, Dc.rs2F, Dc.hasRd, Dc.hasRs1, Dc.hasRs2]) rfl ⟨rfl, ?_⟩
  have Z := G.out
  exact ((((((((((Z.alloc _ _).drewN _).setCell (by simp; omega) _).drewN _).setCell (by simp; omega) _).setCell (by simp) _).setCell (by simp) _).setCell (by simp) _).setCell (by simp) _).setCell (by simp) _)
set_option maxHeartbeats 1000000 in
theorem read_6 : Read 6 := by
  intro k a w T h0 h1
  go_enter Tryd.func78, Tryd.ntmps78
  go_wp2_with fail
  refine (readImm_6 a _ (T.of ((Gr.refl _).alloc _ _)) h0 h1).mono ?_
  rintro e w1 ⟨rfl, g⟩
  have T1 := (T.of ((Gr.refl _).alloc _ _)).of g
  have b0 : 2 < w1.heap.size := lt_of_cell (T1.shapes 0 _ rfl)
  have c1 : w1.cell? ⟨2, 103, none⟩ = some (.bool false) := T1.shapes 103 _ rfl
  have c2 : w1.cell? ⟨2, 104, none⟩ = some (.bool true) := T1.shapes 104 _ rfl
  have c3 : w1.cell? ⟨2, 105, none⟩ = some (.bool true) := T1.shapes 105 _ rfl
  obtain ⟨f1, f2, f3⟩ := fresh_of g
  have r0 := f1 0 _ rfl
  have r1 := f1 1 _ rfl
  have r2 := f1 2 _ rfl
  have r3 := f1 3 _ rfl
  have r4 := f1 4 _ rfl
  have G : Hid (Gr w w1) := ((Gr.refl _).alloc _ _).trans g
  clear f1 T1 g T
  go_wp2_with fail
  refine (taken_rs1 a _ h0 h1).mono ?_
  rintro e w' ⟨rfl, m_rs1, rfl⟩
  go_wp2_with fail
  refine (taken_rs2 a _ h0 h1).mono ?_
  rintro e w' ⟨rfl, m_rs2, rfl⟩
  go_wp2_with fail
  refine bodyPost_ret (v := insV k (Dc.rdF 6 a) (Dc.rs1F 6 a) (Dc.rs2F 6 a) (Dc.immF 6 a)) (by simp [results, Tryd.results78, go_sem, r0, r1, r2, r3, r4, f3, insV, Dc.rdF, Dc.rs1F, Dc.rs2F, Dc.hasRd, Dc.hasRs1, Dc.hasRs2]) rfl ⟨rfl, ?_⟩
  have Z := G.out
  exact ((((((((((Z.alloc _ _).drewN _).setCell (by simp; omega) _).drewN _).setCell (by simp; omega) _).setCell (by simp) _).setCell (by simp) _).setCell (by simp) _).setCell (by simp) _).setCell (by simp) _)
set_option maxHeartbeats 1000000 in
theorem read_7 : Read 7 := by
  intro k a w T h0 h1
  go_enter Tryd.func78, Tryd.ntmps78
  go_wp2_with fail
  refine (readImm_7 a _ (T.of ((Gr.refl _).alloc _ _)) h0 h1).mono ?_
  rintro e w1 ⟨rfl, g⟩
  have T1 := (T.of ((Gr.refl _).alloc _ _)).of g
  have b0 : 2 < w1.heap.size := lt_of_cell (T1.shapes 0 _ rfl)
  have c1 : w1.cell? ⟨2, 120, none⟩ = some (.bool true) := T1.shapes 120 _ rfl
  have c2 : w1.cell? ⟨2, 121, none⟩ = some (.bool true) := T1.shapes 121 _ rfl
  have c3 : w1.cell? ⟨2, 122, none⟩ = some (.bool true) := T1.shapes 122 _ rfl
  obtain ⟨f1, f2, f3⟩ := fresh_of g
  have r0 := f1 0 _ rfl
  have r1 := f1 1 _ rfl
  have r2 := f1 2 _ rfl
  have r3 := f1 3 _ rfl
  have r4 := f1 4 _ rfl
  have G : Hid (Gr w w1) := ((Gr.refl _).alloc _ _).trans g
  clear f1 T1 g T
  go_wp2_with fail
  refine (taken_rd a _ h0 h1).mono ?_
  rintro e w' ⟨rfl, m_rd, rfl⟩
  go_wp2_with fail
  refine (taken_rs1 a _ h0 h1).mono ?_
  rintro e w' ⟨rfl, m_rs1, rfl⟩
  go_wp2_with fail
  refine (taken_rs2 a _ h0 h1).mono ?_
  rintro e w' ⟨rfl, m_rs2, rfl⟩
  go_wp2_with fail
  refine bodyPost_ret (v := insV k (Dc.rdF 7 a) (Dc.rs1F 7 a) (Dc.rs2F 7 a) (Dc.immF 7 a)) (by simp [results, Tryd.results78, go_sem, r0, r1, r2, r3, r4, f3, insV, Dc.rdF, Dc.rs1F, Dc.rs2F, Dc.hasRd, Dc.hasRs1, Dc.hasRs2]) rfl ⟨rfl, ?_⟩
  have Z := G.out
  exact ((((((((((((Z.alloc _ _).drewN _).setCell (by simp; omega) _).drewN _).setCell (by simp; omega) _).drewN _).setCell (by simp; omega) _).setCell (by simp) _).setCell (by simp) _).setCell (by simp) _).setCell (by simp) _).setCell (by simp) _)
set_option maxHeartbeats 1000000 in
theorem read_8 : Read 8 := by
  intro k a w T h0 h1
  go_enter Tryd.func78, Tryd.ntmps78
  go_wp2_with fail
  refine (readImm_8 a _ (T.of ((Gr.refl _).alloc _ _)) h0 h1).mono ?_
  rintro e w1 ⟨rfl, g⟩
  have T1 := (T.of ((Gr.refl _).alloc _ _)).of g
  have b0 : 2 < w1.heap.size := lt_of_cell (T1.shapes 0 _ rfl)
  have c1 : w1.cell? ⟨2, 137, none⟩ = some (.bool true) := T1.shapes 137 _ rfl
  have c2 : w1.cell? ⟨2, 138, none⟩ = some (.bool true) := T1.shapes 138 _ rfl
  have c3 : w1.cell? ⟨2, 139, none⟩ = some (.bool true) := T1.shapes 139 _ rfl
  obtain ⟨f1, f2, f3⟩ := fresh_of g
  have r0 := f1 0 _ rfl
  have r1 := f1 1 _ rfl
  have r2 := f1 2 _ rfl
  have r3 := f1 3 _ rfl
  have r4 := f1 4 _ rfl
  have G : Hid (Gr w w1) := ((Gr.refl _).alloc _ _).trans g
  clear f1 T1 g T
  go_wp2_with fail
  refine (taken_rd a _ h0 h1).mono ?_
  rintro e w' ⟨rfl, m_rd, rfl⟩
  go_wp2_with fail
  refine (taken_rs1 a _ h0 h1).mono ?_
  rintro e w' ⟨rfl, m_rs1, rfl⟩
  go_wp2_with fail
  refine (taken_rs2 a _ h0 h1).mono ?_
  rintro e w' ⟨rfl, m_rs2, rfl⟩
  go_wp2_with fail
  refine bodyPost_ret (v := insV k (Dc.rdF 8 a) (Dc.rs1F 8 a) (Dc.rs2F 8 a) (Dc.immF 8 a)) (by simp [results, Tryd.results78, go_sem, r0, r1, r2, r3, r4, f3, insV, Dc.rdF, Dc.rs1F, Dc.rs2F, Dc.hasRd, Dc.hasRs1, Dc.hasRs2]) rfl ⟨rfl, ?_⟩
  have Z := G.out
  exact ((((((((((((Z.alloc _ _).drewN _).setCell (by simp; omega) _).drewN _).setCell (by simp; omega) _).drewN _).setCell (by simp; omega) _).setCell (by simp) _).setCell (by simp) _).setCell (by simp) _).setCell (by simp) _).setCell (by simp) _)
set_option maxHeartbeats 1000000 in
theorem read_9 : Read 9 := by
  intro k a w T h0 h1
  go_enter Tryd.func78, Tryd.ntmps78
  go_wp2_with fail
  refine (readImm_9 a _ (T.of ((Gr.refl _).alloc _ _)) h0 h1).mono ?_
  rintro e w1 ⟨rfl, g⟩
  have T1 := (T.of ((Gr.refl _).alloc _ _)).of g
  have b0 : 2 < w1.heap.size := lt_of_cell (T1.shapes 0 _ rfl)
  have c1 : w1.cell? ⟨2, 154, none⟩ = some (.bool false) := T1.shapes 154 _ rfl
  have c2 : w1.cell? ⟨2, 155, none⟩ = some (.bool false) := T1.shapes 155 _ rfl
  have c3 : w1.cell? ⟨2, 156, none⟩ = some (.bool false) := T1.shapes 156 _ rfl
  obtain ⟨f1, f2, f3⟩ := fresh_of g
  have r0 := f1 0 _ rfl
  have r1 := f1 1 _ rfl
  have r2 := f1 2 _ rfl
  have r3 := f1 3 _ rfl
  have r4 := f1 4 _ rfl
  have G : Hid (Gr w w1) := ((Gr.refl _).alloc _ _).trans g
  clear f1 T1 g T
  go_wp2_with fail
  refine bodyPost_ret (v := insV k (Dc.rdF 9 a) (Dc.rs1F 9 a) (Dc.rs2F 9 a) (Dc.immF 9 a)) (by simp [results, Tryd.results78, go_sem, r0, r1, r2, r3, r4, f3, insV, Dc.rdF, Dc.rs1F, Dc.rs2F, Dc.hasRd, Dc.hasRs1, Dc.hasRs2]) rfl ⟨rfl, ?_⟩
  have Z := G.out
  exact (((((Z.setCell (by simp) _).setCell (by simp) _).setCell (by simp) _).setCell (by simp) _).setCell (by simp) _).alloc _ _
theorem read_any (f : Int) (h0 : 0 ≤ f) (h1 : f ≤ 9) : Read f := by
  have h : f = 0 ∨ f = 1 ∨ f = 2 ∨ f = 3 ∨ f = 4 ∨ f = 5 ∨ f = 6 ∨ f = 7 ∨ f = 8 ∨ f = 9 := by omega
  rcases h with rfl | rfl | rfl | rfl | rfl | rfl | rfl | rfl | rfl | rfl
  · exact read_0
  · exact read_1
  · exact read_2
  · exact read_3
  · exact read_4
  · exact read_5
  · exact read_6
  · exact read_7
  · exact read_8
  · exact read_9
end Go.Proofs.YtdiofidmlgliiaaDoor.Dw
