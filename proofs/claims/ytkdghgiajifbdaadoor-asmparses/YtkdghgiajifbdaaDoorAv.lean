/-
  What the function Text of package ferrybridgeref11 answers: an instruction's text ('textB'). Printed by tools/mkav.py.
-/
import Derived.Test.YtkdghgiajifbdaaDoorAt
namespace Go.Proofs.YtkdghgiajifbdaaDoor.As
open Go.ChangeShapes Go.WideShapes Go.ChangeAt Go.RowKit Mm
set_option linter.unusedVariables false

theorem upA {w w' : World} (g : Gr w w') {k : Nat} {x : Obj} (h : w.heap[k]? = some x) : w'.heap[k]? = some x := by
  rw [Below.block g k (gs h).1]; exact h
/-- What Text calls, and how long that is. -/
structure TP (op rd a b n : Int) (A N D X Y U : List Nat) : Prop where
  nm : ∀ w : World, Calls Tryd.prog 47 #[.int .i64 op, .int .i32 n] w fun e w' => e = .returned (str A) ∧ Gr w w'
  dn : ∀ w : World, Calls Tryd.prog 48 #[.int .i64 n] w fun e w' => e = .returned (str N) ∧ Gr w w'
  du : ∀ w : World, Calls Tryd.prog 48 #[.int .i64 (n.tdiv 4096)] w fun e w' => e = .returned (str U) ∧ Gr w w'
  d : ∀ w : World, Calls Tryd.prog 49 #[.int .i64 rd] w fun e w' => e = .returned (str D) ∧ Gr w w'
  x : ∀ w : World, Calls Tryd.prog 49 #[.int .i64 a] w fun e w' => e = .returned (str X) ∧ Gr w w'
  y : ∀ w : World, Calls Tryd.prog 49 #[.int .i64 b] w fun e w' => e = .returned (str Y) ∧ Gr w w'
  l : A.length ≤ 30 ∧ N.length ≤ 30 ∧ D.length ≤ 30 ∧ X.length ≤ 30 ∧ Y.length ≤ 30 ∧ U.length ≤ 30
  n0 : -2147483648 ≤ n
  n1 : n < 2147483648
set_option maxHeartbeats 2000000 in
set_option maxRecDepth 100000 in
theorem text_jal {op rd a b n : Int} {A N D X Y U : List Nat} (P : TP op rd a b n A N D X Y U) (h1 : 3 ≤ op) (h2 : op ≤ 3) (w : World) :
    Calls Tryd.prog 23 #[.agg #[.int .i64 op, .int .i64 rd, .int .i64 a, .int .i64 b, .int .i32 n]] w fun e w' => e = .returned (str (A ++ 32 :: (D ++ 44 :: N))) ∧ Gr w w' := by
  have HP : Hid (TP op rd a b n A N D X Y U) := P
  have n0 := P.n0
  have n1 := P.n1
  have e1 : (op == 1) = false := by simp; omega
  have e2 : (op == 2) = false := by simp; omega
  have e3 : (op == 3) = true := by simp; omega
  have e4 : (op == 4) = false := by simp; omega
  have g19 : ¬ 19 ≤ op := by omega
  have l27 : op ≤ 27 := by omega
  have e57 : (op == 57) = false := by simp; omega
  have g5 : ¬ 5 ≤ op := by omega
  have l10 : op ≤ 10 := by omega
  have g11 : ¬ 11 ≤ op := by omega
  have l15 : op ≤ 15 := by omega
  have g16 : ¬ 16 ≤ op := by omega
  have l18 : op ≤ 18 := by omega
  have g28 : ¬ 28 ≤ op := by omega
  have l45 : op ≤ 45 := by omega
  have e46 : (op == 46) = false := by simp; omega
  have g47 : ¬ 47 ≤ op := by omega
  have l56 : op ≤ 56 := by omega
  clear P h1 h2
  go_enter Tryd.func23, Tryd.ntmps23
  go_wp2_with fail
  refine (HP.out.nm _).mono ?_
  rintro e w1 ⟨rfl, G1⟩
  have HB1 : Hid (w1.heap[w.heap.size]? = some (.cells #[.int .i64 op, .int .i64 rd, .int .i64 a, .int .i64 b, .int .i32 n] 23 (0, 0))) := upA G1 (heap_alloc_new w _)
  have HG1 : Hid (Gr w w1) := ((Gr.refl _).alloc _).trans G1
  have z0 := cr0 HB1.out
  have z1 := cr1 HB1.out
  have z2 := cr2 HB1.out
  have z3 := cr3 HB1.out
  have z4 := cr4 HB1.out
  clear G1
  go_wp2_with fail
  refine (HP.out.dn _).mono ?_
  rintro e w2 ⟨rfl, G2⟩
  have HB2 : Hid (w2.heap[w.heap.size]? = some (.cells #[.int .i64 op, .int .i64 rd, .int .i64 a, .int .i64 b, .int .i32 n] 23 (0, 0))) := upA G2 (HB1.out)
  have HG2 : Hid (Gr w w2) := HG1.out.trans G2
  have z0 := cr0 HB2.out
  have z1 := cr1 HB2.out
  have z2 := cr2 HB2.out
  have z3 := cr3 HB2.out
  have z4 := cr4 HB2.out
  clear G2 HB1 HG1
  go_wp2_with fail
  refine (HP.out.d _).mono ?_
  rintro e w3 ⟨rfl, G3⟩
  have HB3 : Hid (w3.heap[w.heap.size]? = some (.cells #[.int .i64 op, .int .i64 rd, .int .i64 a, .int .i64 b, .int .i32 n] 23 (0, 0))) := upA G3 (HB2.out)
  have HG3 : Hid (Gr w w3) := HG2.out.trans G3
  have z0 := cr0 HB3.out
  have z1 := cr1 HB3.out
  have z2 := cr2 HB3.out
  have z3 := cr3 HB3.out
  have z4 := cr4 HB3.out
  clear G3 HB2 HG2
  go_wp2_with fail
  refine (HP.out.x _).mono ?_
  rintro e w4 ⟨rfl, G4⟩
  have HB4 : Hid (w4.heap[w.heap.size]? = some (.cells #[.int .i64 op, .int .i64 rd, .int .i64 a, .int .i64 b, .int .i32 n] 23 (0, 0))) := upA G4 (HB3.out)
  have HG4 : Hid (Gr w w4) := HG3.out.trans G4
  have z0 := cr0 HB4.out
  have z1 := cr1 HB4.out
  have z2 := cr2 HB4.out
  have z3 := cr3 HB4.out
  have z4 := cr4 HB4.out
  clear G4 HB3 HG3
  go_wp2_with fail
  refine (HP.out.y _).mono ?_
  rintro e w5 ⟨rfl, G5⟩
  have HB5 : Hid (w5.heap[w.heap.size]? = some (.cells #[.int .i64 op, .int .i64 rd, .int .i64 a, .int .i64 b, .int .i32 n] 23 (0, 0))) := upA G5 (HB4.out)
  have HG5 : Hid (Gr w w5) := HG4.out.trans G5
  have z0 := cr0 HB5.out
  have z1 := cr1 HB5.out
  have z2 := cr2 HB5.out
  have z3 := cr3 HB5.out
  have z4 := cr4 HB5.out
  clear G5 HB4 HG4
  go_wp2_with (first | (refine wpList_cat rfl _ _ _ _ rfl _ [32] rfl rfl (by have := HP.out.l; simp; omega) ?_) | (refine wpList_cat rfl _ _ _ _ rfl _ [44] rfl rfl (by have := HP.out.l; simp; omega) ?_) | (refine wpList_cat rfl _ _ _ _ rfl _ [40] rfl rfl (by have := HP.out.l; simp; omega) ?_) | (refine wpList_cat rfl _ _ _ _ rfl _ [41] rfl rfl (by have := HP.out.l; simp; omega) ?_) | (refine wpList_cat rfl _ _ _ _ rfl _ [44, 40] rfl rfl (by have := HP.out.l; simp; omega) ?_) | (refine wpList_cat rfl _ _ _ _ rfl _ _ rfl rfl (by have := HP.out.l; simp; omega) ?_))
  go_ret
  exact ⟨by show Ending.returned (str _) = .returned (str _); simp, HG5.out⟩
set_option maxHeartbeats 2000000 in
set_option maxRecDepth 100000 in
theorem text_f19 {op rd a b n : Int} {A N D X Y U : List Nat} (P : TP op rd a b n A N D X Y U) (h1 : 19 ≤ op) (h2 : op ≤ 27) (w : World) :
    Calls Tryd.prog 23 #[.agg #[.int .i64 op, .int .i64 rd, .int .i64 a, .int .i64 b, .int .i32 n]] w fun e w' => e = .returned (str (A ++ 32 :: (D ++ 44 :: (X ++ 44 :: N)))) ∧ Gr w w' := by
  have HP : Hid (TP op rd a b n A N D X Y U) := P
  have n0 := P.n0
  have n1 := P.n1
  have e1 : (op == 1) = false := by simp; omega
  have e2 : (op == 2) = false := by simp; omega
  have e3 : (op == 3) = false := by simp; omega
  have e4 : (op == 4) = false := by simp; omega
  have g19 : 19 ≤ op := by omega
  have l27 : op ≤ 27 := by omega
  have e57 : (op == 57) = false := by simp; omega
  have g5 : 5 ≤ op := by omega
  have l10 : ¬ op ≤ 10 := by omega
  have g11 : 11 ≤ op := by omega
  have l15 : ¬ op ≤ 15 := by omega
  have g16 : 16 ≤ op := by omega
  have l18 : ¬ op ≤ 18 := by omega
  have g28 : ¬ 28 ≤ op := by omega
  have l45 : op ≤ 45 := by omega
  have e46 : (op == 46) = false := by simp; omega
  have g47 : ¬ 47 ≤ op := by omega
  have l56 : op ≤ 56 := by omega
  clear P h1 h2
  go_enter Tryd.func23, Tryd.ntmps23
  go_wp2_with fail
  refine (HP.out.nm _).mono ?_
  rintro e w1 ⟨rfl, G1⟩
  have HB1 : Hid (w1.heap[w.heap.size]? = some (.cells #[.int .i64 op, .int .i64 rd, .int .i64 a, .int .i64 b, .int .i32 n] 23 (0, 0))) := upA G1 (heap_alloc_new w _)
  have HG1 : Hid (Gr w w1) := ((Gr.refl _).alloc _).trans G1
  have z0 := cr0 HB1.out
  have z1 := cr1 HB1.out
  have z2 := cr2 HB1.out
  have z3 := cr3 HB1.out
  have z4 := cr4 HB1.out
  clear G1
  go_wp2_with fail
  refine (HP.out.dn _).mono ?_
  rintro e w2 ⟨rfl, G2⟩
  have HB2 : Hid (w2.heap[w.heap.size]? = some (.cells #[.int .i64 op, .int .i64 rd, .int .i64 a, .int .i64 b, .int .i32 n] 23 (0, 0))) := upA G2 (HB1.out)
  have HG2 : Hid (Gr w w2) := HG1.out.trans G2
  have z0 := cr0 HB2.out
  have z1 := cr1 HB2.out
  have z2 := cr2 HB2.out
  have z3 := cr3 HB2.out
  have z4 := cr4 HB2.out
  clear G2 HB1 HG1
  go_wp2_with fail
  refine (HP.out.d _).mono ?_
  rintro e w3 ⟨rfl, G3⟩
  have HB3 : Hid (w3.heap[w.heap.size]? = some (.cells #[.int .i64 op, .int .i64 rd, .int .i64 a, .int .i64 b, .int .i32 n] 23 (0, 0))) := upA G3 (HB2.out)
  have HG3 : Hid (Gr w w3) := HG2.out.trans G3
  have z0 := cr0 HB3.out
  have z1 := cr1 HB3.out
  have z2 := cr2 HB3.out
  have z3 := cr3 HB3.out
  have z4 := cr4 HB3.out
  clear G3 HB2 HG2
  go_wp2_with fail
  refine (HP.out.x _).mono ?_
  rintro e w4 ⟨rfl, G4⟩
  have HB4 : Hid (w4.heap[w.heap.size]? = some (.cells #[.int .i64 op, .int .i64 rd, .int .i64 a, .int .i64 b, .int .i32 n] 23 (0, 0))) := upA G4 (HB3.out)
  have HG4 : Hid (Gr w w4) := HG3.out.trans G4
  have z0 := cr0 HB4.out
  have z1 := cr1 HB4.out
  have z2 := cr2 HB4.out
  have z3 := cr3 HB4.out
  have z4 := cr4 HB4.out
  clear G4 HB3 HG3
  go_wp2_with fail
  refine (HP.out.y _).mono ?_
  rintro e w5 ⟨rfl, G5⟩
  have HB5 : Hid (w5.heap[w.heap.size]? = some (.cells #[.int .i64 op, .int .i64 rd, .int .i64 a, .int .i64 b, .int .i32 n] 23 (0, 0))) := upA G5 (HB4.out)
  have HG5 : Hid (Gr w w5) := HG4.out.trans G5
  have z0 := cr0 HB5.out
  have z1 := cr1 HB5.out
  have z2 := cr2 HB5.out
  have z3 := cr3 HB5.out
  have z4 := cr4 HB5.out
  clear G5 HB4 HG4
  go_wp2_with (first | (refine wpList_cat rfl _ _ _ _ rfl _ [32] rfl rfl (by have := HP.out.l; simp; omega) ?_) | (refine wpList_cat rfl _ _ _ _ rfl _ [44] rfl rfl (by have := HP.out.l; simp; omega) ?_) | (refine wpList_cat rfl _ _ _ _ rfl _ [40] rfl rfl (by have := HP.out.l; simp; omega) ?_) | (refine wpList_cat rfl _ _ _ _ rfl _ [41] rfl rfl (by have := HP.out.l; simp; omega) ?_) | (refine wpList_cat rfl _ _ _ _ rfl _ [44, 40] rfl rfl (by have := HP.out.l; simp; omega) ?_) | (refine wpList_cat rfl _ _ _ _ rfl _ _ rfl rfl (by have := HP.out.l; simp; omega) ?_))
  go_ret
  exact ⟨by show Ending.returned (str _) = .returned (str _); simp, HG5.out⟩
set_option maxHeartbeats 2000000 in
set_option maxRecDepth 100000 in
theorem text_f57 {op rd a b n : Int} {A N D X Y U : List Nat} (P : TP op rd a b n A N D X Y U) (h1 : 57 ≤ op) (h2 : op ≤ 57) (w : World) :
    Calls Tryd.prog 23 #[.agg #[.int .i64 op, .int .i64 rd, .int .i64 a, .int .i64 b, .int .i32 n]] w fun e w' => e = .returned (str (A ++ 32 :: (D ++ 44 :: (X ++ 44 :: N)))) ∧ Gr w w' := by
  have HP : Hid (TP op rd a b n A N D X Y U) := P
  have n0 := P.n0
  have n1 := P.n1
  have e1 : (op == 1) = false := by simp; omega
  have e2 : (op == 2) = false := by simp; omega
  have e3 : (op == 3) = false := by simp; omega
  have e4 : (op == 4) = false := by simp; omega
  have g19 : 19 ≤ op := by omega
  have l27 : ¬ op ≤ 27 := by omega
  have e57 : (op == 57) = true := by simp; omega
  have g5 : 5 ≤ op := by omega
  have l10 : ¬ op ≤ 10 := by omega
  have g11 : 11 ≤ op := by omega
  have l15 : ¬ op ≤ 15 := by omega
  have g16 : 16 ≤ op := by omega
  have l18 : ¬ op ≤ 18 := by omega
  have g28 : 28 ≤ op := by omega
  have l45 : ¬ op ≤ 45 := by omega
  have e46 : (op == 46) = false := by simp; omega
  have g47 : 47 ≤ op := by omega
  have l56 : ¬ op ≤ 56 := by omega
  clear P h1 h2
  go_enter Tryd.func23, Tryd.ntmps23
  go_wp2_with fail
  refine (HP.out.nm _).mono ?_
  rintro e w1 ⟨rfl, G1⟩
  have HB1 : Hid (w1.heap[w.heap.size]? = some (.cells #[.int .i64 op, .int .i64 rd, .int .i64 a, .int .i64 b, .int .i32 n] 23 (0, 0))) := upA G1 (heap_alloc_new w _)
  have HG1 : Hid (Gr w w1) := ((Gr.refl _).alloc _).trans G1
  have z0 := cr0 HB1.out
  have z1 := cr1 HB1.out
  have z2 := cr2 HB1.out
  have z3 := cr3 HB1.out
  have z4 := cr4 HB1.out
  clear G1
  go_wp2_with fail
  refine (HP.out.dn _).mono ?_
  rintro e w2 ⟨rfl, G2⟩
  have HB2 : Hid (w2.heap[w.heap.size]? = some (.cells #[.int .i64 op, .int .i64 rd, .int .i64 a, .int .i64 b, .int .i32 n] 23 (0, 0))) := upA G2 (HB1.out)
  have HG2 : Hid (Gr w w2) := HG1.out.trans G2
  have z0 := cr0 HB2.out
  have z1 := cr1 HB2.out
  have z2 := cr2 HB2.out
  have z3 := cr3 HB2.out
  have z4 := cr4 HB2.out
  clear G2 HB1 HG1
  go_wp2_with fail
  refine (HP.out.d _).mono ?_
  rintro e w3 ⟨rfl, G3⟩
  have HB3 : Hid (w3.heap[w.heap.size]? = some (.cells #[.int .i64 op, .int .i64 rd, .int .i64 a, .int .i64 b, .int .i32 n] 23 (0, 0))) := upA G3 (HB2.out)
  have HG3 : Hid (Gr w w3) := HG2.out.trans G3
  have z0 := cr0 HB3.out
  have z1 := cr1 HB3.out
  have z2 := cr2 HB3.out
  have z3 := cr3 HB3.out
  have z4 := cr4 HB3.out
  clear G3 HB2 HG2
  go_wp2_with fail
  refine (HP.out.x _).mono ?_
  rintro e w4 ⟨rfl, G4⟩
  have HB4 : Hid (w4.heap[w.heap.size]? = some (.cells #[.int .i64 op, .int .i64 rd, .int .i64 a, .int .i64 b, .int .i32 n] 23 (0, 0))) := upA G4 (HB3.out)
  have HG4 : Hid (Gr w w4) := HG3.out.trans G4
  have z0 := cr0 HB4.out
  have z1 := cr1 HB4.out
  have z2 := cr2 HB4.out
  have z3 := cr3 HB4.out
  have z4 := cr4 HB4.out
  clear G4 HB3 HG3
  go_wp2_with fail
  refine (HP.out.y _).mono ?_
  rintro e w5 ⟨rfl, G5⟩
  have HB5 : Hid (w5.heap[w.heap.size]? = some (.cells #[.int .i64 op, .int .i64 rd, .int .i64 a, .int .i64 b, .int .i32 n] 23 (0, 0))) := upA G5 (HB4.out)
  have HG5 : Hid (Gr w w5) := HG4.out.trans G5
  have z0 := cr0 HB5.out
  have z1 := cr1 HB5.out
  have z2 := cr2 HB5.out
  have z3 := cr3 HB5.out
  have z4 := cr4 HB5.out
  clear G5 HB4 HG4
  go_wp2_with (first | (refine wpList_cat rfl _ _ _ _ rfl _ [32] rfl rfl (by have := HP.out.l; simp; omega) ?_) | (refine wpList_cat rfl _ _ _ _ rfl _ [44] rfl rfl (by have := HP.out.l; simp; omega) ?_) | (refine wpList_cat rfl _ _ _ _ rfl _ [40] rfl rfl (by have := HP.out.l; simp; omega) ?_) | (refine wpList_cat rfl _ _ _ _ rfl _ [41] rfl rfl (by have := HP.out.l; simp; omega) ?_) | (refine wpList_cat rfl _ _ _ _ rfl _ [44, 40] rfl rfl (by have := HP.out.l; simp; omega) ?_) | (refine wpList_cat rfl _ _ _ _ rfl _ _ rfl rfl (by have := HP.out.l; simp; omega) ?_))
  go_ret
  exact ⟨by show Ending.returned (str _) = .returned (str _); simp, HG5.out⟩
set_option maxHeartbeats 2000000 in
set_option maxRecDepth 100000 in
theorem text_br {op rd a b n : Int} {A N D X Y U : List Nat} (P : TP op rd a b n A N D X Y U) (h1 : 5 ≤ op) (h2 : op ≤ 10) (w : World) :
    Calls Tryd.prog 23 #[.agg #[.int .i64 op, .int .i64 rd, .int .i64 a, .int .i64 b, .int .i32 n]] w fun e w' => e = .returned (str (A ++ 32 :: (X ++ 44 :: (Y ++ 44 :: N)))) ∧ Gr w w' := by
  have HP : Hid (TP op rd a b n A N D X Y U) := P
  have n0 := P.n0
  have n1 := P.n1
  have e1 : (op == 1) = false := by simp; omega
  have e2 : (op == 2) = false := by simp; omega
  have e3 : (op == 3) = false := by simp; omega
  have e4 : (op == 4) = false := by simp; omega
  have g19 : ¬ 19 ≤ op := by omega
  have l27 : op ≤ 27 := by omega
  have e57 : (op == 57) = false := by simp; omega
  have g5 : 5 ≤ op := by omega
  have l10 : op ≤ 10 := by omega
  have g11 : ¬ 11 ≤ op := by omega
  have l15 : op ≤ 15 := by omega
  have g16 : ¬ 16 ≤ op := by omega
  have l18 : op ≤ 18 := by omega
  have g28 : ¬ 28 ≤ op := by omega
  have l45 : op ≤ 45 := by omega
  have e46 : (op == 46) = false := by simp; omega
  have g47 : ¬ 47 ≤ op := by omega
  have l56 : op ≤ 56 := by omega
  clear P h1 h2
  go_enter Tryd.func23, Tryd.ntmps23
  go_wp2_with fail
  refine (HP.out.nm _).mono ?_
  rintro e w1 ⟨rfl, G1⟩
  have HB1 : Hid (w1.heap[w.heap.size]? = some (.cells #[.int .i64 op, .int .i64 rd, .int .i64 a, .int .i64 b, .int .i32 n] 23 (0, 0))) := upA G1 (heap_alloc_new w _)
  have HG1 : Hid (Gr w w1) := ((Gr.refl _).alloc _).trans G1
  have z0 := cr0 HB1.out
  have z1 := cr1 HB1.out
  have z2 := cr2 HB1.out
  have z3 := cr3 HB1.out
  have z4 := cr4 HB1.out
  clear G1
  go_wp2_with fail
  refine (HP.out.dn _).mono ?_
  rintro e w2 ⟨rfl, G2⟩
  have HB2 : Hid (w2.heap[w.heap.size]? = some (.cells #[.int .i64 op, .int .i64 rd, .int .i64 a, .int .i64 b, .int .i32 n] 23 (0, 0))) := upA G2 (HB1.out)
  have HG2 : Hid (Gr w w2) := HG1.out.trans G2
  have z0 := cr0 HB2.out
  have z1 := cr1 HB2.out
  have z2 := cr2 HB2.out
  have z3 := cr3 HB2.out
  have z4 := cr4 HB2.out
  clear G2 HB1 HG1
  go_wp2_with fail
  refine (HP.out.d _).mono ?_
  rintro e w3 ⟨rfl, G3⟩
  have HB3 : Hid (w3.heap[w.heap.size]? = some (.cells #[.int .i64 op, .int .i64 rd, .int .i64 a, .int .i64 b, .int .i32 n] 23 (0, 0))) := upA G3 (HB2.out)
  have HG3 : Hid (Gr w w3) := HG2.out.trans G3
  have z0 := cr0 HB3.out
  have z1 := cr1 HB3.out
  have z2 := cr2 HB3.out
  have z3 := cr3 HB3.out
  have z4 := cr4 HB3.out
  clear G3 HB2 HG2
  go_wp2_with fail
  refine (HP.out.x _).mono ?_
  rintro e w4 ⟨rfl, G4⟩
  have HB4 : Hid (w4.heap[w.heap.size]? = some (.cells #[.int .i64 op, .int .i64 rd, .int .i64 a, .int .i64 b, .int .i32 n] 23 (0, 0))) := upA G4 (HB3.out)
  have HG4 : Hid (Gr w w4) := HG3.out.trans G4
  have z0 := cr0 HB4.out
  have z1 := cr1 HB4.out
  have z2 := cr2 HB4.out
  have z3 := cr3 HB4.out
  have z4 := cr4 HB4.out
  clear G4 HB3 HG3
  go_wp2_with fail
  refine (HP.out.y _).mono ?_
  rintro e w5 ⟨rfl, G5⟩
  have HB5 : Hid (w5.heap[w.heap.size]? = some (.cells #[.int .i64 op, .int .i64 rd, .int .i64 a, .int .i64 b, .int .i32 n] 23 (0, 0))) := upA G5 (HB4.out)
  have HG5 : Hid (Gr w w5) := HG4.out.trans G5
  have z0 := cr0 HB5.out
  have z1 := cr1 HB5.out
  have z2 := cr2 HB5.out
  have z3 := cr3 HB5.out
  have z4 := cr4 HB5.out
  clear G5 HB4 HG4
  go_wp2_with (first | (refine wpList_cat rfl _ _ _ _ rfl _ [32] rfl rfl (by have := HP.out.l; simp; omega) ?_) | (refine wpList_cat rfl _ _ _ _ rfl _ [44] rfl rfl (by have := HP.out.l; simp; omega) ?_) | (refine wpList_cat rfl _ _ _ _ rfl _ [40] rfl rfl (by have := HP.out.l; simp; omega) ?_) | (refine wpList_cat rfl _ _ _ _ rfl _ [41] rfl rfl (by have := HP.out.l; simp; omega) ?_) | (refine wpList_cat rfl _ _ _ _ rfl _ [44, 40] rfl rfl (by have := HP.out.l; simp; omega) ?_) | (refine wpList_cat rfl _ _ _ _ rfl _ _ rfl rfl (by have := HP.out.l; simp; omega) ?_))
  go_ret
  exact ⟨by show Ending.returned (str _) = .returned (str _); simp, HG5.out⟩
set_option maxHeartbeats 2000000 in
set_option maxRecDepth 100000 in
theorem text_ld {op rd a b n : Int} {A N D X Y U : List Nat} (P : TP op rd a b n A N D X Y U) (h1 : 11 ≤ op) (h2 : op ≤ 15) (w : World) :
    Calls Tryd.prog 23 #[.agg #[.int .i64 op, .int .i64 rd, .int .i64 a, .int .i64 b, .int .i32 n]] w fun e w' => e = .returned (str (A ++ 32 :: (D ++ 44 :: (N ++ 40 :: (X ++ [41]))))) ∧ Gr w w' := by
  have HP : Hid (TP op rd a b n A N D X Y U) := P
  have n0 := P.n0
  have n1 := P.n1
  have e1 : (op == 1) = false := by simp; omega
  have e2 : (op == 2) = false := by simp; omega
  have e3 : (op == 3) = false := by simp; omega
  have e4 : (op == 4) = false := by simp; omega
  have g19 : ¬ 19 ≤ op := by omega
  have l27 : op ≤ 27 := by omega
  have e57 : (op == 57) = false := by simp; omega
  have g5 : 5 ≤ op := by omega
  have l10 : ¬ op ≤ 10 := by omega
  have g11 : 11 ≤ op := by omega
  have l15 : op ≤ 15 := by omega
  have g16 : ¬ 16 ≤ op := by omega
  have l18 : op ≤ 18 := by omega
  have g28 : ¬ 28 ≤ op := by omega
  have l45 : op ≤ 45 := by omega
  have e46 : (op == 46) = false := by simp; omega
  have g47 : ¬ 47 ≤ op := by omega
  have l56 : op ≤ 56 := by omega
  clear P h1 h2
  go_enter Tryd.func23, Tryd.ntmps23
  go_wp2_with fail
  refine (HP.out.nm _).mono ?_
  rintro e w1 ⟨rfl, G1⟩
  have HB1 : Hid (w1.heap[w.heap.size]? = some (.cells #[.int .i64 op, .int .i64 rd, .int .i64 a, .int .i64 b, .int .i32 n] 23 (0, 0))) := upA G1 (heap_alloc_new w _)
  have HG1 : Hid (Gr w w1) := ((Gr.refl _).alloc _).trans G1
  have z0 := cr0 HB1.out
  have z1 := cr1 HB1.out
  have z2 := cr2 HB1.out
  have z3 := cr3 HB1.out
  have z4 := cr4 HB1.out
  clear G1
  go_wp2_with fail
  refine (HP.out.dn _).mono ?_
  rintro e w2 ⟨rfl, G2⟩
  have HB2 : Hid (w2.heap[w.heap.size]? = some (.cells #[.int .i64 op, .int .i64 rd, .int .i64 a, .int .i64 b, .int .i32 n] 23 (0, 0))) := upA G2 (HB1.out)
  have HG2 : Hid (Gr w w2) := HG1.out.trans G2
  have z0 := cr0 HB2.out
  have z1 := cr1 HB2.out
  have z2 := cr2 HB2.out
  have z3 := cr3 HB2.out
  have z4 := cr4 HB2.out
  clear G2 HB1 HG1
  go_wp2_with fail
  refine (HP.out.d _).mono ?_
  rintro e w3 ⟨rfl, G3⟩
  have HB3 : Hid (w3.heap[w.heap.size]? = some (.cells #[.int .i64 op, .int .i64 rd, .int .i64 a, .int .i64 b, .int .i32 n] 23 (0, 0))) := upA G3 (HB2.out)
  have HG3 : Hid (Gr w w3) := HG2.out.trans G3
  have z0 := cr0 HB3.out
  have z1 := cr1 HB3.out
  have z2 := cr2 HB3.out
  have z3 := cr3 HB3.out
  have z4 := cr4 HB3.out
  clear G3 HB2 HG2
  go_wp2_with fail
  refine (HP.out.x _).mono ?_
  rintro e w4 ⟨rfl, G4⟩
  have HB4 : Hid (w4.heap[w.heap.size]? = some (.cells #[.int .i64 op, .int .i64 rd, .int .i64 a, .int .i64 b, .int .i32 n] 23 (0, 0))) := upA G4 (HB3.out)
  have HG4 : Hid (Gr w w4) := HG3.out.trans G4
  have z0 := cr0 HB4.out
  have z1 := cr1 HB4.out
  have z2 := cr2 HB4.out
  have z3 := cr3 HB4.out
  have z4 := cr4 HB4.out
  clear G4 HB3 HG3
  go_wp2_with fail
  refine (HP.out.y _).mono ?_
  rintro e w5 ⟨rfl, G5⟩
  have HB5 : Hid (w5.heap[w.heap.size]? = some (.cells #[.int .i64 op, .int .i64 rd, .int .i64 a, .int .i64 b, .int .i32 n] 23 (0, 0))) := upA G5 (HB4.out)
  have HG5 : Hid (Gr w w5) := HG4.out.trans G5
  have z0 := cr0 HB5.out
  have z1 := cr1 HB5.out
  have z2 := cr2 HB5.out
  have z3 := cr3 HB5.out
  have z4 := cr4 HB5.out
  clear G5 HB4 HG4
  go_wp2_with (first | (refine wpList_cat rfl _ _ _ _ rfl _ [32] rfl rfl (by have := HP.out.l; simp; omega) ?_) | (refine wpList_cat rfl _ _ _ _ rfl _ [44] rfl rfl (by have := HP.out.l; simp; omega) ?_) | (refine wpList_cat rfl _ _ _ _ rfl _ [40] rfl rfl (by have := HP.out.l; simp; omega) ?_) | (refine wpList_cat rfl _ _ _ _ rfl _ [41] rfl rfl (by have := HP.out.l; simp; omega) ?_) | (refine wpList_cat rfl _ _ _ _ rfl _ [44, 40] rfl rfl (by have := HP.out.l; simp; omega) ?_) | (refine wpList_cat rfl _ _ _ _ rfl _ _ rfl rfl (by have := HP.out.l; simp; omega) ?_))
  go_ret
  exact ⟨by show Ending.returned (str _) = .returned (str _); simp, HG5.out⟩
set_option maxHeartbeats 2000000 in
set_option maxRecDepth 100000 in
theorem text_st {op rd a b n : Int} {A N D X Y U : List Nat} (P : TP op rd a b n A N D X Y U) (h1 : 16 ≤ op) (h2 : op ≤ 18) (w : World) :
    Calls Tryd.prog 23 #[.agg #[.int .i64 op, .int .i64 rd, .int .i64 a, .int .i64 b, .int .i32 n]] w fun e w' => e = .returned (str (A ++ 32 :: (Y ++ 44 :: (N ++ 40 :: (X ++ [41]))))) ∧ Gr w w' := by
  have HP : Hid (TP op rd a b n A N D X Y U) := P
  have n0 := P.n0
  have n1 := P.n1
  have e1 : (op == 1) = false := by simp; omega
  have e2 : (op == 2) = false := by simp; omega
  have e3 : (op == 3) = false := by simp; omega
  have e4 : (op == 4) = false := by simp; omega
  have g19 : ¬ 19 ≤ op := by omega
  have l27 : op ≤ 27 := by omega
  have e57 : (op == 57) = false := by simp; omega
  have g5 : 5 ≤ op := by omega
  have l10 : ¬ op ≤ 10 := by omega
  have g11 : 11 ≤ op := by omega
  have l15 : ¬ op ≤ 15 := by omega
  have g16 : 16 ≤ op := by omega
  have l18 : op ≤ 18 := by omega
  have g28 : ¬ 28 ≤ op := by omega
  have l45 : op ≤ 45 := by omega
  have e46 : (op == 46) = false := by simp; omega
  have g47 : ¬ 47 ≤ op := by omega
  have l56 : op ≤ 56 := by omega
  clear P h1 h2
  go_enter Tryd.func23, Tryd.ntmps23
  go_wp2_with fail
  refine (HP.out.nm _).mono ?_
  rintro e w1 ⟨rfl, G1⟩
  have HB1 : Hid (w1.heap[w.heap.size]? = some (.cells #[.int .i64 op, .int .i64 rd, .int .i64 a, .int .i64 b, .int .i32 n] 23 (0, 0))) := upA G1 (heap_alloc_new w _)
  have HG1 : Hid (Gr w w1) := ((Gr.refl _).alloc _).trans G1
  have z0 := cr0 HB1.out
  have z1 := cr1 HB1.out
  have z2 := cr2 HB1.out
  have z3 := cr3 HB1.out
  have z4 := cr4 HB1.out
  clear G1
  go_wp2_with fail
  refine (HP.out.dn _).mono ?_
  rintro e w2 ⟨rfl, G2⟩
  have HB2 : Hid (w2.heap[w.heap.size]? = some (.cells #[.int .i64 op, .int .i64 rd, .int .i64 a, .int .i64 b, .int .i32 n] 23 (0, 0))) := upA G2 (HB1.out)
  have HG2 : Hid (Gr w w2) := HG1.out.trans G2
  have z0 := cr0 HB2.out
  have z1 := cr1 HB2.out
  have z2 := cr2 HB2.out
  have z3 := cr3 HB2.out
  have z4 := cr4 HB2.out
  clear G2 HB1 HG1
  go_wp2_with fail
  refine (HP.out.d _).mono ?_
  rintro e w3 ⟨rfl, G3⟩
  have HB3 : Hid (w3.heap[w.heap.size]? = some (.cells #[.int .i64 op, .int .i64 rd, .int .i64 a, .int .i64 b, .int .i32 n] 23 (0, 0))) := upA G3 (HB2.out)
  have HG3 : Hid (Gr w w3) := HG2.out.trans G3
  have z0 := cr0 HB3.out
  have z1 := cr1 HB3.out
  have z2 := cr2 HB3.out
  have z3 := cr3 HB3.out
  have z4 := cr4 HB3.out
  clear G3 HB2 HG2
  go_wp2_with fail
  refine (HP.out.x _).mono ?_
  rintro e w4 ⟨rfl, G4⟩
  have HB4 : Hid (w4.heap[w.heap.size]? = some (.cells #[.int .i64 op, .int .i64 rd, .int .i64 a, .int .i64 b, .int .i32 n] 23 (0, 0))) := upA G4 (HB3.out)
  have HG4 : Hid (Gr w w4) := HG3.out.trans G4
  have z0 := cr0 HB4.out
  have z1 := cr1 HB4.out
  have z2 := cr2 HB4.out
  have z3 := cr3 HB4.out
  have z4 := cr4 HB4.out
  clear G4 HB3 HG3
  go_wp2_with fail
  refine (HP.out.y _).mono ?_
  rintro e w5 ⟨rfl, G5⟩
  have HB5 : Hid (w5.heap[w.heap.size]? = some (.cells #[.int .i64 op, .int .i64 rd, .int .i64 a, .int .i64 b, .int .i32 n] 23 (0, 0))) := upA G5 (HB4.out)
  have HG5 : Hid (Gr w w5) := HG4.out.trans G5
  have z0 := cr0 HB5.out
  have z1 := cr1 HB5.out
  have z2 := cr2 HB5.out
  have z3 := cr3 HB5.out
  have z4 := cr4 HB5.out
  clear G5 HB4 HG4
  go_wp2_with (first | (refine wpList_cat rfl _ _ _ _ rfl _ [32] rfl rfl (by have := HP.out.l; simp; omega) ?_) | (refine wpList_cat rfl _ _ _ _ rfl _ [44] rfl rfl (by have := HP.out.l; simp; omega) ?_) | (refine wpList_cat rfl _ _ _ _ rfl _ [40] rfl rfl (by have := HP.out.l; simp; omega) ?_) | (refine wpList_cat rfl _ _ _ _ rfl _ [41] rfl rfl (by have := HP.out.l; simp; omega) ?_) | (refine wpList_cat rfl _ _ _ _ rfl _ [44, 40] rfl rfl (by have := HP.out.l; simp; omega) ?_) | (refine wpList_cat rfl _ _ _ _ rfl _ _ rfl rfl (by have := HP.out.l; simp; omega) ?_))
  go_ret
  exact ⟨by show Ending.returned (str _) = .returned (str _); simp, HG5.out⟩
set_option maxHeartbeats 2000000 in
set_option maxRecDepth 100000 in
theorem text_rr {op rd a b n : Int} {A N D X Y U : List Nat} (P : TP op rd a b n A N D X Y U) (h1 : 28 ≤ op) (h2 : op ≤ 45) (w : World) :
    Calls Tryd.prog 23 #[.agg #[.int .i64 op, .int .i64 rd, .int .i64 a, .int .i64 b, .int .i32 n]] w fun e w' => e = .returned (str (A ++ 32 :: (D ++ 44 :: (X ++ 44 :: Y)))) ∧ Gr w w' := by
  have HP : Hid (TP op rd a b n A N D X Y U) := P
  have n0 := P.n0
  have n1 := P.n1
  have e1 : (op == 1) = false := by simp; omega
  have e2 : (op == 2) = false := by simp; omega
  have e3 : (op == 3) = false := by simp; omega
  have e4 : (op == 4) = false := by simp; omega
  have g19 : 19 ≤ op := by omega
  have l27 : ¬ op ≤ 27 := by omega
  have e57 : (op == 57) = false := by simp; omega
  have g5 : 5 ≤ op := by omega
  have l10 : ¬ op ≤ 10 := by omega
  have g11 : 11 ≤ op := by omega
  have l15 : ¬ op ≤ 15 := by omega
  have g16 : 16 ≤ op := by omega
  have l18 : ¬ op ≤ 18 := by omega
  have g28 : 28 ≤ op := by omega
  have l45 : op ≤ 45 := by omega
  have e46 : (op == 46) = false := by simp; omega
  have g47 : ¬ 47 ≤ op := by omega
  have l56 : op ≤ 56 := by omega
  clear P h1 h2
  go_enter Tryd.func23, Tryd.ntmps23
  go_wp2_with fail
  refine (HP.out.nm _).mono ?_
  rintro e w1 ⟨rfl, G1⟩
  have HB1 : Hid (w1.heap[w.heap.size]? = some (.cells #[.int .i64 op, .int .i64 rd, .int .i64 a, .int .i64 b, .int .i32 n] 23 (0, 0))) := upA G1 (heap_alloc_new w _)
  have HG1 : Hid (Gr w w1) := ((Gr.refl _).alloc _).trans G1
  have z0 := cr0 HB1.out
  have z1 := cr1 HB1.out
  have z2 := cr2 HB1.out
  have z3 := cr3 HB1.out
  have z4 := cr4 HB1.out
  clear G1
  go_wp2_with fail
  refine (HP.out.dn _).mono ?_
  rintro e w2 ⟨rfl, G2⟩
  have HB2 : Hid (w2.heap[w.heap.size]? = some (.cells #[.int .i64 op, .int .i64 rd, .int .i64 a, .int .i64 b, .int .i32 n] 23 (0, 0))) := upA G2 (HB1.out)
  have HG2 : Hid (Gr w w2) := HG1.out.trans G2
  have z0 := cr0 HB2.out
  have z1 := cr1 HB2.out
  have z2 := cr2 HB2.out
  have z3 := cr3 HB2.out
  have z4 := cr4 HB2.out
  clear G2 HB1 HG1
  go_wp2_with fail
  refine (HP.out.d _).mono ?_
  rintro e w3 ⟨rfl, G3⟩
  have HB3 : Hid (w3.heap[w.heap.size]? = some (.cells #[.int .i64 op, .int .i64 rd, .int .i64 a, .int .i64 b, .int .i32 n] 23 (0, 0))) := upA G3 (HB2.out)
  have HG3 : Hid (Gr w w3) := HG2.out.trans G3
  have z0 := cr0 HB3.out
  have z1 := cr1 HB3.out
  have z2 := cr2 HB3.out
  have z3 := cr3 HB3.out
  have z4 := cr4 HB3.out
  clear G3 HB2 HG2
  go_wp2_with fail
  refine (HP.out.x _).mono ?_
  rintro e w4 ⟨rfl, G4⟩
  have HB4 : Hid (w4.heap[w.heap.size]? = some (.cells #[.int .i64 op, .int .i64 rd, .int .i64 a, .int .i64 b, .int .i32 n] 23 (0, 0))) := upA G4 (HB3.out)
  have HG4 : Hid (Gr w w4) := HG3.out.trans G4
  have z0 := cr0 HB4.out
  have z1 := cr1 HB4.out
  have z2 := cr2 HB4.out
  have z3 := cr3 HB4.out
  have z4 := cr4 HB4.out
  clear G4 HB3 HG3
  go_wp2_with fail
  refine (HP.out.y _).mono ?_
  rintro e w5 ⟨rfl, G5⟩
  have HB5 : Hid (w5.heap[w.heap.size]? = some (.cells #[.int .i64 op, .int .i64 rd, .int .i64 a, .int .i64 b, .int .i32 n] 23 (0, 0))) := upA G5 (HB4.out)
  have HG5 : Hid (Gr w w5) := HG4.out.trans G5
  have z0 := cr0 HB5.out
  have z1 := cr1 HB5.out
  have z2 := cr2 HB5.out
  have z3 := cr3 HB5.out
  have z4 := cr4 HB5.out
  clear G5 HB4 HG4
  go_wp2_with (first | (refine wpList_cat rfl _ _ _ _ rfl _ [32] rfl rfl (by have := HP.out.l; simp; omega) ?_) | (refine wpList_cat rfl _ _ _ _ rfl _ [44] rfl rfl (by have := HP.out.l; simp; omega) ?_) | (refine wpList_cat rfl _ _ _ _ rfl _ [40] rfl rfl (by have := HP.out.l; simp; omega) ?_) | (refine wpList_cat rfl _ _ _ _ rfl _ [41] rfl rfl (by have := HP.out.l; simp; omega) ?_) | (refine wpList_cat rfl _ _ _ _ rfl _ [44, 40] rfl rfl (by have := HP.out.l; simp; omega) ?_) | (refine wpList_cat rfl _ _ _ _ rfl _ _ rfl rfl (by have := HP.out.l; simp; omega) ?_))
  go_ret
  exact ⟨by show Ending.returned (str _) = .returned (str _); simp, HG5.out⟩
set_option maxHeartbeats 2000000 in
set_option maxRecDepth 100000 in
theorem text_lr {op rd a b n : Int} {A N D X Y U : List Nat} (P : TP op rd a b n A N D X Y U) (h1 : 46 ≤ op) (h2 : op ≤ 46) (w : World) :
    Calls Tryd.prog 23 #[.agg #[.int .i64 op, .int .i64 rd, .int .i64 a, .int .i64 b, .int .i32 n]] w fun e w' => e = .returned (str (A ++ 32 :: (D ++ 44 :: 40 :: (X ++ [41])))) ∧ Gr w w' := by
  have HP : Hid (TP op rd a b n A N D X Y U) := P
  have n0 := P.n0
  have n1 := P.n1
  have e1 : (op == 1) = false := by simp; omega
  have e2 : (op == 2) = false := by simp; omega
  have e3 : (op == 3) = false := by simp; omega
  have e4 : (op == 4) = false := by simp; omega
  have g19 : 19 ≤ op := by omega
  have l27 : ¬ op ≤ 27 := by omega
  have e57 : (op == 57) = false := by simp; omega
  have g5 : 5 ≤ op := by omega
  have l10 : ¬ op ≤ 10 := by omega
  have g11 : 11 ≤ op := by omega
  have l15 : ¬ op ≤ 15 := by omega
  have g16 : 16 ≤ op := by omega
  have l18 : ¬ op ≤ 18 := by omega
  have g28 : 28 ≤ op := by omega
  have l45 : ¬ op ≤ 45 := by omega
  have e46 : (op == 46) = true := by simp; omega
  have g47 : ¬ 47 ≤ op := by omega
  have l56 : op ≤ 56 := by omega
  clear P h1 h2
  go_enter Tryd.func23, Tryd.ntmps23
  go_wp2_with fail
  refine (HP.out.nm _).mono ?_
  rintro e w1 ⟨rfl, G1⟩
  have HB1 : Hid (w1.heap[w.heap.size]? = some (.cells #[.int .i64 op, .int .i64 rd, .int .i64 a, .int .i64 b, .int .i32 n] 23 (0, 0))) := upA G1 (heap_alloc_new w _)
  have HG1 : Hid (Gr w w1) := ((Gr.refl _).alloc _).trans G1
  have z0 := cr0 HB1.out
  have z1 := cr1 HB1.out
  have z2 := cr2 HB1.out
  have z3 := cr3 HB1.out
  have z4 := cr4 HB1.out
  clear G1
  go_wp2_with fail
  refine (HP.out.dn _).mono ?_
  rintro e w2 ⟨rfl, G2⟩
  have HB2 : Hid (w2.heap[w.heap.size]? = some (.cells #[.int .i64 op, .int .i64 rd, .int .i64 a, .int .i64 b, .int .i32 n] 23 (0, 0))) := upA G2 (HB1.out)
  have HG2 : Hid (Gr w w2) := HG1.out.trans G2
  have z0 := cr0 HB2.out
  have z1 := cr1 HB2.out
  have z2 := cr2 HB2.out
  have z3 := cr3 HB2.out
  have z4 := cr4 HB2.out
  clear G2 HB1 HG1
  go_wp2_with fail
  refine (HP.out.d _).mono ?_
  rintro e w3 ⟨rfl, G3⟩
  have HB3 : Hid (w3.heap[w.heap.size]? = some (.cells #[.int .i64 op, .int .i64 rd, .int .i64 a, .int .i64 b, .int .i32 n] 23 (0, 0))) := upA G3 (HB2.out)
  have HG3 : Hid (Gr w w3) := HG2.out.trans G3
  have z0 := cr0 HB3.out
  have z1 := cr1 HB3.out
  have z2 := cr2 HB3.out
  have z3 := cr3 HB3.out
  have z4 := cr4 HB3.out
  clear G3 HB2 HG2
  go_wp2_with fail
  refine (HP.out.x _).mono ?_
  rintro e w4 ⟨rfl, G4⟩
  have HB4 : Hid (w4.heap[w.heap.size]? = some (.cells #[.int .i64 op, .int .i64 rd, .int .i64 a, .int .i64 b, .int .i32 n] 23 (0, 0))) := upA G4 (HB3.out)
  have HG4 : Hid (Gr w w4) := HG3.out.trans G4
  have z0 := cr0 HB4.out
  have z1 := cr1 HB4.out
  have z2 := cr2 HB4.out
  have z3 := cr3 HB4.out
  have z4 := cr4 HB4.out
  clear G4 HB3 HG3
  go_wp2_with fail
  refine (HP.out.y _).mono ?_
  rintro e w5 ⟨rfl, G5⟩
  have HB5 : Hid (w5.heap[w.heap.size]? = some (.cells #[.int .i64 op, .int .i64 rd, .int .i64 a, .int .i64 b, .int .i32 n] 23 (0, 0))) := upA G5 (HB4.out)
  have HG5 : Hid (Gr w w5) := HG4.out.trans G5
  have z0 := cr0 HB5.out
  have z1 := cr1 HB5.out
  have z2 := cr2 HB5.out
  have z3 := cr3 HB5.out
  have z4 := cr4 HB5.out
  clear G5 HB4 HG4
  go_wp2_with (first | (refine wpList_cat rfl _ _ _ _ rfl _ [32] rfl rfl (by have := HP.out.l; simp; omega) ?_) | (refine wpList_cat rfl _ _ _ _ rfl _ [44] rfl rfl (by have := HP.out.l; simp; omega) ?_) | (refine wpList_cat rfl _ _ _ _ rfl _ [40] rfl rfl (by have := HP.out.l; simp; omega) ?_) | (refine wpList_cat rfl _ _ _ _ rfl _ [41] rfl rfl (by have := HP.out.l; simp; omega) ?_) | (refine wpList_cat rfl _ _ _ _ rfl _ [44, 40] rfl rfl (by have := HP.out.l; simp; omega) ?_) | (refine wpList_cat rfl _ _ _ _ rfl _ _ rfl rfl (by have := HP.out.l; simp; omega) ?_))
  go_ret
  exact ⟨by show Ending.returned (str _) = .returned (str _); simp, HG5.out⟩
set_option maxHeartbeats 2000000 in
set_option maxRecDepth 100000 in
theorem text_amo {op rd a b n : Int} {A N D X Y U : List Nat} (P : TP op rd a b n A N D X Y U) (h1 : 47 ≤ op) (h2 : op ≤ 56) (w : World) :
    Calls Tryd.prog 23 #[.agg #[.int .i64 op, .int .i64 rd, .int .i64 a, .int .i64 b, .int .i32 n]] w fun e w' => e = .returned (str (A ++ 32 :: (D ++ 44 :: (Y ++ 44 :: 40 :: (X ++ [41]))))) ∧ Gr w w' := by
  have HP : Hid (TP op rd a b n A N D X Y U) := P
  have n0 := P.n0
  have n1 := P.n1
  have e1 : (op == 1) = false := by simp; omega
  have e2 : (op == 2) = false := by simp; omega
  have e3 : (op == 3) = false := by simp; omega
  have e4 : (op == 4) = false := by simp; omega
  have g19 : 19 ≤ op := by omega
  have l27 : ¬ op ≤ 27 := by omega
  have e57 : (op == 57) = false := by simp; omega
  have g5 : 5 ≤ op := by omega
  have l10 : ¬ op ≤ 10 := by omega
  have g11 : 11 ≤ op := by omega
  have l15 : ¬ op ≤ 15 := by omega
  have g16 : 16 ≤ op := by omega
  have l18 : ¬ op ≤ 18 := by omega
  have g28 : 28 ≤ op := by omega
  have l45 : ¬ op ≤ 45 := by omega
  have e46 : (op == 46) = false := by simp; omega
  have g47 : 47 ≤ op := by omega
  have l56 : op ≤ 56 := by omega
  clear P h1 h2
  go_enter Tryd.func23, Tryd.ntmps23
  go_wp2_with fail
  refine (HP.out.nm _).mono ?_
  rintro e w1 ⟨rfl, G1⟩
  have HB1 : Hid (w1.heap[w.heap.size]? = some (.cells #[.int .i64 op, .int .i64 rd, .int .i64 a, .int .i64 b, .int .i32 n] 23 (0, 0))) := upA G1 (heap_alloc_new w _)
  have HG1 : Hid (Gr w w1) := ((Gr.refl _).alloc _).trans G1
  have z0 := cr0 HB1.out
  have z1 := cr1 HB1.out
  have z2 := cr2 HB1.out
  have z3 := cr3 HB1.out
  have z4 := cr4 HB1.out
  clear G1
  go_wp2_with fail
  refine (HP.out.dn _).mono ?_
  rintro e w2 ⟨rfl, G2⟩
  have HB2 : Hid (w2.heap[w.heap.size]? = some (.cells #[.int .i64 op, .int .i64 rd, .int .i64 a, .int .i64 b, .int .i32 n] 23 (0, 0))) := upA G2 (HB1.out)
  have HG2 : Hid (Gr w w2) := HG1.out.trans G2
  have z0 := cr0 HB2.out
  have z1 := cr1 HB2.out
  have z2 := cr2 HB2.out
  have z3 := cr3 HB2.out
  have z4 := cr4 HB2.out
  clear G2 HB1 HG1
  go_wp2_with fail
  refine (HP.out.d _).mono ?_
  rintro e w3 ⟨rfl, G3⟩
  have HB3 : Hid (w3.heap[w.heap.size]? = some (.cells #[.int .i64 op, .int .i64 rd, .int .i64 a, .int .i64 b, .int .i32 n] 23 (0, 0))) := upA G3 (HB2.out)
  have HG3 : Hid (Gr w w3) := HG2.out.trans G3
  have z0 := cr0 HB3.out
  have z1 := cr1 HB3.out
  have z2 := cr2 HB3.out
  have z3 := cr3 HB3.out
  have z4 := cr4 HB3.out
  clear G3 HB2 HG2
  go_wp2_with fail
  refine (HP.out.x _).mono ?_
  rintro e w4 ⟨rfl, G4⟩
  have HB4 : Hid (w4.heap[w.heap.size]? = some (.cells #[.int .i64 op, .int .i64 rd, .int .i64 a, .int .i64 b, .int .i32 n] 23 (0, 0))) := upA G4 (HB3.out)
  have HG4 : Hid (Gr w w4) := HG3.out.trans G4
  have z0 := cr0 HB4.out
  have z1 := cr1 HB4.out
  have z2 := cr2 HB4.out
  have z3 := cr3 HB4.out
  have z4 := cr4 HB4.out
  clear G4 HB3 HG3
  go_wp2_with fail
  refine (HP.out.y _).mono ?_
  rintro e w5 ⟨rfl, G5⟩
  have HB5 : Hid (w5.heap[w.heap.size]? = some (.cells #[.int .i64 op, .int .i64 rd, .int .i64 a, .int .i64 b, .int .i32 n] 23 (0, 0))) := upA G5 (HB4.out)
  have HG5 : Hid (Gr w w5) := HG4.out.trans G5
  have z0 := cr0 HB5.out
  have z1 := cr1 HB5.out
  have z2 := cr2 HB5.out
  have z3 := cr3 HB5.out
  have z4 := cr4 HB5.out
  clear G5 HB4 HG4
  go_wp2_with (first | (refine wpList_cat rfl _ _ _ _ rfl _ [32] rfl rfl (by have := HP.out.l; simp; omega) ?_) | (refine wpList_cat rfl _ _ _ _ rfl _ [44] rfl rfl (by have := HP.out.l; simp; omega) ?_) | (refine wpList_cat rfl _ _ _ _ rfl _ [40] rfl rfl (by have := HP.out.l; simp; omega) ?_) | (refine wpList_cat rfl _ _ _ _ rfl _ [41] rfl rfl (by have := HP.out.l; simp; omega) ?_) | (refine wpList_cat rfl _ _ _ _ rfl _ [44, 40] rfl rfl (by have := HP.out.l; simp; omega) ?_) | (refine wpList_cat rfl _ _ _ _ rfl _ _ rfl rfl (by have := HP.out.l; simp; omega) ?_))
  go_ret
  exact ⟨by show Ending.returned (str _) = .returned (str _); simp, HG5.out⟩
set_option maxHeartbeats 2000000 in
set_option maxRecDepth 100000 in
theorem text_sys {op rd a b n : Int} {A N D X Y U : List Nat} (P : TP op rd a b n A N D X Y U) (h1 : 58 ≤ op) (h2 : op ≤ 59) (w : World) :
    Calls Tryd.prog 23 #[.agg #[.int .i64 op, .int .i64 rd, .int .i64 a, .int .i64 b, .int .i32 n]] w fun e w' => e = .returned (str (A)) ∧ Gr w w' := by
  have HP : Hid (TP op rd a b n A N D X Y U) := P
  have n0 := P.n0
  have n1 := P.n1
  have e1 : (op == 1) = false := by simp; omega
  have e2 : (op == 2) = false := by simp; omega
  have e3 : (op == 3) = false := by simp; omega
  have e4 : (op == 4) = false := by simp; omega
  have g19 : 19 ≤ op := by omega
  have l27 : ¬ op ≤ 27 := by omega
  have e57 : (op == 57) = false := by simp; omega
  have g5 : 5 ≤ op := by omega
  have l10 : ¬ op ≤ 10 := by omega
  have g11 : 11 ≤ op := by omega
  have l15 : ¬ op ≤ 15 := by omega
  have g16 : 16 ≤ op := by omega
  have l18 : ¬ op ≤ 18 := by omega
  have g28 : 28 ≤ op := by omega
  have l45 : ¬ op ≤ 45 := by omega
  have e46 : (op == 46) = false := by simp; omega
  have g47 : 47 ≤ op := by omega
  have l56 : ¬ op ≤ 56 := by omega
  clear P h1 h2
  go_enter Tryd.func23, Tryd.ntmps23
  go_wp2_with fail
  refine (HP.out.nm _).mono ?_
  rintro e w1 ⟨rfl, G1⟩
  have HB1 : Hid (w1.heap[w.heap.size]? = some (.cells #[.int .i64 op, .int .i64 rd, .int .i64 a, .int .i64 b, .int .i32 n] 23 (0, 0))) := upA G1 (heap_alloc_new w _)
  have HG1 : Hid (Gr w w1) := ((Gr.refl _).alloc _).trans G1
  have z0 := cr0 HB1.out
  have z1 := cr1 HB1.out
  have z2 := cr2 HB1.out
  have z3 := cr3 HB1.out
  have z4 := cr4 HB1.out
  clear G1
  go_wp2_with fail
  refine (HP.out.dn _).mono ?_
  rintro e w2 ⟨rfl, G2⟩
  have HB2 : Hid (w2.heap[w.heap.size]? = some (.cells #[.int .i64 op, .int .i64 rd, .int .i64 a, .int .i64 b, .int .i32 n] 23 (0, 0))) := upA G2 (HB1.out)
  have HG2 : Hid (Gr w w2) := HG1.out.trans G2
  have z0 := cr0 HB2.out
  have z1 := cr1 HB2.out
  have z2 := cr2 HB2.out
  have z3 := cr3 HB2.out
  have z4 := cr4 HB2.out
  clear G2 HB1 HG1
  go_wp2_with fail
  refine (HP.out.d _).mono ?_
  rintro e w3 ⟨rfl, G3⟩
  have HB3 : Hid (w3.heap[w.heap.size]? = some (.cells #[.int .i64 op, .int .i64 rd, .int .i64 a, .int .i64 b, .int .i32 n] 23 (0, 0))) := upA G3 (HB2.out)
  have HG3 : Hid (Gr w w3) := HG2.out.trans G3
  have z0 := cr0 HB3.out
  have z1 := cr1 HB3.out
  have z2 := cr2 HB3.out
  have z3 := cr3 HB3.out
  have z4 := cr4 HB3.out
  clear G3 HB2 HG2
  go_wp2_with fail
  refine (HP.out.x _).mono ?_
  rintro e w4 ⟨rfl, G4⟩
  have HB4 : Hid (w4.heap[w.heap.size]? = some (.cells #[.int .i64 op, .int .i64 rd, .int .i64 a, .int .i64 b, .int .i32 n] 23 (0, 0))) := upA G4 (HB3.out)
  have HG4 : Hid (Gr w w4) := HG3.out.trans G4
  have z0 := cr0 HB4.out
  have z1 := cr1 HB4.out
  have z2 := cr2 HB4.out
  have z3 := cr3 HB4.out
  have z4 := cr4 HB4.out
  clear G4 HB3 HG3
  go_wp2_with fail
  refine (HP.out.y _).mono ?_
  rintro e w5 ⟨rfl, G5⟩
  have HB5 : Hid (w5.heap[w.heap.size]? = some (.cells #[.int .i64 op, .int .i64 rd, .int .i64 a, .int .i64 b, .int .i32 n] 23 (0, 0))) := upA G5 (HB4.out)
  have HG5 : Hid (Gr w w5) := HG4.out.trans G5
  have z0 := cr0 HB5.out
  have z1 := cr1 HB5.out
  have z2 := cr2 HB5.out
  have z3 := cr3 HB5.out
  have z4 := cr4 HB5.out
  clear G5 HB4 HG4
  go_wp2_with fail
  go_ret
  exact ⟨by show Ending.returned (str _) = .returned (str _); simp, HG5.out⟩
set_option maxHeartbeats 2000000 in
set_option maxRecDepth 100000 in
theorem text_lui {op rd a b n : Int} {A N D X Y U : List Nat} (P : TP op rd a b n A N D X Y U) (h1 : 1 ≤ op) (h2 : op ≤ 2) (w : World) :
    Calls Tryd.prog 23 #[.agg #[.int .i64 op, .int .i64 rd, .int .i64 a, .int .i64 b, .int .i32 n]] w fun e w' => e = .returned (str (A ++ 32 :: (D ++ 44 :: U))) ∧ Gr w w' := by
  have HP : Hid (TP op rd a b n A N D X Y U) := P
  have n0 := P.n0
  have n1 := P.n1
  have e3 : (op == 3) = false := by simp; omega
  have e4 : (op == 4) = false := by simp; omega
  have g19 : ¬ 19 ≤ op := by omega
  have l27 : op ≤ 27 := by omega
  have e57 : (op == 57) = false := by simp; omega
  have g5 : ¬ 5 ≤ op := by omega
  have l10 : op ≤ 10 := by omega
  have g11 : ¬ 11 ≤ op := by omega
  have l15 : op ≤ 15 := by omega
  have g16 : ¬ 16 ≤ op := by omega
  have l18 : op ≤ 18 := by omega
  have g28 : ¬ 28 ≤ op := by omega
  have l45 : op ≤ 45 := by omega
  have e46 : (op == 46) = false := by simp; omega
  have g47 : ¬ 47 ≤ op := by omega
  have l56 : op ≤ 56 := by omega
  have hs : (op == 1) = true ∨ ((op == 1) = false ∧ (op == 2) = true) := by simp; omega
  clear P h1 h2
  go_enter Tryd.func23, Tryd.ntmps23
  go_wp2_with fail
  refine (HP.out.nm _).mono ?_
  rintro e w1 ⟨rfl, G1⟩
  have HB1 : Hid (w1.heap[w.heap.size]? = some (.cells #[.int .i64 op, .int .i64 rd, .int .i64 a, .int .i64 b, .int .i32 n] 23 (0, 0))) := upA G1 (heap_alloc_new w _)
  have HG1 : Hid (Gr w w1) := ((Gr.refl _).alloc _).trans G1
  have z0 := cr0 HB1.out
  have z1 := cr1 HB1.out
  have z2 := cr2 HB1.out
  have z3 := cr3 HB1.out
  have z4 := cr4 HB1.out
  clear G1
  go_wp2_with fail
  refine (HP.out.dn _).mono ?_
  rintro e w2 ⟨rfl, G2⟩
  have HB2 : Hid (w2.heap[w.heap.size]? = some (.cells #[.int .i64 op, .int .i64 rd, .int .i64 a, .int .i64 b, .int .i32 n] 23 (0, 0))) := upA G2 (HB1.out)
  have HG2 : Hid (Gr w w2) := HG1.out.trans G2
  have z0 := cr0 HB2.out
  have z1 := cr1 HB2.out
  have z2 := cr2 HB2.out
  have z3 := cr3 HB2.out
  have z4 := cr4 HB2.out
  clear G2 HB1 HG1
  go_wp2_with fail
  refine (HP.out.d _).mono ?_
  rintro e w3 ⟨rfl, G3⟩
  have HB3 : Hid (w3.heap[w.heap.size]? = some (.cells #[.int .i64 op, .int .i64 rd, .int .i64 a, .int .i64 b, .int .i32 n] 23 (0, 0))) := upA G3 (HB2.out)
  have HG3 : Hid (Gr w w3) := HG2.out.trans G3
  have z0 := cr0 HB3.out
  have z1 := cr1 HB3.out
  have z2 := cr2 HB3.out
  have z3 := cr3 HB3.out
  have z4 := cr4 HB3.out
  clear G3 HB2 HG2
  go_wp2_with fail
  refine (HP.out.x _).mono ?_
  rintro e w4 ⟨rfl, G4⟩
  have HB4 : Hid (w4.heap[w.heap.size]? = some (.cells #[.int .i64 op, .int .i64 rd, .int .i64 a, .int .i64 b, .int .i32 n] 23 (0, 0))) := upA G4 (HB3.out)
  have HG4 : Hid (Gr w w4) := HG3.out.trans G4
  have z0 := cr0 HB4.out
  have z1 := cr1 HB4.out
  have z2 := cr2 HB4.out
  have z3 := cr3 HB4.out
  have z4 := cr4 HB4.out
  clear G4 HB3 HG3
  go_wp2_with fail
  refine (HP.out.y _).mono ?_
  rintro e w5 ⟨rfl, G5⟩
  have HB5 : Hid (w5.heap[w.heap.size]? = some (.cells #[.int .i64 op, .int .i64 rd, .int .i64 a, .int .i64 b, .int .i32 n] 23 (0, 0))) := upA G5 (HB4.out)
  have HG5 : Hid (Gr w w5) := HG4.out.trans G5
  have z0 := cr0 HB5.out
  have z1 := cr1 HB5.out
  have z2 := cr2 HB5.out
  have z3 := cr3 HB5.out
  have z4 := cr4 HB5.out
  clear G5 HB4 HG4
  rcases hs with e1 | ⟨e1, e2⟩
  all_goals
    go_wp2_with (first | (refine wpList_cat rfl _ _ _ _ rfl _ [32] rfl rfl (by have := HP.out.l; simp; omega) ?_) | (refine wpList_cat rfl _ _ _ _ rfl _ [44] rfl rfl (by have := HP.out.l; simp; omega) ?_) | (refine wpList_cat rfl _ _ _ _ rfl _ [40] rfl rfl (by have := HP.out.l; simp; omega) ?_) | (refine wpList_cat rfl _ _ _ _ rfl _ [41] rfl rfl (by have := HP.out.l; simp; omega) ?_) | (refine wpList_cat rfl _ _ _ _ rfl _ [44, 40] rfl rfl (by have := HP.out.l; simp; omega) ?_) | (refine wpList_cat rfl _ _ _ _ rfl _ _ rfl rfl (by have := HP.out.l; simp; omega) ?_))
    refine (HP.out.du _).mono ?_
    rintro e w6 ⟨rfl, G6⟩
    have HG6 : Hid (Gr w w6) := HG5.out.trans G6
    clear G6
    go_wp2_with (first | (refine wpList_cat rfl _ _ _ _ rfl _ [32] rfl rfl (by have := HP.out.l; simp; omega) ?_) | (refine wpList_cat rfl _ _ _ _ rfl _ [44] rfl rfl (by have := HP.out.l; simp; omega) ?_) | (refine wpList_cat rfl _ _ _ _ rfl _ [40] rfl rfl (by have := HP.out.l; simp; omega) ?_) | (refine wpList_cat rfl _ _ _ _ rfl _ [41] rfl rfl (by have := HP.out.l; simp; omega) ?_) | (refine wpList_cat rfl _ _ _ _ rfl _ [44, 40] rfl rfl (by have := HP.out.l; simp; omega) ?_) | (refine wpList_cat rfl _ _ _ _ rfl _ _ rfl rfl (by have := HP.out.l; simp; omega) ?_))
    go_ret
    exact ⟨by show Ending.returned (str _) = .returned (str _); simp, HG6.out⟩
end Go.Proofs.YtkdghgiajifbdaaDoor.As
