/-
  What the document's chapter 2 answers: whether Decode ever answers an instruction, by its fields ('Is'). Conditions: Imm is of 32 bits.
-/
import Derived.Test.YtkdghgiajifbdaaDoorRef2a
namespace Go.Proofs.YtkdghgiajifbdaaDoor.Re
open Go.ChangeShapes Go.WideShapes Go.ChangeAt Go.RowKit Dw
set_option linter.unusedVariables false
set_option linter.unusedSimpArgs false

set_option maxRecDepth 100000 in
set_option maxHeartbeats 4000000 in
theorem is_1 (op rd rs1 rs2 n : Int) (w : World) (h0 : -2147483648 ≤ n) (h1 : n < 2147483648) (hop : 1 ≤ op) (hop' : op ≤ 2) (a1 : 0 ≤ rd) (a2 : rd ≤ 31) (b1 : 0 ≤ rs1) (b2 : rs1 ≤ 31) (c1 : 0 ≤ rs2) (c2 : rs2 ≤ 31) :
    Calls Tryd.prog 12 #[.agg #[.int .i64 op, .int .i64 rd, .int .i64 rs1, .int .i64 rs2, .int .i32 n]] w fun e w' => e = .returned (.bool (decide (rs1 = 0 ∧ rs2 = 0 ∧ n.tmod 4096 = 0))) ∧ Gr w w' := by
  have e3 : (op == 3) = false := by simp; omega
  have e4 : (op == 4) = false := by simp; omega
  have e57 : (op == 57) = false := by simp; omega
  generalize ht : decide (rs1 = 0 ∧ rs2 = 0 ∧ n.tmod 4096 = 0) = t
  have HT : Hid _ := ht
  clear ht
  go_enter Tryd.func12, Tryd.ntmps12
  go_wp2
  all_goals
    go_ret
    refine ⟨?_, ((Gr.refl _).alloc _ _).alloc _ _⟩
    have h := HT.out
    clear HT
    subst h
    refine ret_bool ?_
    rw [Bool.eq_iff_iff]
    simp <;> omega
set_option maxRecDepth 100000 in
set_option maxHeartbeats 4000000 in
theorem is_3 (op rd rs1 rs2 n : Int) (w : World) (h0 : -2147483648 ≤ n) (h1 : n < 2147483648) (hop : op = 3) (a1 : 0 ≤ rd) (a2 : rd ≤ 31) (b1 : 0 ≤ rs1) (b2 : rs1 ≤ 31) (c1 : 0 ≤ rs2) (c2 : rs2 ≤ 31) :
    Calls Tryd.prog 12 #[.agg #[.int .i64 op, .int .i64 rd, .int .i64 rs1, .int .i64 rs2, .int .i32 n]] w fun e w' => e = .returned (.bool (decide (rs1 = 0 ∧ rs2 = 0 ∧ -1048576 ≤ n ∧ n ≤ 1048574 ∧ n.tmod 2 = 0))) ∧ Gr w w' := by
  subst hop
  generalize ht : decide (rs1 = 0 ∧ rs2 = 0 ∧ -1048576 ≤ n ∧ n ≤ 1048574 ∧ n.tmod 2 = 0) = t
  have HT : Hid _ := ht
  clear ht
  go_enter Tryd.func12, Tryd.ntmps12
  go_wp2
  all_goals
    go_ret
    refine ⟨?_, ((Gr.refl _).alloc _ _).alloc _ _⟩
    have h := HT.out
    clear HT
    subst h
    refine ret_bool ?_
    rw [Bool.eq_iff_iff]
    simp <;> omega
set_option maxRecDepth 100000 in
set_option maxHeartbeats 4000000 in
theorem is_4 (op rd rs1 rs2 n : Int) (w : World) (h0 : -2147483648 ≤ n) (h1 : n < 2147483648) (hop : op = 4) (a1 : 0 ≤ rd) (a2 : rd ≤ 31) (b1 : 0 ≤ rs1) (b2 : rs1 ≤ 31) (c1 : 0 ≤ rs2) (c2 : rs2 ≤ 31) :
    Calls Tryd.prog 12 #[.agg #[.int .i64 op, .int .i64 rd, .int .i64 rs1, .int .i64 rs2, .int .i32 n]] w fun e w' => e = .returned (.bool (decide (rs2 = 0 ∧ -2048 ≤ n ∧ n ≤ 2047))) ∧ Gr w w' := by
  subst hop
  generalize ht : decide (rs2 = 0 ∧ -2048 ≤ n ∧ n ≤ 2047) = t
  have HT : Hid _ := ht
  clear ht
  go_enter Tryd.func12, Tryd.ntmps12
  go_wp2
  all_goals
    go_ret
    refine ⟨?_, ((Gr.refl _).alloc _ _).alloc _ _⟩
    have h := HT.out
    clear HT
    subst h
    refine ret_bool ?_
    rw [Bool.eq_iff_iff]
    simp <;> omega
set_option maxRecDepth 100000 in
set_option maxHeartbeats 4000000 in
theorem is_5 (op rd rs1 rs2 n : Int) (w : World) (h0 : -2147483648 ≤ n) (h1 : n < 2147483648) (hop : 5 ≤ op) (hop' : op ≤ 10) (a1 : 0 ≤ rd) (a2 : rd ≤ 31) (b1 : 0 ≤ rs1) (b2 : rs1 ≤ 31) (c1 : 0 ≤ rs2) (c2 : rs2 ≤ 31) :
    Calls Tryd.prog 12 #[.agg #[.int .i64 op, .int .i64 rd, .int .i64 rs1, .int .i64 rs2, .int .i32 n]] w fun e w' => e = .returned (.bool (decide (rd = 0 ∧ -4096 ≤ n ∧ n ≤ 4094 ∧ n.tmod 2 = 0))) ∧ Gr w w' := by
  have e3 : (op == 3) = false := by simp; omega
  have e4 : (op == 4) = false := by simp; omega
  have e57 : (op == 57) = false := by simp; omega
  generalize ht : decide (rd = 0 ∧ -4096 ≤ n ∧ n ≤ 4094 ∧ n.tmod 2 = 0) = t
  have HT : Hid _ := ht
  clear ht
  go_enter Tryd.func12, Tryd.ntmps12
  go_wp2
  all_goals
    go_ret
    refine ⟨?_, ((Gr.refl _).alloc _ _).alloc _ _⟩
    have h := HT.out
    clear HT
    subst h
    refine ret_bool ?_
    rw [Bool.eq_iff_iff]
    simp <;> omega
end Go.Proofs.YtkdghgiajifbdaaDoor.Re
