/-
  What the document's chapter 2 answers: whether Decode ever answers an instruction, by its fields ('Is'). Conditions: Imm is of 32 bits.
-/
import Derived.Test.YtkdghgiajifbdaaDoorRef2a
import Derived.Test.YtkdghgiajifbdaaDoorRef2da
import Derived.Test.YtkdghgiajifbdaaDoorRef2db
import Derived.Test.YtkdghgiajifbdaaDoorRef2dc
namespace Go.Proofs.YtkdghgiajifbdaaDoor.Re
open Go.ChangeShapes Go.WideShapes Go.ChangeAt Go.RowKit Dw
set_option linter.unusedVariables false
set_option linter.unusedSimpArgs false

variable {op rd rs1 rs2 n : Int} {w : World} {f : FuncId} {args : Array Value}
set_option maxRecDepth 100000 in
set_option maxHeartbeats 4000000 in
theorem is_out0 (op rd rs1 rs2 n : Int) (w : World)  (h : op < 1) :
    Calls Tryd.prog 12 #[.agg #[.int .i64 op, .int .i64 rd, .int .i64 rs1, .int .i64 rs2, .int .i32 n]] w fun e w' => e = .returned (.bool false) ∧ Gr w w' := by
  go_enter Tryd.func12, Tryd.ntmps12
  go_wp2
  go_ret
  exact ⟨rfl, (Gr.refl _).alloc _ _⟩
set_option maxRecDepth 100000 in
set_option maxHeartbeats 4000000 in
theorem is_out1 (op rd rs1 rs2 n : Int) (w : World) (k1 : 1 ≤ op) (h : 59 < op) :
    Calls Tryd.prog 12 #[.agg #[.int .i64 op, .int .i64 rd, .int .i64 rs1, .int .i64 rs2, .int .i32 n]] w fun e w' => e = .returned (.bool false) ∧ Gr w w' := by
  go_enter Tryd.func12, Tryd.ntmps12
  go_wp2
  go_ret
  exact ⟨rfl, (Gr.refl _).alloc _ _⟩
set_option maxRecDepth 100000 in
set_option maxHeartbeats 4000000 in
theorem is_out2 (op rd rs1 rs2 n : Int) (w : World) (k1 : 1 ≤ op) (k2 : op ≤ 59) (h : rd < 0) :
    Calls Tryd.prog 12 #[.agg #[.int .i64 op, .int .i64 rd, .int .i64 rs1, .int .i64 rs2, .int .i32 n]] w fun e w' => e = .returned (.bool false) ∧ Gr w w' := by
  go_enter Tryd.func12, Tryd.ntmps12
  go_wp2
  go_ret
  exact ⟨rfl, (Gr.refl _).alloc _ _⟩
set_option maxRecDepth 100000 in
set_option maxHeartbeats 4000000 in
theorem is_out3 (op rd rs1 rs2 n : Int) (w : World) (k1 : 1 ≤ op) (k2 : op ≤ 59) (k3 : 0 ≤ rd) (h : 31 < rd) :
    Calls Tryd.prog 12 #[.agg #[.int .i64 op, .int .i64 rd, .int .i64 rs1, .int .i64 rs2, .int .i32 n]] w fun e w' => e = .returned (.bool false) ∧ Gr w w' := by
  go_enter Tryd.func12, Tryd.ntmps12
  go_wp2
  go_ret
  exact ⟨rfl, (Gr.refl _).alloc _ _⟩
set_option maxRecDepth 100000 in
set_option maxHeartbeats 4000000 in
theorem is_out4 (op rd rs1 rs2 n : Int) (w : World) (k1 : 1 ≤ op) (k2 : op ≤ 59) (k3 : 0 ≤ rd) (k4 : rd ≤ 31) (h : rs1 < 0) :
    Calls Tryd.prog 12 #[.agg #[.int .i64 op, .int .i64 rd, .int .i64 rs1, .int .i64 rs2, .int .i32 n]] w fun e w' => e = .returned (.bool false) ∧ Gr w w' := by
  go_enter Tryd.func12, Tryd.ntmps12
  go_wp2
  go_ret
  exact ⟨rfl, (Gr.refl _).alloc _ _⟩
set_option maxRecDepth 100000 in
set_option maxHeartbeats 4000000 in
theorem is_out5 (op rd rs1 rs2 n : Int) (w : World) (k1 : 1 ≤ op) (k2 : op ≤ 59) (k3 : 0 ≤ rd) (k4 : rd ≤ 31) (k5 : 0 ≤ rs1) (h : 31 < rs1) :
    Calls Tryd.prog 12 #[.agg #[.int .i64 op, .int .i64 rd, .int .i64 rs1, .int .i64 rs2, .int .i32 n]] w fun e w' => e = .returned (.bool false) ∧ Gr w w' := by
  go_enter Tryd.func12, Tryd.ntmps12
  go_wp2
  go_ret
  exact ⟨rfl, (Gr.refl _).alloc _ _⟩
set_option maxRecDepth 100000 in
set_option maxHeartbeats 4000000 in
theorem is_out6 (op rd rs1 rs2 n : Int) (w : World) (k1 : 1 ≤ op) (k2 : op ≤ 59) (k3 : 0 ≤ rd) (k4 : rd ≤ 31) (k5 : 0 ≤ rs1) (k6 : rs1 ≤ 31) (h : rs2 < 0) :
    Calls Tryd.prog 12 #[.agg #[.int .i64 op, .int .i64 rd, .int .i64 rs1, .int .i64 rs2, .int .i32 n]] w fun e w' => e = .returned (.bool false) ∧ Gr w w' := by
  go_enter Tryd.func12, Tryd.ntmps12
  go_wp2
  go_ret
  exact ⟨rfl, (Gr.refl _).alloc _ _⟩
set_option maxRecDepth 100000 in
set_option maxHeartbeats 4000000 in
theorem is_out7 (op rd rs1 rs2 n : Int) (w : World) (k1 : 1 ≤ op) (k2 : op ≤ 59) (k3 : 0 ≤ rd) (k4 : rd ≤ 31) (k5 : 0 ≤ rs1) (k6 : rs1 ≤ 31) (k7 : 0 ≤ rs2) (h : 31 < rs2) :
    Calls Tryd.prog 12 #[.agg #[.int .i64 op, .int .i64 rd, .int .i64 rs1, .int .i64 rs2, .int .i32 n]] w fun e w' => e = .returned (.bool false) ∧ Gr w w' := by
  go_enter Tryd.func12, Tryd.ntmps12
  go_wp2
  go_ret
  exact ⟨rfl, (Gr.refl _).alloc _ _⟩
/-- The fields of an instruction that Decode answers. -/
def IsP (op rd rs1 rs2 n : Int) : Prop := (1 ≤ op ∧ op ≤ 59 ∧ 0 ≤ rd ∧ rd ≤ 31 ∧ 0 ≤ rs1 ∧ rs1 ≤ 31 ∧ 0 ≤ rs2 ∧ rs2 ≤ 31) ∧
  ((1 ≤ op ∧ op ≤ 2 ∧ rs1 = 0 ∧ rs2 = 0 ∧ n.tmod 4096 = 0) ∨ (3 ≤ op ∧ op ≤ 3 ∧ rs1 = 0 ∧ rs2 = 0 ∧ -1048576 ≤ n ∧ n ≤ 1048574 ∧ n.tmod 2 = 0) ∨ (4 ≤ op ∧ op ≤ 4 ∧ rs2 = 0 ∧ -2048 ≤ n ∧ n ≤ 2047) ∨ (5 ≤ op ∧ op ≤ 10 ∧ rd = 0 ∧ -4096 ≤ n ∧ n ≤ 4094 ∧ n.tmod 2 = 0) ∨ (11 ≤ op ∧ op ≤ 15 ∧ rs2 = 0 ∧ -2048 ≤ n ∧ n ≤ 2047) ∨ (16 ≤ op ∧ op ≤ 18 ∧ rd = 0 ∧ -2048 ≤ n ∧ n ≤ 2047) ∨ (19 ≤ op ∧ op ≤ 24 ∧ rs2 = 0 ∧ -2048 ≤ n ∧ n ≤ 2047) ∨ (25 ≤ op ∧ op ≤ 27 ∧ rs2 = 0 ∧ 0 ≤ n ∧ n ≤ 31) ∨ (28 ≤ op ∧ op ≤ 45 ∧ n = 0) ∨ (46 ≤ op ∧ op ≤ 56 ∧ 0 ≤ n ∧ n ≤ 3 ∧ (op ≠ 46 ∨ rs2 = 0)) ∨ (57 ≤ op ∧ op ≤ 57 ∧ rs2 = 0 ∧ -2048 ≤ n ∧ n ≤ 2047) ∨ (58 ≤ op ∧ op ≤ 59 ∧ rd = 0 ∧ rs1 = 0 ∧ rs2 = 0 ∧ n = 0))
/-- What Is answers. -/
def IsE (op rd rs1 rs2 n : Int) (w : World) (e : Ending) (w' : World) : Prop := (∃ b, e = .returned (.bool b) ∧ (b = true ↔ IsP op rd rs1 rs2 n)) ∧ Gr w w'
theorem isE_no (h : Calls Tryd.prog f args w fun e w' => e = .returned (.bool false) ∧ Gr w w') (hn : ¬ IsP op rd rs1 rs2 n) : Calls Tryd.prog f args w (IsE op rd rs1 rs2 n w) :=
  h.mono fun e w' hh => ⟨⟨false, hh.1, ⟨fun h => (Bool.noConfusion h), fun h => absurd h hn⟩⟩, hh.2⟩
theorem isE_yes {c : Prop} [Decidable c] (h : Calls Tryd.prog f args w fun e w' => e = .returned (.bool (decide c)) ∧ Gr w w') (hc : c ↔ IsP op rd rs1 rs2 n) : Calls Tryd.prog f args w (IsE op rd rs1 rs2 n w) :=
  h.mono fun e w' hh => ⟨⟨_, hh.1, by rw [decide_eq_true_iff]; exact hc⟩, hh.2⟩
theorem Is_any (op rd rs1 rs2 n : Int) (w : World) (h0 : -2147483648 ≤ n) (h1 : n < 2147483648) :
    Calls Tryd.prog 12 #[.agg #[.int .i64 op, .int .i64 rd, .int .i64 rs1, .int .i64 rs2, .int .i32 n]] w (IsE op rd rs1 rs2 n w) := by
  by_cases t0 : op < 1
  · exact isE_no (is_out0 op rd rs1 rs2 n w  t0) (fun h => by have := h.1; omega)
  by_cases t1 : 59 < op
  · exact isE_no (is_out1 op rd rs1 rs2 n w (by omega) t1) (fun h => by have := h.1; omega)
  by_cases t2 : rd < 0
  · exact isE_no (is_out2 op rd rs1 rs2 n w (by omega) (by omega) t2) (fun h => by have := h.1; omega)
  by_cases t3 : 31 < rd
  · exact isE_no (is_out3 op rd rs1 rs2 n w (by omega) (by omega) (by omega) t3) (fun h => by have := h.1; omega)
  by_cases t4 : rs1 < 0
  · exact isE_no (is_out4 op rd rs1 rs2 n w (by omega) (by omega) (by omega) (by omega) t4) (fun h => by have := h.1; omega)
  by_cases t5 : 31 < rs1
  · exact isE_no (is_out5 op rd rs1 rs2 n w (by omega) (by omega) (by omega) (by omega) (by omega) t5) (fun h => by have := h.1; omega)
  by_cases t6 : rs2 < 0
  · exact isE_no (is_out6 op rd rs1 rs2 n w (by omega) (by omega) (by omega) (by omega) (by omega) (by omega) t6) (fun h => by have := h.1; omega)
  by_cases t7 : 31 < rs2
  · exact isE_no (is_out7 op rd rs1 rs2 n w (by omega) (by omega) (by omega) (by omega) (by omega) (by omega) (by omega) t7) (fun h => by have := h.1; omega)
  by_cases u1 : op ≤ 2
  · refine isE_yes (is_1 op rd rs1 rs2 n w h0 h1 (by omega) (by omega) (by omega) (by omega) (by omega) (by omega) (by omega) (by omega)) ?_
    refine ⟨fun h => ⟨⟨by omega, by omega, by omega, by omega, by omega, by omega, by omega, by omega⟩, Or.inl ⟨by omega, by omega, h⟩⟩, fun h => ?_⟩
    rcases h.2 with ⟨p, q, r⟩ | ⟨p, q, r⟩ | ⟨p, q, r⟩ | ⟨p, q, r⟩ | ⟨p, q, r⟩ | ⟨p, q, r⟩ | ⟨p, q, r⟩ | ⟨p, q, r⟩ | ⟨p, q, r⟩ | ⟨p, q, r⟩ | ⟨p, q, r⟩ | ⟨p, q, r⟩
    · exact r
    · omega
    · omega
    · omega
    · omega
    · omega
    · omega
    · omega
    · omega
    · omega
    · omega
    · omega
  by_cases u3 : op ≤ 3
  · refine isE_yes (is_3 op rd rs1 rs2 n w h0 h1 (by omega) (by omega) (by omega) (by omega) (by omega) (by omega) (by omega)) ?_
    refine ⟨fun h => ⟨⟨by omega, by omega, by omega, by omega, by omega, by omega, by omega, by omega⟩, Or.inr (Or.inl ⟨by omega, by omega, h⟩)⟩, fun h => ?_⟩
    rcases h.2 with ⟨p, q, r⟩ | ⟨p, q, r⟩ | ⟨p, q, r⟩ | ⟨p, q, r⟩ | ⟨p, q, r⟩ | ⟨p, q, r⟩ | ⟨p, q, r⟩ | ⟨p, q, r⟩ | ⟨p, q, r⟩ | ⟨p, q, r⟩ | ⟨p, q, r⟩ | ⟨p, q, r⟩
    · omega
    · exact r
    · omega
    · omega
    · omega
    · omega
    · omega
    · omega
    · omega
    · omega
    · omega
    · omega
  by_cases u4 : op ≤ 4
  · refine isE_yes (is_4 op rd rs1 rs2 n w h0 h1 (by omega) (by omega) (by omega) (by omega) (by omega) (by omega) (by omega)) ?_
    refine ⟨fun h => ⟨⟨by omega, by omega, by omega, by omega, by omega, by omega, by omega, by omega⟩, Or.inr (Or.inr (Or.inl ⟨by omega, by omega, h⟩))⟩, fun h => ?_⟩
    rcases h.2 with ⟨p, q, r⟩ | ⟨p, q, r⟩ | ⟨p, q, r⟩ | ⟨p, q, r⟩ | ⟨p, q, r⟩ | ⟨p, q, r⟩ | ⟨p, q, r⟩ | ⟨p, q, r⟩ | ⟨p, q, r⟩ | ⟨p, q, r⟩ | ⟨p, q, r⟩ | ⟨p, q, r⟩
    · omega
    · omega
    · exact r
    · omega
    · omega
    · omega
    · omega
    · omega
    · omega
    · omega
    · omega
    · omega
  by_cases u5 : op ≤ 10
  · refine isE_yes (is_5 op rd rs1 rs2 n w h0 h1 (by omega) (by omega) (by omega) (by omega) (by omega) (by omega) (by omega) (by omega)) ?_
    refine ⟨fun h => ⟨⟨by omega, by omega, by omega, by omega, by omega, by omega, by omega, by omega⟩, Or.inr (Or.inr (Or.inr (Or.inl ⟨by omega, by omega, h⟩)))⟩, fun h => ?_⟩
    rcases h.2 with ⟨p, q, r⟩ | ⟨p, q, r⟩ | ⟨p, q, r⟩ | ⟨p, q, r⟩ | ⟨p, q, r⟩ | ⟨p, q, r⟩ | ⟨p, q, r⟩ | ⟨p, q, r⟩ | ⟨p, q, r⟩ | ⟨p, q, r⟩ | ⟨p, q, r⟩ | ⟨p, q, r⟩
    · omega
    · omega
    · omega
    · exact r
    · omega
    · omega
    · omega
    · omega
    · omega
    · omega
    · omega
    · omega
  by_cases u11 : op ≤ 15
  · refine isE_yes (is_11 op rd rs1 rs2 n w h0 h1 (by omega) (by omega) (by omega) (by omega) (by omega) (by omega) (by omega) (by omega)) ?_
    refine ⟨fun h => ⟨⟨by omega, by omega, by omega, by omega, by omega, by omega, by omega, by omega⟩, Or.inr (Or.inr (Or.inr (Or.inr (Or.inl ⟨by omega, by omega, h⟩))))⟩, fun h => ?_⟩
    rcases h.2 with ⟨p, q, r⟩ | ⟨p, q, r⟩ | ⟨p, q, r⟩ | ⟨p, q, r⟩ | ⟨p, q, r⟩ | ⟨p, q, r⟩ | ⟨p, q, r⟩ | ⟨p, q, r⟩ | ⟨p, q, r⟩ | ⟨p, q, r⟩ | ⟨p, q, r⟩ | ⟨p, q, r⟩
    · omega
    · omega
    · omega
    · omega
    · exact r
    · omega
    · omega
    · omega
    · omega
    · omega
    · omega
    · omega
  by_cases u16 : op ≤ 18
  · refine isE_yes (is_16 op rd rs1 rs2 n w h0 h1 (by omega) (by omega) (by omega) (by omega) (by omega) (by omega) (by omega) (by omega)) ?_
    refine ⟨fun h => ⟨⟨by omega, by omega, by omega, by omega, by omega, by omega, by omega, by omega⟩, Or.inr (Or.inr (Or.inr (Or.inr (Or.inr (Or.inl ⟨by omega, by omega, h⟩)))))⟩, fun h => ?_⟩
    rcases h.2 with ⟨p, q, r⟩ | ⟨p, q, r⟩ | ⟨p, q, r⟩ | ⟨p, q, r⟩ | ⟨p, q, r⟩ | ⟨p, q, r⟩ | ⟨p, q, r⟩ | ⟨p, q, r⟩ | ⟨p, q, r⟩ | ⟨p, q, r⟩ | ⟨p, q, r⟩ | ⟨p, q, r⟩
    · omega
    · omega
    · omega
    · omega
    · omega
    · exact r
    · omega
    · omega
    · omega
    · omega
    · omega
    · omega
  by_cases u19 : op ≤ 24
  · refine isE_yes (is_19 op rd rs1 rs2 n w h0 h1 (by omega) (by omega) (by omega) (by omega) (by omega) (by omega) (by omega) (by omega)) ?_
    refine ⟨fun h => ⟨⟨by omega, by omega, by omega, by omega, by omega, by omega, by omega, by omega⟩, Or.inr (Or.inr (Or.inr (Or.inr (Or.inr (Or.inr (Or.inl ⟨by omega, by omega, h⟩))))))⟩, fun h => ?_⟩
    rcases h.2 with ⟨p, q, r⟩ | ⟨p, q, r⟩ | ⟨p, q, r⟩ | ⟨p, q, r⟩ | ⟨p, q, r⟩ | ⟨p, q, r⟩ | ⟨p, q, r⟩ | ⟨p, q, r⟩ | ⟨p, q, r⟩ | ⟨p, q, r⟩ | ⟨p, q, r⟩ | ⟨p, q, r⟩
    · omega
    · omega
    · omega
    · omega
    · omega
    · omega
    · exact r
    · omega
    · omega
    · omega
    · omega
    · omega
  by_cases u25 : op ≤ 27
  · refine isE_yes (is_25 op rd rs1 rs2 n w h0 h1 (by omega) (by omega) (by omega) (by omega) (by omega) (by omega) (by omega) (by omega)) ?_
    refine ⟨fun h => ⟨⟨by omega, by omega, by omega, by omega, by omega, by omega, by omega, by omega⟩, Or.inr (Or.inr (Or.inr (Or.inr (Or.inr (Or.inr (Or.inr (Or.inl ⟨by omega, by omega, h⟩)))))))⟩, fun h => ?_⟩
    rcases h.2 with ⟨p, q, r⟩ | ⟨p, q, r⟩ | ⟨p, q, r⟩ | ⟨p, q, r⟩ | ⟨p, q, r⟩ | ⟨p, q, r⟩ | ⟨p, q, r⟩ | ⟨p, q, r⟩ | ⟨p, q, r⟩ | ⟨p, q, r⟩ | ⟨p, q, r⟩ | ⟨p, q, r⟩
    · omega
    · omega
    · omega
    · omega
    · omega
    · omega
    · omega
    · exact r
    · omega
    · omega
    · omega
    · omega
  by_cases u28 : op ≤ 45
  · refine isE_yes (is_28 op rd rs1 rs2 n w h0 h1 (by omega) (by omega) (by omega) (by omega) (by omega) (by omega) (by omega) (by omega)) ?_
    refine ⟨fun h => ⟨⟨by omega, by omega, by omega, by omega, by omega, by omega, by omega, by omega⟩, Or.inr (Or.inr (Or.inr (Or.inr (Or.inr (Or.inr (Or.inr (Or.inr (Or.inl ⟨by omega, by omega, h⟩))))))))⟩, fun h => ?_⟩
    rcases h.2 with ⟨p, q, r⟩ | ⟨p, q, r⟩ | ⟨p, q, r⟩ | ⟨p, q, r⟩ | ⟨p, q, r⟩ | ⟨p, q, r⟩ | ⟨p, q, r⟩ | ⟨p, q, r⟩ | ⟨p, q, r⟩ | ⟨p, q, r⟩ | ⟨p, q, r⟩ | ⟨p, q, r⟩
    · omega
    · omega
    · omega
    · omega
    · omega
    · omega
    · omega
    · omega
    · exact r
    · omega
    · omega
    · omega
  by_cases u46 : op ≤ 56
  · refine isE_yes (is_46 op rd rs1 rs2 n w h0 h1 (by omega) (by omega) (by omega) (by omega) (by omega) (by omega) (by omega) (by omega)) ?_
    refine ⟨fun h => ⟨⟨by omega, by omega, by omega, by omega, by omega, by omega, by omega, by omega⟩, Or.inr (Or.inr (Or.inr (Or.inr (Or.inr (Or.inr (Or.inr (Or.inr (Or.inr (Or.inl ⟨by omega, by omega, h⟩)))))))))⟩, fun h => ?_⟩
    rcases h.2 with ⟨p, q, r⟩ | ⟨p, q, r⟩ | ⟨p, q, r⟩ | ⟨p, q, r⟩ | ⟨p, q, r⟩ | ⟨p, q, r⟩ | ⟨p, q, r⟩ | ⟨p, q, r⟩ | ⟨p, q, r⟩ | ⟨p, q, r⟩ | ⟨p, q, r⟩ | ⟨p, q, r⟩
    · omega
    · omega
    · omega
    · omega
    · omega
    · omega
    · omega
    · omega
    · omega
    · exact r
    · omega
    · omega
  by_cases u57 : op ≤ 57
  · refine isE_yes (is_57 op rd rs1 rs2 n w h0 h1 (by omega) (by omega) (by omega) (by omega) (by omega) (by omega) (by omega)) ?_
    refine ⟨fun h => ⟨⟨by omega, by omega, by omega, by omega, by omega, by omega, by omega, by omega⟩, Or.inr (Or.inr (Or.inr (Or.inr (Or.inr (Or.inr (Or.inr (Or.inr (Or.inr (Or.inr (Or.inl ⟨by omega, by omega, h⟩))))))))))⟩, fun h => ?_⟩
    rcases h.2 with ⟨p, q, r⟩ | ⟨p, q, r⟩ | ⟨p, q, r⟩ | ⟨p, q, r⟩ | ⟨p, q, r⟩ | ⟨p, q, r⟩ | ⟨p, q, r⟩ | ⟨p, q, r⟩ | ⟨p, q, r⟩ | ⟨p, q, r⟩ | ⟨p, q, r⟩ | ⟨p, q, r⟩
    · omega
    · omega
    · omega
    · omega
    · omega
    · omega
    · omega
    · omega
    · omega
    · omega
    · exact r
    · omega
  · refine isE_yes (is_58 op rd rs1 rs2 n w h0 h1 (by omega) (by omega) (by omega) (by omega) (by omega) (by omega) (by omega) (by omega)) ?_
    refine ⟨fun h => ⟨⟨by omega, by omega, by omega, by omega, by omega, by omega, by omega, by omega⟩, Or.inr (Or.inr (Or.inr (Or.inr (Or.inr (Or.inr (Or.inr (Or.inr (Or.inr (Or.inr (Or.inr (⟨by omega, by omega, h⟩)))))))))))⟩, fun h => ?_⟩
    rcases h.2 with ⟨p, q, r⟩ | ⟨p, q, r⟩ | ⟨p, q, r⟩ | ⟨p, q, r⟩ | ⟨p, q, r⟩ | ⟨p, q, r⟩ | ⟨p, q, r⟩ | ⟨p, q, r⟩ | ⟨p, q, r⟩ | ⟨p, q, r⟩ | ⟨p, q, r⟩ | ⟨p, q, r⟩
    · omega
    · omega
    · omega
    · omega
    · omega
    · omega
    · omega
    · omega
    · omega
    · omega
    · omega
    · exact r
end Go.Proofs.YtkdghgiajifbdaaDoor.Re
