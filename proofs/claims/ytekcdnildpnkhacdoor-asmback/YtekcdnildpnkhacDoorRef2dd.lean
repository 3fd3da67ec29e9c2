/-
  What the document's chapter 2 answers: whether Decode ever answers an instruction, by its fields ('Is'). Conditions: Imm is of 32 bits.
-/
import Derived.Test.YtekcdnildpnkhacDoorRef2a
import Derived.Test.YtekcdnildpnkhacDoorRef2da
import Derived.Test.YtekcdnildpnkhacDoorRef2db
import Derived.Test.YtekcdnildpnkhacDoorRef2dc
namespace Go.Proofs.YtekcdnildpnkhacDoor.Re
open Go.ChangeShapes Go.WideShapes Go.ChangeAt Go.RowKit Dw
set_option linter.unusedVariables false
set_option linter.unusedSimpArgs false

variable {op rd rs1 rs2 n : Int} {w : World} {f : FuncId} {args : Array Value}
/-- The fields of an instruction that Decode answers. -/
def IsP (op rd rs1 rs2 n : Int) : Prop := (1 ≤ op ∧ op ≤ 59 ∧ 0 ≤ rd ∧ rd ≤ 31 ∧ 0 ≤ rs1 ∧ rs1 ≤ 31 ∧ 0 ≤ rs2 ∧ rs2 ≤ 31) ∧
  ((1 ≤ op ∧ op ≤ 2 ∧ rs1 = 0 ∧ rs2 = 0 ∧ n.tmod 4096 = 0) ∨ (3 ≤ op ∧ op ≤ 3 ∧ rs1 = 0 ∧ rs2 = 0 ∧ -1048576 ≤ n ∧ n ≤ 1048574 ∧ n.tmod 2 = 0) ∨ (4 ≤ op ∧ op ≤ 4 ∧ rs2 = 0 ∧ -2048 ≤ n ∧ n ≤ 2047) ∨ (5 ≤ op ∧ op ≤ 10 ∧ rd = 0 ∧ -4096 ≤ n ∧ n ≤ 4094 ∧ n.tmod 2 = 0) ∨ (11 ≤ op ∧ op ≤ 15 ∧ rs2 = 0 ∧ -2048 ≤ n ∧ n ≤ 2047) ∨ (16 ≤ op ∧ op ≤ 18 ∧ rd = 0 ∧ -2048 ≤ n ∧ n ≤ 2047) ∨ (19 ≤ op ∧ op ≤ 24 ∧ rs2 = 0 ∧ -2048 ≤ n ∧ n ≤ 2047) ∨ (25 ≤ op ∧ op ≤ 27 ∧ rs2 = 0 ∧ 0 ≤ n ∧ n ≤ 31) ∨ (28 ≤ op ∧ op ≤ 45 ∧ n = 0) ∨ (46 ≤ op ∧ op ≤ 56 ∧ 0 ≤ n ∧ n ≤ 3 ∧ (op ≠ 46 ∨ rs2 = 0)) ∨ (57 ≤ op ∧ op ≤ 57 ∧ rs2 = 0 ∧ -2048 ≤ n ∧ n ≤ 2047) ∨ (58 ≤ op ∧ op ≤ 59 ∧ rd = 0 ∧ rs1 = 0 ∧ rs2 = 0 ∧ n = 0))
/-- What Is answers. -/
def IsE (op rd rs1 rs2 n : Int) (w : World) (e : Ending) (w' : World) : Prop := (∃ b, e = .returned (.bool b) ∧ (b = true ↔ IsP op rd rs1 rs2 n)) ∧ Gr w w'
theorem isE_no (h : Calls Tryd.prog f args w fun e w' => e = .returned (.bool false) ∧ Gr w w') (hn : ¬ IsP op rd rs1 rs2 n) : Calls Tryd.prog f args w (IsE op rd rs1 rs2 n w) :=
  h.mono fun e w' hh => ⟨⟨false, hh.1, ⟨fun h => (Bool.noConfusion h), fun h => absurd h hn⟩⟩, hh.2⟩
theorem isE_yes {c : Prop} [Decidable c] (h : Calls Tryd.prog f args w fun e w' => e = .returned (.bool (decide c)) ∧ Gr w w') (hc : c ↔ IsP op rd rs1 rs2 n) : Calls Tryd.prog f args w (IsE op rd rs1 rs2 n w) :=
  h.mono fun e w' hh => ⟨⟨_, hh.1, by rw [decide_eq_true_iff]; exact hc⟩, hh.2⟩
end Go.Proofs.YtekcdnildpnkhacDoor.Re
