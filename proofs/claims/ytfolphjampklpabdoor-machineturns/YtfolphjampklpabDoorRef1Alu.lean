/-
  What the functions Alu, Holds and Amo of package ferrybridgeref1 return, for every operation and every two words: 'Wd.alu', 'Wd.holds', 'Wd.amo', and nothing in memory turns. Conditions: the words are from 0 to 2^32 - 1.
-/
import Derived.Test.YtfolphjampklpabDoorRef1Walks
import Derived.Deep.QuietTactic
import Derived.BigQuiet
import Derived.Deep.RegionWith
namespace Go.Proofs.YtfolphjampklpabDoor.Rw
open Go.ChangeShapes Go.WideShapes Go.ChangeAt Go.RowKit
set_option linter.unusedVariables false

theorem drawn {P : Program} {f : FuncId} {args : Array Value} {w : World} {v : Value} (h : Calls P f args w fun e w' => e = .returned v ∧ w' = w) : Calls P f args w fun e w' => e = .returned v ∧ ∃ m, w' = w.drewN m :=
  h.mono fun _ _ ⟨he, hm⟩ => ⟨he, 0, hm⟩
theorem lo_lo (n : Int) : Wd.lo (Wd.lo n) = Wd.lo n := by unfold Wd.lo; omega
theorem lo_self {n : Int} (h : 0 ≤ n) (h' : n < 4294967296) : Wd.lo n = n := by unfold Wd.lo; omega
theorem div_bd {a p : Int} (ha : 0 ≤ a) (ha' : a < 4294967296) (hp : 1 ≤ p) : 0 ≤ a / p ∧ a / p < 4294967296 :=
  ⟨Int.ediv_nonneg ha (by omega), Int.lt_of_le_of_lt (Int.ediv_le_self _ ha) ha'⟩
theorem sdiv_bd {a p : Int} (ha : -2147483648 ≤ a) (ha' : a < 2147483648) (hp : 1 ≤ p) : -2147483648 ≤ a / p ∧ a / p < 2147483648 := by
  constructor
  · rw [Int.le_ediv_iff_mul_le (by omega)]
    omega
  · rw [Int.ediv_lt_iff_lt_mul (by omega)]
    omega
theorem mul_sg (a b : Int) (ha : 0 ≤ a) (ha' : a < 4294967296) (hb : 0 ≤ b) (hb' : b < 4294967296) : Wd.lo (Wd.sg a * Wd.sg b) = Wd.lo (a * b) := by
  have h1 : (Wd.sg a) % 4294967296 = a % 4294967296 := by unfold Wd.sg; split <;> omega
  have h2 : (Wd.sg b) % 4294967296 = b % 4294967296 := by unfold Wd.sg; split <;> omega
  show Wd.sg a * Wd.sg b % 4294967296 = a * b % 4294967296
  rw [Int.mul_emod, h1, h2, ← Int.mul_emod]
theorem tdiv_bd {a b : Int} (ha : -2147483648 ≤ a) (ha' : a < 2147483648) : -2147483648 ≤ a.tdiv b ∧ a.tdiv b ≤ 2147483648 := by
  have h := Int.natAbs_tdiv_le_natAbs a b
  omega
theorem tmul_bd {a b : Int} (ha : -2147483648 ≤ a) (ha' : a < 2147483648) : -2147483648 ≤ a.tdiv b * b ∧ a.tdiv b * b ≤ 2147483648 := by
  have h1 : (a.tdiv b * b).natAbs ≤ a.natAbs := by
    rw [Int.natAbs_mul, Int.natAbs_tdiv]; exact Nat.div_mul_le_self _ _
  omega

theorem mulh_bd {x y : Int} (hx : -2147483648 ≤ x) (hx' : x < 2147483648) (hy : -2147483648 ≤ y) (hy' : y < 2147483648) : -4611686018427387904 ≤ x * y ∧ x * y ≤ 4611686018427387904 := by
  by_cases h : 0 ≤ x
  · have a1 : x * y ≤ x * 2147483648 := Int.mul_le_mul_of_nonneg_left (by omega) h
    have a2 : x * (-2147483648) ≤ x * y := Int.mul_le_mul_of_nonneg_left (by omega) h
    omega
  · have a1 : x * y ≤ x * (-2147483648) := Int.mul_le_mul_of_nonpos_left (by omega) (by omega)
    have a2 : x * 2147483648 ≤ x * y := Int.mul_le_mul_of_nonpos_left (by omega) (by omega)
    omega
end Go.Proofs.YtfolphjampklpabDoor.Rw
