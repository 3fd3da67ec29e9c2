/-
  What package decode's Decode returns: of every word the instruction that 'Dc' tells, and whether it is one. Conditions: the tables hold what their initialisers lay ('Tab'); words are from 0 to 2^32 - 1.
-/
import Derived.Test.YtphklaefhpoimacWalks3
namespace Go.Proofs.Ytphklaefhpoimac.Dw
open Go.ChangeShapes Go.WideShapes Go.ChangeAt Go.RowKit
set_option linter.unusedVariables false
set_option linter.unusedSimpArgs false

variable {a : Int}
/-- The instruction of a word; all 0, if it is none. -/
def decV (a : Int) : Value := insV (Dc.dop a) (Dc.rdF (Dc.frm (Dc.dop a)) a) (Dc.rs1F (Dc.frm (Dc.dop a)) a) (Dc.rs2F (Dc.frm (Dc.dop a)) a) (Dc.immF (Dc.frm (Dc.dop a)) a)
def decOk (a : Int) : Bool := decide (Dc.dop a ≠ 0)
theorem dec_none (h : Dc.dop a = 0) : decV a = insV 0 0 0 0 0 ∧ decOk a = false := by
  unfold decV decOk; rw [h]; exact ⟨rfl, rfl⟩
theorem dec_some {k : Int} (h : Dc.dop a = k) (hk : 1 ≤ k) : decV a = insV k (Dc.rdF (Dc.frm k) a) (Dc.rs1F (Dc.frm k) a) (Dc.rs2F (Dc.frm k) a) (Dc.immF (Dc.frm k) a) ∧ decOk a = true := by
  unfold decV decOk; rw [h]; exact ⟨rfl, by simp; omega⟩
theorem sp_bd (lo : Int) : (1 ≤ Dc.sp1 lo ∨ Dc.sp2 lo = -1) ∧ 0 ≤ Dc.sp1 lo ∧ Dc.sp1 lo ≤ 58 ∧ -1 ≤ Dc.sp2 lo ∧ Dc.sp2 lo ≤ 59 ∧ Dc.sp1 lo ≤ Dc.sp2 lo + 1 := by
  unfold Dc.sp1 Dc.sp2
  by_cases h1 : lo = 55
  · simp [h1]
  by_cases h2 : lo = 23
  · simp [h2]
  by_cases h3 : lo = 111
  · simp [h3]
  by_cases h4 : lo = 103
  · simp [h4]
  by_cases h5 : lo = 99
  · simp [h5]
  by_cases h6 : lo = 3
  · simp [h6]
  by_cases h7 : lo = 35
  · simp [h7]
  by_cases h8 : lo = 19
  · simp [h8]
  by_cases h9 : lo = 51
  · simp [h9]
  by_cases h10 : lo = 47
  · simp [h10]
  by_cases h11 : lo = 15
  · simp [h11]
  by_cases h12 : lo = 115
  · simp [h12]
  simp [h1, h2, h3, h4, h5, h6, h7, h8, h9, h10, h11, h12]
theorem mask_bd (f : Int) : 0 ≤ Dc.mask f ∧ Dc.mask f < 4294967296 := by
  unfold Dc.mask; repeat' split
  all_goals omega
theorem raw_none {s1 s2 : Int} (h0 : 0 ≤ a) (h1 : a < 4294967296) (e1 : Dc.sp1 (a % 128) = s1) (e2 : Dc.sp2 (a % 128) = s2) (h : ∀ j, s1 ≤ j → j ≤ s2 → Dc.raw a ≠ j) : Dc.dop a = 0 := by
  have : Dc.raw a = 0 := by
    by_cases hr : Dc.raw a = 0
    · exact hr
    · have := Dc.raw_told h0 h1 hr
      exact absurd rfl (h (Dc.raw a) (by omega) (by omega))
  unfold Dc.dop; rw [this]; rfl
end Go.Proofs.Ytphklaefhpoimac.Dw
