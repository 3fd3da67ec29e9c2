/-
  A block as plain data: the words of its instructions ('blk').
-/
import Derived.Test.YtdiofidmlgliiaaDoorHb
namespace Go.Proofs.YtdiofidmlgliiaaDoor.Bk
open Mm Hh
set_option linter.unusedVariables false

variable {l : List UInt8} {pc : Int} {n k : Nat}
/-- Why no instruction stands at pc: 1, no word; 2, none is; 0: one stands there. -/
def ftC (l : List UInt8) (pc : Int) : Int := if ldOk l 13 pc = true then (if Dc.dop (ldV l 13 pc) = 0 then 2 else 0) else 1
/-- Does a block end with it? -/
def lastOp (op : Int) : Bool := decide ((3 ≤ op ∧ op ≤ 10) ∨ op = 58 ∨ op = 59)
/-- The place of the k-th instruction. -/
def at4 (pc : Int) (k : Nat) : Int := Wd.lo (pc + 4 * k)
/-- The words of at most n instructions, from the k-th one on. -/
def blk (l : List UInt8) (pc : Int) : Nat → Nat → List Int
  | 0, _ => []
  | n + 1, k => if ftC l (at4 pc k) = 0 then ldV l 13 (at4 pc k) :: (if lastOp (Dc.dop (ldV l 13 (at4 pc k))) = true then [] else blk l pc n (k + 1)) else []
theorem at4_bd (pc : Int) (k : Nat) : 0 ≤ at4 pc k ∧ at4 pc k < 4294967296 := by unfold at4 Wd.lo; omega
theorem blk_stop (h : ¬ ftC l (at4 pc k) = 0) : blk l pc (n + 1) k = [] := by unfold blk; rw [if_neg h]
theorem blk_last (h : ftC l (at4 pc k) = 0) (hl : lastOp (Dc.dop (ldV l 13 (at4 pc k))) = true) : blk l pc (n + 1) k = [ldV l 13 (at4 pc k)] := by unfold blk; rw [if_pos h, if_pos hl]
theorem blk_on (h : ftC l (at4 pc k) = 0) (hl : lastOp (Dc.dop (ldV l 13 (at4 pc k))) = false) : blk l pc (n + 1) k = ldV l 13 (at4 pc k) :: blk l pc n (k + 1) := by
  rw [blk, if_pos h, if_neg (by simp [hl])]
theorem blk_zero (l : List UInt8) (pc : Int) (k : Nat) : blk l pc (16 - 16) k = [] := rfl
theorem ldV_no (h : ldOk l 13 pc = false) : ldV l 13 pc = 0 := by unfold ldV; rw [h]; rfl
theorem dop0 : Dc.dop 0 = 0 := by decide
end Go.Proofs.YtdiofidmlgliiaaDoor.Bk
