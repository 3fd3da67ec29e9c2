/-
  A block as plain data: the words of its instructions ('blk'), and as cells of memory ('blC').
-/
import Derived.Test.YtfolphjampklpabDoorHb
import Derived.Test.YtfolphjampklpabDoorWalks4
namespace Go.Proofs.YtfolphjampklpabDoor.Bk
open Go.ChangeShapes Go.WideShapes Go.ChangeAt Go.RowKit Mm Hh
set_option linter.unusedVariables false

/-- Why no instruction stands at pc: 1, no word; 2, none is; 0: one stands there. -/
def ftC (l : List UInt8) (pc : Int) : Int := if ldOk l 13 pc = true then (if Dc.dop (ldV l 13 pc) = 0 then 2 else 0) else 1
/-- Does a block end with it? -/
def lastOp (op : Int) : Bool := decide ((3 ≤ op ∧ op ≤ 10) ∨ op = 58 ∨ op = 59)
/-- The place of the k-th instruction. -/
def at4 (pc : Int) (k : Nat) : Int := Wd.lo (pc + 4 * k)
/-- The words of at most n instructions, from the k-th one on. -/
def blk (l : List UInt8) (pc : Int) : Nat → Nat → List Int
  | 0, _ => []
  | n + 1, k => if ftC l (at4 pc k) = 0 then ldV l 13 (at4 pc k) :: (if lastOp (Dc.dop (ldV l 13 (at4 pc k))) = true then [] else blk l pc n (k + 1)) else []
theorem at4_bd (pc : Int) (k : Nat) : 0 ≤ at4 pc k ∧ at4 pc k < 4294967296 := by unfold at4 Wd.lo; omega
theorem blk_stop {l : List UInt8} {pc : Int} {n k : Nat} (h : ¬ ftC l (at4 pc k) = 0) : blk l pc (n + 1) k = [] := by unfold blk; rw [if_neg h]
theorem blk_last {l : List UInt8} {pc : Int} {n k : Nat} (h : ftC l (at4 pc k) = 0) (hl : lastOp (Dc.dop (ldV l 13 (at4 pc k))) = true) : blk l pc (n + 1) k = [ldV l 13 (at4 pc k)] := by unfold blk; rw [if_pos h, if_pos hl]
theorem blk_on {l : List UInt8} {pc : Int} {n k : Nat} (h : ftC l (at4 pc k) = 0) (hl : lastOp (Dc.dop (ldV l 13 (at4 pc k))) = false) : blk l pc (n + 1) k = ldV l 13 (at4 pc k) :: blk l pc n (k + 1) := by
  rw [blk, if_pos h, if_neg (by simp [hl])]
theorem blk_zero (l : List UInt8) (pc : Int) (k : Nat) : blk l pc (16 - 16) k = [] := rfl
theorem ldV_no {l : List UInt8} {pc : Int} (h : ldOk l 13 pc = false) : ldV l 13 pc = 0 := by unfold ldV; rw [h]; rfl
theorem dop0 : Dc.dop 0 = 0 := by decide
/-- An instruction's cells. -/
def insC (x : Int) : List Value := [.int .i64 (Dc.dop x), .int .i64 (Dc.rdF (Dc.frm (Dc.dop x)) x), .int .i64 (Dc.rs1F (Dc.frm (Dc.dop x)) x), .int .i64 (Dc.rs2F (Dc.frm (Dc.dop x)) x), .int .i32 (Dc.immF (Dc.frm (Dc.dop x)) x)]
theorem decV_insC (x : Int) : Dw.decV x = .agg (insC x).toArray := rfl
def blC (xs : List Int) : List Value := xs.flatMap insC
theorem blC_snoc (xs : List Int) (x : Int) : blC (xs ++ [x]) = blC xs ++ insC x := by simp [blC]
theorem blC_len (xs : List Int) : (blC xs).length = xs.length * 5 := by
  induction xs with
  | nil => rfl
  | cons p r ih => simp only [blC, List.flatMap_cons, List.length_append, List.length_cons] at ih ⊢; rw [ih]; simp [insC]; omega
theorem blC_get : ∀ (xs : List Int) (i j : Nat) (x : Int), xs[i]? = some x → j < 5 → (blC xs)[i * 5 + j]? = (insC x)[j]?
  | [], i, j, x, h, _ => by simp at h
  | p :: r, 0, j, x, h, hj => by
    simp at h; subst h
    show (insC p ++ blC r)[0 * 5 + j]? = _
    rw [Nat.zero_mul, Nat.zero_add, List.getElem?_append_left (by simpa [insC] using hj)]
  | p :: r, i + 1, j, x, h, hj => by
    have ih := blC_get r i j x (by simpa using h) hj
    show (insC p ++ blC r)[(i + 1) * 5 + j]? = _
    rw [List.getElem?_append_right (by simp [insC]; omega)]
    rw [show (i + 1) * 5 + j - (insC p).length = i * 5 + j by simp [insC]; omega]
    exact ih
theorem insC_one (x : Int) : ∀ u ∈ insC x, u.oneCell' = true := by
  intro u hu
  simp only [insC, List.mem_cons, List.not_mem_nil, or_false] at hu
  rcases hu with rfl | rfl | rfl | rfl | rfl <;> rfl
end Go.Proofs.YtfolphjampklpabDoor.Bk
