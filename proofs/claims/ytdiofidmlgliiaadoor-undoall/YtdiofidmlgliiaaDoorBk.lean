/-
  A block as cells of memory ('blC').
-/
import Derived.Test.YtdiofidmlgliiaaDoorBp
import Derived.Test.YtdiofidmlgliiaaDoorWalks4
namespace Go.Proofs.YtdiofidmlgliiaaDoor.Bk
open Go.ChangeShapes Go.WideShapes Go.ChangeAt Go.RowKit Mm Hh
set_option linter.unusedVariables false

/-- An instruction's cells. -/
def insC (x : Int) : List Value := [.int .i64 (Dc.dop x), .int .i64 (Dc.rdF (Dc.frm (Dc.dop x)) x), .int .i64 (Dc.rs1F (Dc.frm (Dc.dop x)) x), .int .i64 (Dc.rs2F (Dc.frm (Dc.dop x)) x), .int .i32 (Dc.immF (Dc.frm (Dc.dop x)) x)]
theorem decV_insC (x : Int) : Dw.decV x = .agg (insC x).toArray := rfl
def blC (xs : List Int) : List Value := xs.flatMap insC
theorem blC_snoc (xs : List Int) (x : Int) : blC (xs ++ [x]) = blC xs ++ insC x := by simp [blC]
theorem blC_len (xs : List Int) : (blC xs).length = xs.length * 5 := by
  induction xs with
  | nil => rfl
  | cons p r ih => simp only [blC, List.flatMap_cons, List.length_append, List.length_cons] at ih ⊢; rw [ih]; simp [insC]; omega
theorem blC_get : ∀ (xs : List Int) (i j : Nat) (x : Int), xs[i]? = some x → j < 5 → (blC xs)[i * 5 + j]? = (insC x)[j]?
  | [], i, j, x, h, _ => by simp at h
  | p :: r, 0, j, x, h, hj => by
    simp at h; subst h
    show (insC p ++ blC r)[0 * 5 + j]? = _
    rw [Nat.zero_mul, Nat.zero_add, List.getElem?_append_left (by simpa [insC] using hj)]
  | p :: r, i + 1, j, x, h, hj => by
    have ih := blC_get r i j x (by simpa using h) hj
    show (insC p ++ blC r)[(i + 1) * 5 + j]? = _
    rw [List.getElem?_append_right (by simp [insC]; omega)]
    rw [show (i + 1) * 5 + j - (insC p).length = i * 5 + j by simp [insC]; omega]
    exact ih
theorem insC_one (x : Int) : ∀ u ∈ insC x, u.oneCell' = true := by
  intro u hu
  simp only [insC, List.mem_cons, List.not_mem_nil, or_false] at hu
  rcases hu with rfl | rfl | rfl | rfl | rfl <;> rfl
end Go.Proofs.YtdiofidmlgliiaaDoor.Bk
