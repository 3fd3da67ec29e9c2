/-
  What the document's chapter 2 answers, its small functions: Power, Signed, Cut, signed, pick. Conditions: words are from 0 to 2^32 - 1.
-/
import Derived.Test.YtekcdnildpnkhacDoorTabs
namespace Go.Proofs.YtekcdnildpnkhacDoor.Re
open Go.ChangeShapes Go.WideShapes Go.ChangeAt Go.RowKit Dw
set_option linter.unusedVariables false
set_option linter.unusedSimpArgs false

variable {n : Int}
theorem ret_int {k : IntKind} {a b : Int} (h : a = b) : Ending.returned (.int k a) = .returned (.int k b) := by rw [h]
theorem ret_bool {a b : Bool} (h : a = b) : Ending.returned (.bool a) = .returned (.bool b) := by rw [h]
/-- pick's answer: below 0, if it is none. -/
def pkR (n : Int) : List (Int × Int) → Int
  | [] => -1
  | (a, o) :: r => if n = a then o else pkR n r
theorem pkR_at : (l : List (Int × Int)) → (k : Nat) → (hk : k < l.length) → (∀ j (hj : j < l.length), j < k → l[j].1 ≠ n) → l[k].1 = n → pkR n l = l[k].2
  | (a, o) :: r, 0, _, _, h => if_pos h.symm
  | (a, o) :: r, k + 1, hk, hn, h => by
    have : n ≠ a := fun e => hn 0 (by simp) (by omega) e.symm
    unfold pkR
    rw [if_neg this]
    exact pkR_at r k (by simpa using hk) (fun j hj hjk => hn (j + 1) (by simpa using hj) (by omega)) h
theorem pkR_none : (l : List (Int × Int)) → (∀ j (hj : j < l.length), l[j].1 ≠ n) → pkR n l = -1
  | [], _ => rfl
  | (a, o) :: r, hn => by
    have : n ≠ a := fun e => hn 0 (by simp) e.symm
    unfold pkR
    rw [if_neg this]
    exact pkR_none r fun j hj => hn (j + 1) (by simpa using hj)
end Go.Proofs.YtekcdnildpnkhacDoor.Re
