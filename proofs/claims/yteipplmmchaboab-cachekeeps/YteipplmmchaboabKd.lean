/-
  What is found in a cache, and what is kept behind a put, as plain data.
-/
import Derived.Test.YteipplmmchaboabKr5
namespace Go.Proofs.Yteipplmmchaboab.Kc
open Go.ChangeShapes Go.WideShapes Go.ChangeAt Go.RowKit Mm Ts Hc
set_option linter.unusedVariables false
set_option linter.unusedSimpArgs false

/-- The first block of a place; an empty one, if there is none. -/
def fnd (pc : Int) (bs : List Bv) : Bv := if 0 ≤ place pc bs 0 then bs.getD (place pc bs 0).toNat ⟨0, []⟩ else ⟨0, []⟩
/-- What is kept behind a put, and what was pushed. -/
def putL (room : Int) (bs : List Bv) (b0 : Bv) : List Bv := if room < ((rmK (place b0.pc bs 0) bs 0 ++ [b0]).length : Int) then (rmK (place b0.pc bs 0) bs 0 ++ [b0]).drop 1 else rmK (place b0.pc bs 0) bs 0 ++ [b0]
def putP (room pu : Int) (bs : List Bv) (b0 : Bv) : Int := if room < ((rmK (place b0.pc bs 0) bs 0 ++ [b0]).length : Int) then wrap64 (pu + 1) else pu
theorem Bo.bs {w : World} {base : Nat} {V : Value} {bs : List Bv} (h : Bo w base V bs) : ∃ a m c, V = .slice a m c ∧ Bs w a m bs := by
  obtain ⟨xs, O, X⟩ := h
  by_cases h0 : bs.length = 0
  · have : bs = [] := List.eq_nil_of_length_eq_zero h0
    subst this
    rcases O.2 with ⟨rfl, _⟩ | ⟨g, cap, _, rfl, _⟩
    · exact ⟨none, 0, 0, rfl, bs_nil _ _⟩
    · exact ⟨_, _, _, rfl, bs_nil _ _⟩
  · obtain ⟨g, cp, rfl⟩ := Hc.own_form O (by omega)
    have := bs_own O X 0 bs.length (by omega)
    rw [List.drop_zero, Nat.zero_mul] at this
    exact ⟨_, _, _, rfl, this⟩
theorem lt_cell {w : World} {b o : Nat} {v : Value} (h : w.cell? ⟨b, o, none⟩ = some v) : b < w.heap.size := World.block_lt_of_cell? w _ h
theorem place_bd (pc : Int) : ∀ (bs : List Bv) (k : Nat), place pc bs k = -1 ∨ ∃ j x, place pc bs k = ((k + j : Nat) : Int) ∧ bs[j]? = some x
  | [], k => .inl rfl
  | b :: r, k => by
    unfold place
    split
    · exact .inr ⟨0, b, rfl, rfl⟩
    · rcases place_bd pc r (k + 1) with h | ⟨j, x, h, hx⟩
      · exact .inl h
      · exact .inr ⟨j + 1, x, by rw [h]; congr 1; omega, by simpa using hx⟩
end Go.Proofs.Yteipplmmchaboab.Kc
