/-
  Blocks and caches as plain data, and as slices that are read.
-/
import Derived.Test.YteipplmmchaboabTo
namespace Go.Proofs.Yteipplmmchaboab.Kc
open Go.ChangeShapes Go.WideShapes Go.ChangeAt Go.RowKit Mm Ts
set_option linter.unusedVariables false
set_option linter.unusedSimpArgs false

/-- A block, whatever it is. -/
structure Bv where
  pc : Int
  is : List Iv
/-- Where the first block of a place is; below 0: there is none. -/
def place (pc : Int) : List Bv → Nat → Int
  | [], _ => -1
  | b :: bs, k => if b.pc = pc then (k : Int) else place pc bs (k + 1)
/-- Has a block a byte of some? -/
def hasB (b : Bv) (f t : Int) : Bool := decide (max b.pc f < min (b.pc + 4 * (b.is.length : Int)) t)
/-- A block as cells: its place, and a slice that reads as its instructions. -/
def Bc (w : World) (b : Bv) (x y : Value) : Prop := x = .int .u32 b.pc ∧ (0 ≤ b.pc ∧ b.pc < 4294967296) ∧ ∃ sa sn sc, y = .slice sa sn sc ∧ Is w sa sn b.is ∧ sn * 40 ≤ 140737488351232
theorem Bc.of {w w' : World} {b : Bv} {x y : Value} (h : Bc w b x y) (G : Gr w w') : Bc w' b x y := by
  obtain ⟨e, p, sa, sn, sc, e2, I, hb⟩ := h
  exact ⟨e, p, sa, sn, sc, e2, I.of G, hb⟩
/-- In world w, the slice at ao of n elements reads as the blocks bs. -/
structure Bs (w : World) (ao : Option Addr) (n : Nat) (bs : List Bv) : Prop where
  len : bs.length = n
  spot : 0 < n → ∃ b o, ao = some ⟨b, o, none⟩ ∧ b < w.heap.size ∧ ∀ j x, bs[j]? = some x → ∃ u v, w.cell? ⟨b, o + j * 2, none⟩ = some u ∧ w.cell? ⟨b, o + j * 2 + 1, none⟩ = some v ∧ Bc w x u v
theorem Bs.of {w w' : World} {ao : Option Addr} {n : Nat} {bs : List Bv} (h : Bs w ao n bs) (g : Gr w w') : Bs w' ao n bs :=
  ⟨h.len, fun hn => by
    obtain ⟨b, o, e, hb, hc⟩ := h.spot hn
    refine ⟨b, o, e, Nat.lt_of_lt_of_le hb g.size, fun j i hj => ?_⟩
    obtain ⟨u, v, h0, h1, h2⟩ := hc j i hj
    exact ⟨u, v, (g.cell _ (by exact hb)).trans h0, (g.cell _ (by exact hb)).trans h1, h2.of g⟩⟩
theorem place_none {pc : Int} {bs : List Bv} {k : Nat} (h : ∀ (i : Nat) (x : Bv), bs[i]? = some x → ¬ x.pc = pc) : place pc bs k = -1 := by
  induction bs generalizing k with
  | nil => rfl
  | cons b r ih =>
    unfold place
    rw [if_neg (h 0 b rfl)]
    exact ih fun i x hx => h (i + 1) x (by simpa using hx)
theorem place_at {pc : Int} : ∀ {bs : List Bv} {j k : Nat} {x : Bv}, bs[j]? = some x → x.pc = pc → (∀ (i : Nat) (y : Bv), i < j → bs[i]? = some y → ¬ y.pc = pc) → place pc bs k = ((k + j : Nat) : Int)
  | [], j, k, x, h, _, _ => by simp at h
  | b :: r, 0, k, x, h, e, _ => by
    simp at h
    subst h
    unfold place
    rw [if_pos e, Nat.add_zero]
  | b :: r, j + 1, k, x, h, e, hn => by
    unfold place
    rw [if_neg (hn 0 b (by omega) rfl)]
    have := place_at (k := k + 1) (bs := r) (j := j) (by simpa using h) e fun i y hi hy => hn (i + 1) y (by omega) (by simpa using hy)
    rw [this]
    congr 1
    omega
end Go.Proofs.Yteipplmmchaboab.Kc
