/-
  Harts and picks as slices; whether a script may be, as plain data.
-/
import Derived.Test.YtfolphjampklpaaDoorMp
namespace Go.Proofs.YtfolphjampklpaaDoor.Mc
open Go.ChangeShapes Go.WideShapes Go.ChangeAt Go.RowKit Mm Hh
set_option linter.unusedVariables false

/-- In world w, the slice at ao of n elements reads as the harts hs. -/
structure Hs (w : World) (ao : Option Addr) (n : Nat) (hs : List Hv) : Prop where
  len : hs.length = n
  ok : ∀ h ∈ hs, h.Ok
  spot : 0 < n → ∃ b o, ao = some ⟨b, o, none⟩ ∧ b < w.heap.size ∧ ∀ i h, hs[i]? = some h → w.rangeAt b (o + i * 37) (hL h)
/-- .. as the picks ps. -/
structure Ps (w : World) (ao : Option Addr) (n : Nat) (ps : List (Int × Int)) : Prop where
  len : ps.length = n
  spot : 0 < n → ∃ b o, ao = some ⟨b, o, none⟩ ∧ b < w.heap.size ∧ ∀ i p, ps[i]? = some p → w.cell? ⟨b, o + i * 2, none⟩ = some (.int .i64 p.1) ∧ w.cell? ⟨b, o + i * 2 + 1, none⟩ = some (.int .i64 p.2)
theorem Hs.of {w w' : World} {ao : Option Addr} {n : Nat} {hs : List Hv} (h : Hs w ao n hs) (g : Gr w w') : Hs w' ao n hs :=
  ⟨h.len, h.ok, fun hn => by
    obtain ⟨b, o, e, hb, hc⟩ := h.spot hn
    exact ⟨b, o, e, Nat.lt_of_lt_of_le hb g.size, fun i q hq j v hv => (g.cell _ (by exact hb)).trans (hc i q hq j v hv)⟩⟩
theorem Ps.of {w w' : World} {ao : Option Addr} {n : Nat} {ps : List (Int × Int)} (h : Ps w ao n ps) (g : Gr w w') : Ps w' ao n ps :=
  ⟨h.len, fun hn => by
    obtain ⟨b, o, e, hb, hc⟩ := h.spot hn
    exact ⟨b, o, e, Nat.lt_of_lt_of_le hb g.size, fun i q hq => ⟨(g.cell _ (by exact hb)).trans (hc i q hq).1, (g.cell _ (by exact hb)).trans (hc i q hq).2⟩⟩⟩
/-- A pick may be, of c harts. -/
def pickOk (c : Nat) (p : Int × Int) : Bool := decide (0 ≤ p.1 ∧ p.1 < c ∧ 0 ≤ p.2 ∧ p.2 ≤ 400)
/-- What is wrong (an Errno). -/
def wrong (m : List UInt8) (hs : List Hv) (ps : List (Int × Int)) : Int :=
  if 4096 < m.length ∨ hs.length < 1 ∨ 4 < hs.length then 2 else if hs.all may = false then 2 else if 300 < ps.length then 1 else if ps.all (pickOk hs.length) = false then 3 else 0
theorem all_take {α : Type} (f : α → Bool) (l : List α) (k : Nat) (x : α) (h : l[k]? = some x) : (l.take (k + 1)).all f = ((l.take k).all f && f x) := by
  rw [List.take_add_one, h]
  simp
theorem all_false {α : Type} {f : α → Bool} {l : List α} {k : Nat} {x : α} (h : l[k]? = some x) (hx : f x = false) : l.all f = false := by
  rw [List.all_eq_false]
  exact ⟨x, List.mem_of_getElem? h, by simp [hx]⟩
end Go.Proofs.YtfolphjampklpaaDoor.Mc
