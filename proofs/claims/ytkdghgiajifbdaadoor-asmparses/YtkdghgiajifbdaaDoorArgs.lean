/-
  An instruction that is handed in, opened: five numbers; and shut again.
-/
import Derived.Test.YtkdghgiajifbdaaDoorTabs
namespace Go.Proofs.YtkdghgiajifbdaaDoor.Dw
open Go.ChangeShapes Go.WideShapes Go.ChangeAt Go.RowKit
set_option linter.unusedVariables false

theorem list5 {α : Type} {l : List α} (h : l.length = 5) : ∃ a b c d e, l = [a, b, c, d, e] := by
  match l, h with
  | [a, b, c, d, e], _ => exact ⟨a, b, c, d, e, rfl⟩
theorem c24 : Tryd.prog.cellsOf 23 = 5 := by kernel_rfl
theorem c3 : Tryd.prog.cellsOf 3 = 1 := by kernel_rfl
theorem c21 : Tryd.prog.cellsOf 21 = 1 := by kernel_rfl
set_option maxRecDepth 100000 in
theorem open_ins {H : Type} {enc : TypeId × Value → H} {W : World} {base b0 : Nat} {sp : Nat → Bool} {held : Bool} {v : Value} {d : DataW H} {p : List MemPlace}
    (hv : Value.okWide Tryd.prog W .any base 23 v) (h : DataW.Trod enc Tryd.prog W b0 sp held 23 v d p) :
    ∃ op rd rs1 rs2 n, v = .agg #[.int .i64 op, .int .i64 rd, .int .i64 rs1, .int .i64 rs2, .int .i32 n] ∧ d = .agg [.lit (.int .i64 op), .lit (.int .i64 rd), .lit (.int .i64 rs1), .lit (.int .i64 rs2), .lit (.int .i32 n)] ∧ p = [] ∧ (Lit.int .i64 op).wf = true ∧ (Lit.int .i64 rd).wf = true ∧ (Lit.int .i64 rs1).wf = true ∧ (Lit.int .i64 rs2).wf = true ∧ (Lit.int .i32 n).wf = true := by
  obtain ⟨cs, rfl, hsz⟩ := okWide_struct Tryd.underlying23 hv
  rw [c24] at hsz
  obtain ⟨l⟩ := cs
  obtain ⟨c0, c1, c2, c3', c4, rfl⟩ := list5 (l := l) (by simpa using hsz)
  obtain ⟨fuel, hf⟩ := h
  obtain ⟨xs, m, rfl, hx, _, hlen, hel⟩ := DataW.trod_struct Tryd.underlying23 hf
  obtain ⟨y0, y1, y2, y3, y4, rfl⟩ := list5 (l := xs) hlen
  clear hf hv hsz hlen
  have k0 := hel 0 _ rfl
  have k1 := hel 1 _ rfl
  have k2 := hel 2 _ rfl
  have k3 := hel 3 _ rfl
  have k4 := hel 4 _ rfl
  clear hel
  simp only [Value.cells] at k0 k1 k2 k3 k4
  obtain ⟨op, e0, rfl, w0⟩ := DataW.trod_int Tryd.underlying3 k0
  obtain ⟨rd, e1, rfl, w1⟩ := DataW.trod_int Tryd.underlying3 k1
  obtain ⟨rs1, e2, rfl, w2⟩ := DataW.trod_int Tryd.underlying3 k2
  obtain ⟨rs2, e3, rfl, w3⟩ := DataW.trod_int Tryd.underlying3 k3
  obtain ⟨n, e4, rfl, w4⟩ := DataW.trod_int Tryd.underlying21 k4
  clear k0 k1 k2 k3 k4
  simp [c3, c21] at e0 e1 e2 e3 e4
  subst e0 e1 e2 e3 e4
  simp only [Prod.mk.injEq] at hx
  exact ⟨op, rd, rs1, rs2, n, rfl, hx.1, hx.2, w0, w1, w2, w3, w4⟩
set_option maxRecDepth 100000 in
theorem shut_ins {H : Type} {enc : TypeId × Value → H} {W : World} {b0 : Nat} {sp : Nat → Bool} {held : Bool} {op rd rs1 rs2 n : Int} (w0 : (Lit.int .i64 op).wf = true) (w1 : (Lit.int .i64 rd).wf = true) (w2 : (Lit.int .i64 rs1).wf = true) (w3 : (Lit.int .i64 rs2).wf = true) (w4 : (Lit.int .i32 n).wf = true) :
    DataW.Trod enc Tryd.prog W b0 sp held 23 (.agg #[.int .i64 op, .int .i64 rd, .int .i64 rs1, .int .i64 rs2, .int .i32 n]) (.agg [.lit (.int .i64 op), .lit (.int .i64 rd), .lit (.int .i64 rs1), .lit (.int .i64 rs2), .lit (.int .i32 n)]) [] := ⟨2, by
  simp [DataW.trod, Tryd.underlying23, Tryd.underlying3, Tryd.underlying21, Value.cells, c24, c3, c21, w0, w1, w2, w3, w4]⟩
end Go.Proofs.YtkdghgiajifbdaaDoor.Dw
