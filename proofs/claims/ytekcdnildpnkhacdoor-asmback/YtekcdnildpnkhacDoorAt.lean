/-
  What the function name of package ferrybridgeref11 answers: an instruction's name ('nameB').
-/
import Derived.Test.YtekcdnildpnkhacDoorAr
import Derived.Great.BuildSlice
import Derived.Laws.Concat
namespace Go.Proofs.YtekcdnildpnkhacDoor.As
open Go.ChangeShapes Go.WideShapes Go.ChangeAt Go.RowKit Mm
set_option linter.unusedVariables false

/-- Two texts added. -/
theorem wpList_cat {P : Program} {ops : Array Oper} {rest : List Oper} {o : Oper} {a : Act} {w : World} {Q : Exit → Act → World → Prop} (hg : o.guard = none) (t t2 : TypeId) (x y : Operand) (ho : o.op = .binOp .add t x y t2) (A B : List Nat) (hx : a.eval x = str A) (hy : a.eval y = str B)
    (hl : A.length + B.length ≤ 1000000) (h : wpList P ops Q rest (a.put o.dst (str (A ++ B))) w) : wpList P ops Q (o :: rest) a w := by
  have e : (Op.stringOp .add ⟨(A.map UInt8.ofNat).toArray⟩ ⟨(B.map UInt8.ofNat).toArray⟩).run P w = .ok (str (A ++ B)) w := by
    rw [← str_app]
    exact run_string_add_sum _ _ _ (by show (A.map UInt8.ofNat).toArray.size + (B.map UInt8.ofNat).toArray.size ≤ 9223372036854775807; simp; omega)
  refine wpList_plain hg fun K hK => ?_
  unfold Oper.wp execOp
  simp only [ho, hx, hy]
  unfold str at e ⊢
  simp only [eqGuard_add, Sem.run_bind, Sem.run_pure, Result.andThen_ok, binOp_string_add, e]
  exact hK _ _ h
/-- The row of names. -/
def namesV : Array Value := (names.map str).toArray
theorem namesV_get {k : Nat} (h : k < 59) : namesV[k]? = some (str (names.getD k [])) := by
  have hl : names.length = 59 := rfl
  unfold namesV
  rw [List.getElem?_toArray, List.getElem?_map, List.getElem?_eq_getElem (by omega)]
  simp [List.getD, List.getElem?_eq_getElem (show k < names.length by omega)]
theorem infoS : (Tryd.prog.info? 9).map (fun i => (i.zero, i.size)) = some (some (.string ⟨#[]⟩), 1) := by kernel_rfl
theorem infoS' : ∃ i, Tryd.prog.info? 9 = some i ∧ i.zero = some (.string ⟨#[]⟩) ∧ i.size = 1 := by
  have h := infoS
  match hi : Tryd.prog.info? 9 with
  | none => rw [hi] at h; cases h
  | some i =>
    rw [hi] at h
    simp only [Option.map_some, Option.some.injEq, Prod.mk.injEq] at h
    exact ⟨i, rfl, h.1, h.2⟩
theorem name_len {op : Int} (h1 : 1 ≤ op) (h2 : op ≤ 59) (m : Int) : (nameB op m).length ≤ 20 := by
  obtain ⟨k, rfl⟩ : ∃ k : Nat, op = (k : Int) + 1 := ⟨(op - 1).toNat, by omega⟩
  have : ∀ k : Fin 59, (names.getD k.val []).length ≤ 10 := by decide
  have := this ⟨k, by omega⟩
  unfold nameB sfx
  rw [show ((k : Int) + 1 - 1).toNat = k by omega]
  simp only at this
  generalize names.getD k [] = a at *
  repeat' split
  all_goals simp; omega
end Go.Proofs.YtekcdnildpnkhacDoor.As
