/-
  What the function name of package ferrybridgeref11 answers: an instruction's name ('nameB').
-/
import Derived.Test.YtkdghgiajifbdaaDoorAr
import Derived.Great.BuildSlice
import Derived.Laws.Concat
namespace Go.Proofs.YtkdghgiajifbdaaDoor.As
open Go.ChangeShapes Go.WideShapes Go.ChangeAt Go.RowKit Mm
set_option linter.unusedVariables false

/-- Two texts added. -/
theorem wpList_cat {P : Program} {ops : Array Oper} {rest : List Oper} {o : Oper} {a : Act} {w : World} {Q : Exit → Act → World → Prop} (hg : o.guard = none) (t t2 : TypeId) (x y : Operand) (ho : o.op = .binOp .add t x y t2) (A B : List Nat) (hx : a.eval x = str A) (hy : a.eval y = str B)
    (hl : A.length + B.length ≤ 1000000) (h : wpList P ops Q rest (a.put o.dst (str (A ++ B))) w) : wpList P ops Q (o :: rest) a w := by
  have e : (Op.stringOp .add ⟨(A.map UInt8.ofNat).toArray⟩ ⟨(B.map UInt8.ofNat).toArray⟩).run P w = .ok (str (A ++ B)) w := by
    rw [← str_app]
    exact run_string_add_sum _ _ _ (by show (A.map UInt8.ofNat).toArray.size + (B.map UInt8.ofNat).toArray.size ≤ 9223372036854775807; simp; omega)
  refine wpList_plain hg fun K hK => ?_
  unfold Oper.wp execOp
  simp only [ho, hx, hy]
  unfold str at e ⊢
  simp only [eqGuard_add, Sem.run_bind, Sem.run_pure, Result.andThen_ok, binOp_string_add, e]
  exact hK _ _ h
/-- The row of names. -/
def namesV : Array Value := (names.map str).toArray
theorem namesV_get {k : Nat} (h : k < 59) : namesV[k]? = some (str (names.getD k [])) := by
  have hl : names.length = 59 := rfl
  unfold namesV
  rw [List.getElem?_toArray, List.getElem?_map, List.getElem?_eq_getElem (by omega)]
  simp [List.getD, List.getElem?_eq_getElem (show k < names.length by omega)]
theorem infoS : (Tryd.prog.info? 9).map (fun i => (i.zero, i.size)) = some (some (.string ⟨#[]⟩), 1) := by kernel_rfl
theorem infoS' : ∃ i, Tryd.prog.info? 9 = some i ∧ i.zero = some (.string ⟨#[]⟩) ∧ i.size = 1 := by
  have h := infoS
  match hi : Tryd.prog.info? 9 with
  | none => rw [hi] at h; cases h
  | some i =>
    rw [hi] at h
    simp only [Option.map_some, Option.some.injEq, Prod.mk.injEq] at h
    exact ⟨i, rfl, h.1, h.2⟩
set_option maxHeartbeats 2000000 in
set_option maxRecDepth 100000 in
theorem name_lo {k : Nat} (h : k < 59) (hk : ¬ (46 ≤ (k : Int) + 1 ∧ (k : Int) + 1 ≤ 56)) (m : Int) (w : World) :
    Calls Tryd.prog 47 #[.int .i64 ((k : Int) + 1), .int .i32 m] w fun e w' => e = .returned (str (names.getD k [])) ∧ Gr w w' := by
  obtain ⟨ie, hie, hz, hs⟩ := infoS'
  have c0 : (0 : Int) ≤ (k : Int) := by omega
  have c1 : (k : Int) < 59 := by omega
  have c2 : IntKind.i64.wrap ((k : Int) + 1 - 1) = (k : Int) := by unfold IntKind.wrap; simp [IntKind.bits, IntKind.signed]; omega
  have HN : Hid (∀ w : World, (w.alloc (.cells namesV 9)).cell? ⟨w.heap.size, k, none⟩ = some (str (names.getD k []))) := fun w => cr (heap_alloc_new w _) |>.trans (namesV_get h)
  have d1 : (k : Int) + 1 < 46 ∨ ¬ (k : Int) + 1 < 46 ∧ 56 < (k : Int) + 1 := by omega
  have q : (w.alloc (.cells namesV 9)).cell? ⟨w.heap.size, k, none⟩ = some (str (names.getD k [])) := HN.out w
  clear hk
  generalize names.getD k [] = a at *
  go_enter Tryd.func47, Tryd.ntmps47
  go_wp2_with (refine wpList_buildSlice rfl 148 9 59 _ rfl namesV ie _ Tryd.underlying148 hie hz (by rw [hs]; decide) (by rw [hs]; decide) (by rw [hs]; kernel_rfl) ?_)
  rcases d1 with d | ⟨d, d'⟩
  all_goals
    go_wp2_with fail
    go_ret
    exact ⟨rfl, (Gr.refl _).alloc _⟩
set_option maxHeartbeats 2000000 in
set_option maxRecDepth 100000 in
theorem name_hi {k : Nat} (h1 : 46 ≤ (k : Int) + 1) (h2 : (k : Int) + 1 ≤ 56) (m : Int) (w : World) :
    Calls Tryd.prog 47 #[.int .i64 ((k : Int) + 1), .int .i32 m] w fun e w' => e = .returned (str (names.getD k [] ++ [46, 119] ++ sfx m)) ∧ Gr w w' := by
  obtain ⟨ie, hie, hz, hs⟩ := infoS'
  have h : k < 59 := by omega
  have c0 : (0 : Int) ≤ (k : Int) := by omega
  have c1 : (k : Int) < 59 := by omega
  have c2 : IntKind.i64.wrap ((k : Int) + 1 - 1) = (k : Int) := by rw [IntKind.wrap_i64]; omega
  have d1 : ¬ (k : Int) + 1 < 46 := by omega
  have d2 : ¬ 56 < (k : Int) + 1 := by omega
  have HL : Hid ((names.getD k []).length ≤ 10) := by
    have : ∀ k : Fin 59, (names.getD k.val []).length ≤ 10 := by decide
    exact this ⟨k, h⟩
  have q : (w.alloc (.cells namesV 9)).cell? ⟨w.heap.size, k, none⟩ = some (str (names.getD k [])) := (cr (heap_alloc_new w _)).trans (namesV_get h)
  have hm : (m = 1 ∧ sfx m = [46, 114, 108]) ∨ (m = 2 ∧ sfx m = [46, 97, 113]) ∨ (m = 3 ∧ sfx m = [46, 97, 113, 114, 108]) ∨ ((m == 1) = false ∧ (m == 2) = false ∧ (m == 3) = false ∧ sfx m = []) := by
    unfold sfx
    by_cases e1 : m = 1
    · subst e1; exact .inl ⟨rfl, rfl⟩
    by_cases e2 : m = 2
    · subst e2; exact .inr (.inl ⟨rfl, rfl⟩)
    by_cases e3 : m = 3
    · subst e3; exact .inr (.inr (.inl ⟨rfl, rfl⟩))
    · exact .inr (.inr (.inr ⟨by simpa using e1, by simpa using e2, by simpa using e3, by rw [if_neg e1, if_neg e2, if_neg e3]⟩))
  clear h1 h2
  generalize names.getD k [] = a at *
  have HW : Hid ((a ++ [46, 119]).length ≤ 12) := by have := HL.out; simp; omega
  rcases hm with ⟨rfl, e⟩ | ⟨rfl, e⟩ | ⟨rfl, e⟩ | ⟨e1, e2, e3, e⟩
  all_goals
    rw [e]; clear e
    go_enter Tryd.func47, Tryd.ntmps47
    go_wp2_with (first
      | (refine wpList_buildSlice rfl 148 9 59 _ rfl namesV ie _ Tryd.underlying148 hie hz (by rw [hs]; decide) (by rw [hs]; decide) (by rw [hs]; kernel_rfl) ?_)
      | (refine wpList_cat rfl _ _ _ _ rfl a [46, 119] rfl rfl (by have := HL.out; simp; omega) ?_)
      | (refine wpList_cat rfl _ _ _ _ rfl (a ++ [46, 119]) [46, 114, 108] rfl rfl (by have := HL.out; simp; omega) ?_)
      | (refine wpList_cat rfl _ _ _ _ rfl (a ++ [46, 119]) [46, 97, 113] rfl rfl (by have := HL.out; simp; omega) ?_)
      | (refine wpList_cat rfl _ _ _ _ rfl (a ++ [46, 119]) [46, 97, 113, 114, 108] rfl rfl (by have := HL.out; simp; omega) ?_))
    go_ret
    exact ⟨by simp, (Gr.refl _).alloc _⟩
/-- The name of an instruction. -/
theorem name_any {op : Int} (h1 : 1 ≤ op) (h2 : op ≤ 59) (m : Int) (w : World) :
    Calls Tryd.prog 47 #[.int .i64 op, .int .i32 m] w fun e w' => e = .returned (str (nameB op m)) ∧ Gr w w' := by
  obtain ⟨k, rfl⟩ : ∃ k : Nat, op = (k : Int) + 1 := ⟨(op - 1).toNat, by omega⟩
  unfold nameB
  rw [show ((k : Int) + 1 - 1).toNat = k by omega]
  by_cases h : 46 ≤ (k : Int) + 1 ∧ (k : Int) + 1 ≤ 56
  · rw [if_pos h]; exact name_hi h.1 h.2 m w
  · rw [if_neg h]; exact name_lo (by omega) h m w
theorem name_len {op : Int} (h1 : 1 ≤ op) (h2 : op ≤ 59) (m : Int) : (nameB op m).length ≤ 20 := by
  obtain ⟨k, rfl⟩ : ∃ k : Nat, op = (k : Int) + 1 := ⟨(op - 1).toNat, by omega⟩
  have : ∀ k : Fin 59, (names.getD k.val []).length ≤ 10 := by decide
  have := this ⟨k, by omega⟩
  unfold nameB sfx
  rw [show ((k : Int) + 1 - 1).toNat = k by omega]
  simp only at this
  generalize names.getD k [] = a at *
  repeat' split
  all_goals simp; omega
end Go.Proofs.YtkdghgiajifbdaaDoor.As
