/-
  What the function read of package ferrybridgeref11 answers, a walk a class of instructions. Printed by tools/mkab8.py.
-/
import Derived.Test.YtkdghgiajifbdaaDoorAb7
import Derived.Test.YtkdghgiajifbdaaDoorAa5
import Derived.Deep.RegionHeld3
namespace Go.Proofs.YtkdghgiajifbdaaDoor.As
open Go.ChangeShapes Go.WideShapes Go.ChangeAt Go.RowKit Mm
set_option linter.unusedVariables false

variable {w w' : World}
/-- What read answers: whether all was read and the number fits, and then which fields. -/
def RdE (w : World) (o : Option (List Nat)) (op rd a b n : Int) (e : Ending) (w' : World) : Prop :=
  ∃ (g1 g2 g3 g4 g5 : Int) (t : Bool), e = .returned (.tuple #[.agg #[.int .i64 g1, .int .i64 g2, .int .i64 g3, .int .i64 g4, .int .i32 g5], .bool t]) ∧ Gr w w' ∧ (-2147483648 ≤ g5 ∧ g5 < 2147483648) ∧ (t = true ↔ o = some [] ∧ -2147483648 ≤ n ∧ n < 2147483648) ∧ (t = true → (g1, g2, g3, g4, g5) = (op, rd, a, b, n))
def EatC (g : Nat) (L : List Nat) (c : UInt8) (o o' : Option (List Nat)) : Prop := ∀ W : World, Rx W g L o → Calls Tryd.prog 95 #[.pointer (some ⟨g, 0, none⟩), .string ⟨#[c]⟩] W fun e w' => e = .returned (.tuple #[]) ∧ Rx w' g L o' ∧ Kp g W w'
def NumC (g : Nat) (L : List Nat) (o : Option (List Nat)) (v : Int) (o' : Option (List Nat)) : Prop := ∀ W : World, Rx W g L o → Calls Tryd.prog 97 #[.pointer (some ⟨g, 0, none⟩)] W fun e w' => e = .returned (.int .i64 v) ∧ Rx w' g L o' ∧ Kp g W w'
def RegC (g : Nat) (L : List Nat) (o : Option (List Nat)) (v : Int) (o' : Option (List Nat)) : Prop := ∀ W : World, Rx W g L o → Calls Tryd.prog 96 #[.pointer (some ⟨g, 0, none⟩)] W fun e w' => e = .returned (.int .i64 v) ∧ Rx w' g L o' ∧ Kp g W w'
def PlcC (g : Nat) (L : List Nat) (o : Option (List Nat)) (v : Int) (o' : Option (List Nat)) : Prop := ∀ W : World, Rx W g L o → Calls Tryd.prog 98 #[.pointer (some ⟨g, 0, none⟩)] W fun e w' => e = .returned (.int .i64 v) ∧ Rx w' g L o' ∧ Kp g W w'
theorem drop_ne {L : List Nat} {p : Nat} (h : p < L.length) : L.drop p ≠ [] := fun e => by
  have := congrArg List.length e
  simp at this; omega
theorem held_store_r {P : Program} {md : Region.Mode} {ops : Array Oper} {Q : Exit → Act → World → Prop} {S : World → Prop} {fuel i : Nat} {listed : Array Bool} {o : Oper} {a : Act} (hr : Region.ready md ops listed = [i]) (hoi : ops[i]? = some o) (hg : o.guard = none) (ty : TypeId) (x y : Operand) (ho : o.op = .store ty x y)
    (g : Nat) (cells : Array Value) (hx : a.eval x = .pointer (some ⟨g, 0, none⟩)) (hy : a.eval y = .agg cells) (t : TypeId) (old : Array Value) (hb : w.heap[g]? = some (.cells old t (0, 0))) (hi : (P.info? ty).map (·.size) = some cells.size) (hold : old.size = cells.size) (h1 : cells.all (·.oneCell') = true)
    (hS : S (w.setRow g cells)) (h : wpAnyH P md ops Q S fuel (listed.setIfInBounds i true) (a.put o.dst undef) (w.setRow g cells)) : wpAnyH P md ops Q S (fuel + 1) listed a w :=
  wpAnyH_ready hr (by simp) (AllReadyH.cons hoi (fun K hK => by
    rw [if_pos (by simp [Region.wanted, hg])]
    unfold Oper.wp execOp
    simp only [ho, hx, hy, Instr.storeAt, Instr.sureAddr, Sem.run_bind, Sem.run_pure, Result.andThen_ok, run_storeVar_row w g t ty old cells hb hi hold h1]
    exact hK.out _ _ hS fun _ => h) AllReadyH.nil)
theorem one5 (a b c d e : Int) : (#[.int .i64 a, .int .i64 b, .int .i64 c, .int .i64 d, .int .i32 e] : Array Value).all (·.oneCell') = true := by simp [Value.oneCell']
theorem _root_.Go.Proofs.YtkdghgiajifbdaaDoor.Mm.Gr.dr1 {a b : World} (h : Gr a b) : Gr a b.drew := Below.trans h ⟨rfl, rfl, rfl, Nat.le_refl _, fun _ _ => rfl⟩
theorem gr_row {a b : World} (h : Gr a b) (c : Array Value) : Gr a (b.setRow a.heap.size c) :=
  Below.trans h ⟨rfl, rfl, rfl, by simp [World.setRow], fun k hk => setRow_other _ _ _ _ (by omega)⟩
theorem atWz {P : Program} {c : Code} {Q : Exit → Act → World → Prop} {a : Act} {x : World} (F : World → Prop) (hF : F x) (h : ∀ W, F W → Code.wp P c Q a W) : Code.wp P c Q a x := h x hF
theorem wrap_in32 (n : Int) : -2147483648 ≤ wrap32 n ∧ wrap32 n < 2147483648 ∧ (-2147483648 ≤ n → n < 2147483648 → wrap32 n = n) := by unfold wrap32; omega
theorem al2' (w : World) (a b : Obj) : ((w.alloc a).alloc b).heap[w.heap.size + 1]? = some b := by
  have := heap_alloc_new (w.alloc a) b
  simpa using this
end Go.Proofs.YtkdghgiajifbdaaDoor.As
