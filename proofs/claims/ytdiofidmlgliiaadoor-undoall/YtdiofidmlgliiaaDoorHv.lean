/-
  A hart, and what a step of the document's did, as plain data, and as the cells of a struct.
-/
import Derived.Test.YtdiofidmlgliiaaDoorMem
import Derived.Deep.MidRow
import Derived.Deep.WholeRow
namespace Go.Proofs.YtdiofidmlgliiaaDoor.Hh
open Go.ChangeShapes Go.WideShapes Go.ChangeAt Go.RowKit Mm
set_option linter.unusedVariables false

/-- A hart. -/
structure Hv where
  regs : List Int
  pc : Int
  held : Bool
  heldAt : Int
  state : Int
  cause : Int
/-- What a step did: the hart, the memory and what came out (as slices), where was stored, and how many bytes. -/
structure Dv where
  h : Hv
  m : Value
  out : Value
  fro : Int
  many : Int
def hL (h : Hv) : List Value := h.regs.map (Value.int .u32) ++ [.int .u32 h.pc, .bool h.held, .int .u32 h.heldAt, .int .i64 h.state, .int .i64 h.cause]
def hA (h : Hv) : Array Value := (hL h).toArray
def dA (d : Dv) : Array Value := (hL d.h ++ [d.m, d.out, .int .u32 d.fro, .int .i64 d.many]).toArray
def rg (h : Hv) (i : Nat) : Int := h.regs.getD i 0
/-- It is one: 32 registers, each a word; PC and HeldAt are words. -/
structure Hv.Ok (h : Hv) : Prop where
  len : h.regs.length = 32
  reg : ∀ i, 0 ≤ rg h i ∧ rg h i < 4294967296
  pc0 : 0 ≤ h.pc
  pc1 : h.pc < 4294967296
  at0 : 0 ≤ h.heldAt
  at1 : h.heldAt < 4294967296
/-- A register but 0 set. -/
def Hv.set (h : Hv) (r : Nat) (x : Int) : Hv := if r = 0 then h else { h with regs := h.regs.set r x }
def Hv.go (h : Hv) (x : Int) : Hv := { h with pc := x }
def Hv.trap (h : Hv) (c : Int) : Hv := { h with state := 2, cause := c }
def Hv.hold (h : Hv) (b : Bool) (x : Int) : Hv := { h with held := b, heldAt := x }
def Hv.halt (h : Hv) : Hv := { h with state := 1 }
def Dv.setH (d : Dv) (h : Hv) : Dv := { d with h := h }
def Dv.setM (d : Dv) (m : Value) (f n : Int) : Dv := { d with m := m, fro := f, many := n }
def Dv.setO (d : Dv) (v : Value) : Dv := { d with out := v }
/-- Slices are one cell each. -/
structure Dv.Ok (d : Dv) : Prop where
  h : d.h.Ok
  m : d.m.oneCell' = true
  out : d.out.oneCell' = true
theorem rg_set (h : Hv) (r : Nat) (x : Int) (i : Nat) : rg { h with regs := h.regs.set r x } i = if i = r ∧ r < h.regs.length then x else rg h i := by
  unfold rg
  simp only [List.getD, List.getElem?_set]
  by_cases e : r = i
  · subst e
    by_cases l : r < h.regs.length
    · simp [l]
    · simp [l]
  · have e2 : ¬ i = r := fun q => e q.symm
    simp [e, e2]
theorem Hv.Ok.set {h : Hv} (o : h.Ok) (r : Nat) {x : Int} (h0 : 0 ≤ x) (h1 : x < 4294967296) : (h.set r x).Ok := by
  unfold Hv.set
  split
  · exact o
  · refine ⟨by simp [o.len], fun i => ?_, o.pc0, o.pc1, o.at0, o.at1⟩
    rw [rg_set]
    split
    · exact ⟨h0, h1⟩
    · exact o.reg i
theorem Hv.Ok.go {h : Hv} (o : h.Ok) {x : Int} (h0 : 0 ≤ x) (h1 : x < 4294967296) : (h.go x).Ok := ⟨o.len, o.reg, h0, h1, o.at0, o.at1⟩
theorem Hv.Ok.trap {h : Hv} (o : h.Ok) (c : Int) : (h.trap c).Ok := ⟨o.len, o.reg, o.pc0, o.pc1, o.at0, o.at1⟩
theorem Hv.Ok.halt {h : Hv} (o : h.Ok) : h.halt.Ok := ⟨o.len, o.reg, o.pc0, o.pc1, o.at0, o.at1⟩
theorem Hv.Ok.hold {h : Hv} (o : h.Ok) (b : Bool) {x : Int} (h0 : 0 ≤ x) (h1 : x < 4294967296) : (h.hold b x).Ok := ⟨o.len, o.reg, o.pc0, o.pc1, h0, h1⟩
theorem Dv.Ok.setH {d : Dv} (o : d.Ok) {h : Hv} (q : h.Ok) : (d.setH h).Ok := ⟨q, o.m, o.out⟩
theorem hL_len {h : Hv} (o : h.Ok) : (hL h).length = 37 := by simp [hL, o.len]
theorem hA_size {h : Hv} (o : h.Ok) : (hA h).size = 37 := by simp [hA, hL_len o]
theorem dA_size {d : Dv} (o : d.h.Ok) : (dA d).size = 41 := by simp [dA, hL_len o]
theorem hL_reg {h : Hv} (o : h.Ok) {i : Nat} (hi : i < 32) : (hL h)[i]? = some (.int .u32 (rg h i)) := by
  have := o.len
  unfold hL
  rw [List.getElem?_append_left (by simp; omega), List.getElem?_map, List.getElem?_eq_getElem (by omega)]
  simp [rg, List.getD, List.getElem?_eq_getElem (show i < h.regs.length by omega)]
theorem hL_fld {h : Hv} (o : h.Ok) (j : Nat) : (hL h)[32 + j]? = [Value.int .u32 h.pc, .bool h.held, .int .u32 h.heldAt, .int .i64 h.state, .int .i64 h.cause][j]? := by
  unfold hL
  rw [List.getElem?_append_right (by simp [o.len])]
  simp [o.len]
theorem set_reg {h : Hv} (o : h.Ok) {i : Nat} (hi : i < 32) (x : Int) : (hL h).set i (.int .u32 x) = hL { h with regs := h.regs.set i x } := by
  have := o.len
  unfold hL
  rw [List.set_append_left _ _ (by simp; omega), List.map_set]
theorem set_pc {h : Hv} (o : h.Ok) (x : Int) : (hL h).set 32 (.int .u32 x) = hL { h with pc := x } := by
  unfold hL; rw [List.set_append_right _ _ (by simp [o.len])]; simp [o.len]
theorem set_held {h : Hv} (o : h.Ok) (x : Bool) : (hL h).set 33 (.bool x) = hL { h with held := x } := by
  unfold hL; rw [List.set_append_right _ _ (by simp [o.len])]; simp [o.len]
theorem set_heldAt {h : Hv} (o : h.Ok) (x : Int) : (hL h).set 34 (.int .u32 x) = hL { h with heldAt := x } := by
  unfold hL; rw [List.set_append_right _ _ (by simp [o.len])]; simp [o.len]
theorem set_state {h : Hv} (o : h.Ok) (x : Int) : (hL h).set 35 (.int .i64 x) = hL { h with state := x } := by
  unfold hL; rw [List.set_append_right _ _ (by simp [o.len])]; simp [o.len]
theorem set_cause {h : Hv} (o : h.Ok) (x : Int) : (hL h).set 36 (.int .i64 x) = hL { h with cause := x } := by
  unfold hL; rw [List.set_append_right _ _ (by simp [o.len])]; simp [o.len]
/-- A cell of the hart, set in what a step did. -/
theorem dA_set {d : Dv} (o : d.h.Ok) {i : Nat} (hi : i < 37) {v : Value} {h' : Hv} (e : (hL d.h).set i v = hL h') : (dA d).setIfInBounds i v = dA { d with h := h' } := by
  have := hL_len o
  unfold dA
  simp only [List.setIfInBounds_toArray]
  rw [List.set_append_left _ _ (by omega), e]
theorem dA_get {d : Dv} (o : d.h.Ok) {i : Nat} (hi : i < 37) : (dA d)[i]? = (hL d.h)[i]? := by
  have := hL_len o
  unfold dA
  rw [List.getElem?_toArray, List.getElem?_append_left (by omega)]
theorem dA_fld {d : Dv} (o : d.h.Ok) (j : Nat) : (dA d)[37 + j]? = [d.m, d.out, Value.int .u32 d.fro, .int .i64 d.many][j]? := by
  unfold dA
  rw [List.getElem?_toArray, List.getElem?_append_right (by simp [hL_len o])]
  simp [hL_len o]
theorem one_dA {d : Dv} (o : d.Ok) : (dA d).all (·.oneCell') = true := by
  refine all_oneCell_toArray ?_
  intro v hv
  simp only [hL, List.mem_append, List.mem_map, List.mem_cons, List.not_mem_nil, or_false] at hv
  rcases hv with (⟨n, _, rfl⟩ | rfl | rfl | rfl | rfl | rfl) | rfl | rfl | rfl | rfl <;> first | rfl | exact o.m | exact o.out
theorem one_hA (h : Hv) : (hA h).all (·.oneCell') = true := by
  refine all_oneCell_toArray ?_
  intro v hv
  simp only [hL, List.mem_append, List.mem_map, List.mem_cons, List.not_mem_nil, or_false] at hv
  rcases hv with ⟨n, _, rfl⟩ | rfl | rfl | rfl | rfl | rfl <;> rfl
theorem gr_setRow {a w : World} (h : Gr a w) {g : Nat} (hg : a.heap.size ≤ g) (cs : Array Value) : Gr a (w.setRow g cs) := below_setRow h hg cs
theorem heap_setRow2 (w : World) (A : Obj) (z cs : Array Value) (t : Nat) : (((w.alloc A).alloc (.cells z t)).setRow (w.heap.size + 1) cs).heap[w.heap.size + 1]? = some (.cells cs t (0, 0)) :=
  setRow_heap _ _ z cs t (0, 0) (heap_alloc2_new w A _)
end Go.Proofs.YtdiofidmlgliiaaDoor.Hh
