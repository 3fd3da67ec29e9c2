/-
  Small steps, as plain data: what each does ('mic'), and a row of them ('mrun'): no program in sight.
-/
import Derived.Test.YtkdghgiajifbdaaDoorHs
import Derived.Test.YtkdghgiajifbdaaDoorHb
namespace Go.Proofs.YtkdghgiajifbdaaDoor.Mi
open Mm Wd Hh
set_option linter.unusedVariables false

/-- A small step. -/
structure Mv where
  op : Int
  d : Int
  a : Int
  b : Int
  n : Int
/-- What goes on: the hart, the memory, what came out, how many instructions are done, where was stored, the registers above 31, here, whether something was stored in the own bytes, whether it has stopped. -/
structure Rn where
  h : Hv
  m : List UInt8
  out : List Int
  n : Nat
  sto : List (Int × Int)
  tm : List Int
  here : Int
  own : Bool
  over : Bool
def Rn.get (r : Rn) (k : Int) : Int := if k < 32 then rg r.h k.toNat else r.tm.getD (k - 32).toNat 0
def Rn.put (r : Rn) (k x : Int) : Rn := if 32 ≤ k then { r with tm := r.tm.set (k - 32).toNat x } else { r with h := r.h.set k.toNat x }
def Rn.stop (r : Rn) (pc : Int) : Rn := { r with h := r.h.go pc, over := true }
def Rn.trap (r : Rn) (c : Int) : Rn := { r with h := (r.h.trap c).go r.here, over := true }
/-- Is one of so many bytes from p on within the own ones? -/
def hits (bf bt p : Int) : Nat → Bool
  | 0 => false
  | k + 1 => hits bf bt p k || decide (bf ≤ lo (p + k) ∧ lo (p + k) < bt)
def Rn.stored (r : Rn) (bf bt : Int) (p : Int) (many : Nat) : Rn := { r with sto := r.sto ++ [(p, (many : Int))], own := r.own || hits bf bt p many }
def mLoad (r : Rn) (op p d : Int) : Rn := if ldOk r.m op p = true then r.put d (ldV r.m op p) else r.trap 3
def mStore (bf bt : Int) (r : Rn) (op p x : Int) : Rn := if stOk r.m op p = true then { r with m := stL r.m op p x }.stored bf bt p (ssz op) else r.trap 4
def mLr (r : Rn) (a d : Int) : Rn := if ldOk r.m 13 a = true then { r with h := r.h.hold true a }.put d (ldV r.m 13 a) else r.trap 3
def mSc (bf bt : Int) (r : Rn) (a b d : Int) : Rn := if ldOk r.m 13 a = true then (if r.h.held = true ∧ r.h.heldAt = a then ({ r with h := r.h.hold false 0, m := stL r.m 18 a b }.stored bf bt a 4).put d 0 else { r with h := r.h.hold false 0 }.put d 1) else r.trap 4
def mAmo (bf bt : Int) (r : Rn) (op a b d : Int) : Rn := if ldOk r.m 13 a = true then ({ r with m := stL r.m 18 a (amo op (ldV r.m 13 a) b) }.stored bf bt a 4).put d (ldV r.m 13 a) else r.trap 4
def mAtom (bf bt : Int) (r : Rn) (op a b d : Int) : Rn := if op = 46 then mLr r a d else if op = 47 then mSc bf bt r a b d else mAmo bf bt r op a b d
def mCall (r : Rn) : Rn := if rg r.h 17 = 0 then { r with h := r.h.halt.go r.here, over := true } else if rg r.h 17 = 1 then { r with out := r.out ++ [rg r.h 10] } else r.trap 5
def mAt (steps : Int) (r : Rn) (n : Int) : Rn := if (r.n : Int) = steps ∨ r.own = true then r.stop n else { r with n := r.n + 1, here := n }
/-- A small step that may be, and has an operation: which one, of which kind. -/
def mOp (bf bt : Int) (r : Rn) (c op : Int) (i : Mv) : Rn :=
  if c = 100 then (if holds op (r.get i.a) (r.get i.b) = true then r.stop i.n else r)
  else if c = 200 then mLoad r op (lo (r.get i.a + i.n)) i.d
  else if c = 300 then mStore bf bt r op (lo (r.get i.a + i.n)) (r.get i.b)
  else if c = 400 then r.put i.d (alu op (r.get i.a) (r.get i.b))
  else if c = 500 then r.put i.d (alu op (r.get i.a) i.n)
  else if c = 600 then mAtom bf bt r op (r.get i.a) (r.get i.b) i.d else r
def mic (bf bt steps : Int) (r : Rn) (i : Mv) : Rn :=
  if i.op = 1 then mAt steps r i.n else if i.op = 2 then r.put i.d i.n else if i.op = 3 then r.stop i.n
  else if i.op = 4 then r.stop (lo (r.get i.a + i.n) - lo (r.get i.a + i.n) % 2) else if i.op = 5 then mCall r else if i.op = 6 then r.trap 6
  else mOp bf bt r (i.op - i.op % 100) (i.op % 100) i
/-- Which of D, A, B, N (1, 2, 4, 8 together) a small step has; below 0: there is none such. -/
def named (op : Int) : Int :=
  if op = 1 ∨ op = 3 then 8 else if op = 2 then 9 else if op = 4 then 10 else if op = 5 ∨ op = 6 then 0
  else if 105 ≤ op ∧ op ≤ 110 then 14 else if 211 ≤ op ∧ op ≤ 215 then 11 else if 316 ≤ op ∧ op ≤ 318 then 14
  else if 428 ≤ op ∧ op ≤ 445 then 7 else if 528 ≤ op ∧ op ≤ 545 then 11 else if 646 ≤ op ∧ op ≤ 656 then 7 else -1
/-- A register that is named, or is not. -/
def regOk (has : Bool) (k : Int) : Bool := decide ((has = true ∨ k = 0) ∧ 0 ≤ k ∧ k < 36)
/-- It may be. -/
def micOk (i : Mv) : Bool := decide (0 ≤ named i.op) && (decide (8 ≤ named i.op ∨ i.n = 0) && (regOk (decide (named i.op % 2 = 1)) i.d && (regOk (decide (named i.op / 2 % 2 = 1)) i.a && regOk (decide (named i.op / 4 % 2 = 1)) i.b)))
def mayC (code : List Mv) : Bool := decide (code.length ≤ 200) && code.all micOk
/-- A row of them, from the first one on. -/
def mrun (bf bt steps : Int) (r : Rn) : List Mv → Rn
  | [] => r
  | i :: is => if r.over = true then r else mrun bf bt steps (mic bf bt steps r i) is
/-- Behind the last one. -/
def mend (r : Rn) : Rn := if r.over = false ∧ 0 < r.n then { r with h := r.h.go (lo (r.here + 4)) } else r
def mstart (h : Hv) (l : List UInt8) : Rn := ⟨h, l, [], 0, [], [0, 0, 0, 0], h.pc, false, false⟩
def mplay (bf bt steps : Int) (h : Hv) (l : List UInt8) (code : List Mv) : Rn := mend (mrun bf bt steps (mstart h l) code)
/-- All words are words. -/
structure Rn.Ok (r : Rn) : Prop where
  h : r.h.Ok
  tl : r.tm.length = 4
  tb : ∀ j, 0 ≤ r.tm.getD j 0 ∧ r.tm.getD j 0 < 4294967296
  h0 : 0 ≤ r.here
  h1 : r.here < 4294967296
theorem Rn.Ok.get {r : Rn} (o : r.Ok) (k : Int) : W (r.get k) := by
  unfold Rn.get
  split
  · exact o.h.reg _
  · exact o.tb _
theorem tm_set (l : List Int) (k j : Nat) (x : Int) : (l.set k x).getD j 0 = if j = k ∧ k < l.length then x else l.getD j 0 := by
  simp only [List.getD, List.getElem?_set]
  by_cases e : k = j
  · subst e
    by_cases h : k < l.length
    · simp [h]
    · simp [h]
  · have e2 : ¬ j = k := fun q => e q.symm
    simp [e, e2]
theorem Rn.Ok.put {r : Rn} (o : r.Ok) (k : Int) {x : Int} (hx : W x) : (r.put k x).Ok := by
  unfold Rn.put
  split
  · refine ⟨o.h, by simp [o.tl], fun j => ?_, o.h0, o.h1⟩
    show 0 ≤ (r.tm.set _ x).getD j 0 ∧ _
    rw [tm_set]
    split
    · exact hx
    · exact o.tb j
  · exact ⟨o.h.set _ hx.1 hx.2, o.tl, o.tb, o.h0, o.h1⟩
theorem Rn.Ok.stop {r : Rn} (o : r.Ok) {x : Int} (hx : W x) : (r.stop x).Ok := ⟨o.h.go hx.1 hx.2, o.tl, o.tb, o.h0, o.h1⟩
theorem Rn.Ok.trap {r : Rn} (o : r.Ok) (c : Int) : (r.trap c).Ok := ⟨(o.h.trap c).go o.h0 o.h1, o.tl, o.tb, o.h0, o.h1⟩
theorem Rn.Ok.hart {r : Rn} (o : r.Ok) {h : Hv} (q : h.Ok) : Rn.Ok { r with h := h } := ⟨q, o.tl, o.tb, o.h0, o.h1⟩
theorem Rn.Ok.mem {r : Rn} (o : r.Ok) (m : List UInt8) : Rn.Ok { r with m := m } := ⟨o.h, o.tl, o.tb, o.h0, o.h1⟩
theorem Rn.Ok.stored {r : Rn} (o : r.Ok) (bf bt p : Int) (k : Nat) : (r.stored bf bt p k).Ok := ⟨o.h, o.tl, o.tb, o.h0, o.h1⟩
end Go.Proofs.YtkdghgiajifbdaaDoor.Mi
