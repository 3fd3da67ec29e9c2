/-
  One step of a hart, as plain data: no program in sight.
-/
import Derived.Test.YtdiofidmlgliiaaDoorHv
import Derived.Test.YtdiofidmlgliiaaDoorDec
namespace Go.Proofs.YtdiofidmlgliiaaDoor.Hh
open Mm Wd
set_option linter.unusedVariables false

/-- What an instruction that takes a number reckons. -/
def opn (op : Int) : Int := if op = 19 then 28 else if op = 20 then 31 else if op = 21 then 32 else if op = 22 then 33 else if op = 23 then 36 else if op = 24 then 37 else if op = 25 then 30 else if op = 26 then 34 else 35
/-- What an instruction did, but for its jump and Rd: the hart, the memory, what came out, where was stored and how many bytes, and what Rd becomes. -/
structure Ev where
  h : Hv
  m : List UInt8
  out : List Int
  sto : List (Int × Int)
  res : Option Int
def efLoad (h : Hv) (l : List UInt8) (op at' : Int) : Ev := if ldOk l op at' = true then ⟨h, l, [], [], some (ldV l op at')⟩ else ⟨h.trap 3, l, [], [], none⟩
def efStore (h : Hv) (l : List UInt8) (op at' b : Int) : Ev := if stOk l op at' = true then ⟨h, stL l op at' b, [], [(at', (ssz op : Nat))], none⟩ else ⟨h.trap 4, l, [], [], none⟩
def efLr (h : Hv) (l : List UInt8) (a : Int) : Ev := if ldOk l 13 a = true then ⟨h.hold true a, l, [], [], some (ldV l 13 a)⟩ else ⟨h.trap 3, l, [], [], none⟩
def efSc (h : Hv) (l : List UInt8) (a b : Int) : Ev := if ldOk l 13 a = true then (if h.held = true ∧ h.heldAt = a then ⟨h.hold false 0, stL l 18 a b, [], [(a, 4)], some 0⟩ else ⟨h.hold false 0, l, [], [], some 1⟩) else ⟨h.trap 4, l, [], [], none⟩
def efAmo (h : Hv) (l : List UInt8) (op a b : Int) : Ev := if ldOk l 13 a = true then ⟨h, stL l 18 a (amo op (ldV l 13 a) b), [], [(a, 4)], some (ldV l 13 a)⟩ else ⟨h.trap 4, l, [], [], none⟩
def efAtom (h : Hv) (l : List UInt8) (op a b : Int) : Ev := if op = 46 then efLr h l a else if op = 47 then efSc h l a b else efAmo h l op a b
def efCall (h : Hv) (l : List UInt8) : Ev := if rg h 17 = 0 then ⟨h.halt, l, [], [], none⟩ else if rg h 17 = 1 then ⟨h, l, [rg h 10], [], none⟩ else ⟨h.trap 5, l, [], [], none⟩
/-- All of an instruction but its jump and Rd. -/
def eff (h : Hv) (l : List UInt8) (op a b n : Int) : Ev :=
  if op = 1 then ⟨h, l, [], [], some n⟩ else if op = 2 then ⟨h, l, [], [], some (lo (h.pc + n))⟩ else if op = 3 ∨ op = 4 then ⟨h, l, [], [], some (lo (h.pc + 4))⟩
  else if 11 ≤ op ∧ op ≤ 15 then efLoad h l op (lo (a + n)) else if 16 ≤ op ∧ op ≤ 18 then efStore h l op (lo (a + n)) b
  else if 19 ≤ op ∧ op ≤ 27 then ⟨h, l, [], [], some (alu (opn op) a n)⟩ else if 28 ≤ op ∧ op ≤ 45 then ⟨h, l, [], [], some (alu op a b)⟩
  else if 46 ≤ op ∧ op ≤ 56 then efAtom h l op a b else if op = 58 then efCall h l else if op = 59 then ⟨h.trap 6, l, [], [], none⟩ else ⟨h, l, [], [], none⟩
/-- Where the hart goes on. -/
def nxt (h : Hv) (op a b n : Int) : Int := if op = 4 then lo (a + n) - lo (a + n) % 2 else if op = 3 ∨ holds op a b = true then lo (h.pc + n) else lo (h.pc + 4)
/-- A step: the hart, the memory, what came out, where was stored. -/
structure Sv where
  h : Hv
  m : List UInt8
  out : List Int
  sto : List (Int × Int)
def Hv.put (h : Hv) (rd : Nat) : Option Int → Hv
  | some x => h.set rd x
  | none => h
def Hv.on (h : Hv) (x : Int) : Hv := if h.state = 0 then h.go x else h
def done (e : Ev) (rd : Nat) (nx : Int) : Sv := ⟨(e.h.put rd e.res).on nx, e.m, e.out, e.sto⟩
/-- An instruction. -/
def ins (h : Hv) (l : List UInt8) (op rd r1 r2 im : Int) : Sv :=
  done (eff h l op (rg h r1.toNat) (rg h r2.toNat) (lo im)) rd.toNat (nxt h op (rg h r1.toNat) (rg h r2.toNat) (lo im))
/-- The instruction that a word is. -/
def insW (h : Hv) (l : List UInt8) (x : Int) : Sv :=
  if Dc.dop x = 0 then ⟨h.trap 2, l, [], []⟩ else ins h l (Dc.dop x) (Dc.rdF (Dc.frm (Dc.dop x)) x) (Dc.rs1F (Dc.frm (Dc.dop x)) x) (Dc.rs2F (Dc.frm (Dc.dop x)) x) (Dc.immF (Dc.frm (Dc.dop x)) x)
/-- One step of a hart that runs. -/
def stp (h : Hv) (l : List UInt8) : Sv := if ldOk l 13 h.pc = true then insW h l (ldV l 13 h.pc) else ⟨h.trap 1, l, [], []⟩
/-- It may be. -/
def may (h : Hv) : Bool := decide (rg h 0 = 0 ∧ (h.held = false → h.heldAt = 0) ∧ (((h.state = 0 ∨ h.state = 1) ∧ h.cause = 0) ∨ (h.state = 2 ∧ 1 ≤ h.cause ∧ h.cause ≤ 6)))
end Go.Proofs.YtdiofidmlgliiaaDoor.Hh
