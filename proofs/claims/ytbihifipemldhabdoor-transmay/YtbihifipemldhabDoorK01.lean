/-
  Mz, Rm5, To, TmW, Tc, Sq: texts of ours that lie in one file.
-/
import Derived.Test.YtbihifipemldhabDoorHs
import Derived.Test.YtbihifipemldhabDoorHb
import Derived.Test.YtbihifipemldhabDoorHc
import Derived.Test.YtbihifipemldhabDoorMem
import Derived.ProofKit
import Derived.SizedLaws
import Derived.Deep.Slices
import Derived.Test.YtbihifipemldhabDoorBk
import Derived.Test.YtbihifipemldhabDoorHm2
import Derived.Laws.OwnMore
/-
  Small steps, as plain data: what each does ('mic'), and a row of them ('mrun'): no program in sight.
-/
namespace Go.Proofs.YtbihifipemldhabDoor.Mi
open Mm Wd Hh
set_option linter.unusedVariables false

/-- A small step. -/
structure Mv where
  op : Int
  d : Int
  a : Int
  b : Int
  n : Int
/-- What goes on: the hart, the memory, what came out, how many instructions are done, where was stored, the registers above 31, here, whether something was stored in the own bytes, whether it has stopped. -/
structure Rn where
  h : Hv
  m : List UInt8
  out : List Int
  n : Nat
  sto : List (Int × Int)
  tm : List Int
  here : Int
  own : Bool
  over : Bool
def Rn.get (r : Rn) (k : Int) : Int := if k < 32 then rg r.h k.toNat else r.tm.getD (k - 32).toNat 0
def Rn.put (r : Rn) (k x : Int) : Rn := if 32 ≤ k then { r with tm := r.tm.set (k - 32).toNat x } else { r with h := r.h.set k.toNat x }
def Rn.stop (r : Rn) (pc : Int) : Rn := { r with h := r.h.go pc, over := true }
def Rn.trap (r : Rn) (c : Int) : Rn := { r with h := (r.h.trap c).go r.here, over := true }
/-- Is one of so many bytes from p on within the own ones? -/
def hits (bf bt p : Int) : Nat → Bool
  | 0 => false
  | k + 1 => hits bf bt p k || decide (bf ≤ lo (p + k) ∧ lo (p + k) < bt)
def Rn.stored (r : Rn) (bf bt : Int) (p : Int) (many : Nat) : Rn := { r with sto := r.sto ++ [(p, (many : Int))], own := r.own || hits bf bt p many }
def mLoad (r : Rn) (op p d : Int) : Rn := if ldOk r.m op p = true then r.put d (ldV r.m op p) else r.trap 3
def mStore (bf bt : Int) (r : Rn) (op p x : Int) : Rn := if stOk r.m op p = true then { r with m := stL r.m op p x }.stored bf bt p (ssz op) else r.trap 4
def mLr (r : Rn) (a d : Int) : Rn := if ldOk r.m 13 a = true then { r with h := r.h.hold true a }.put d (ldV r.m 13 a) else r.trap 3
def mSc (bf bt : Int) (r : Rn) (a b d : Int) : Rn := if ldOk r.m 13 a = true then (if r.h.held = true ∧ r.h.heldAt = a then ({ r with h := r.h.hold false 0, m := stL r.m 18 a b }.stored bf bt a 4).put d 0 else { r with h := r.h.hold false 0 }.put d 1) else r.trap 4
def mAmo (bf bt : Int) (r : Rn) (op a b d : Int) : Rn := if ldOk r.m 13 a = true then ({ r with m := stL r.m 18 a (amo op (ldV r.m 13 a) b) }.stored bf bt a 4).put d (ldV r.m 13 a) else r.trap 4
def mAtom (bf bt : Int) (r : Rn) (op a b d : Int) : Rn := if op = 46 then mLr r a d else if op = 47 then mSc bf bt r a b d else mAmo bf bt r op a b d
def mCall (r : Rn) : Rn := if rg r.h 17 = 0 then { r with h := r.h.halt.go r.here, over := true } else if rg r.h 17 = 1 then { r with out := r.out ++ [rg r.h 10] } else r.trap 5
def mAt (steps : Int) (r : Rn) (n : Int) : Rn := if (r.n : Int) = steps ∨ r.own = true then r.stop n else { r with n := r.n + 1, here := n }
/-- A small step that may be, and has an operation: which one, of which kind. -/
def mOp (bf bt : Int) (r : Rn) (c op : Int) (i : Mv) : Rn :=
  if c = 100 then (if holds op (r.get i.a) (r.get i.b) = true then r.stop i.n else r)
  else if c = 200 then mLoad r op (lo (r.get i.a + i.n)) i.d
  else if c = 300 then mStore bf bt r op (lo (r.get i.a + i.n)) (r.get i.b)
  else if c = 400 then r.put i.d (alu op (r.get i.a) (r.get i.b))
  else if c = 500 then r.put i.d (alu op (r.get i.a) i.n)
  else if c = 600 then mAtom bf bt r op (r.get i.a) (r.get i.b) i.d else r
def mic (bf bt steps : Int) (r : Rn) (i : Mv) : Rn :=
  if i.op = 1 then mAt steps r i.n else if i.op = 2 then r.put i.d i.n else if i.op = 3 then r.stop i.n
  else if i.op = 4 then r.stop (lo (r.get i.a + i.n) - lo (r.get i.a + i.n) % 2) else if i.op = 5 then mCall r else if i.op = 6 then r.trap 6
  else mOp bf bt r (i.op - i.op % 100) (i.op % 100) i
/-- Which of D, A, B, N (1, 2, 4, 8 together) a small step has; below 0: there is none such. -/
def named (op : Int) : Int :=
  if op = 1 ∨ op = 3 then 8 else if op = 2 then 9 else if op = 4 then 10 else if op = 5 ∨ op = 6 then 0
  else if 105 ≤ op ∧ op ≤ 110 then 14 else if 211 ≤ op ∧ op ≤ 215 then 11 else if 316 ≤ op ∧ op ≤ 318 then 14
  else if 428 ≤ op ∧ op ≤ 445 then 7 else if 528 ≤ op ∧ op ≤ 545 then 11 else if 646 ≤ op ∧ op ≤ 656 then 7 else -1
/-- A register that is named, or is not. -/
def regOk (has : Bool) (k : Int) : Bool := decide ((has = true ∨ k = 0) ∧ 0 ≤ k ∧ k < 36)
/-- It may be. -/
def micOk (i : Mv) : Bool := decide (0 ≤ named i.op) && (decide (8 ≤ named i.op ∨ i.n = 0) && (regOk (decide (named i.op % 2 = 1)) i.d && (regOk (decide (named i.op / 2 % 2 = 1)) i.a && regOk (decide (named i.op / 4 % 2 = 1)) i.b)))
def mayC (code : List Mv) : Bool := decide (code.length ≤ 200) && code.all micOk
/-- A row of them, from the first one on. -/
def mrun (bf bt steps : Int) (r : Rn) : List Mv → Rn
  | [] => r
  | i :: is => if r.over = true then r else mrun bf bt steps (mic bf bt steps r i) is
/-- Behind the last one. -/
def mend (r : Rn) : Rn := if r.over = false ∧ 0 < r.n then { r with h := r.h.go (lo (r.here + 4)) } else r
def mstart (h : Hv) (l : List UInt8) : Rn := ⟨h, l, [], 0, [], [0, 0, 0, 0], h.pc, false, false⟩
def mplay (bf bt steps : Int) (h : Hv) (l : List UInt8) (code : List Mv) : Rn := mend (mrun bf bt steps (mstart h l) code)
/-- All words are words. -/
structure Rn.Ok (r : Rn) : Prop where
  h : r.h.Ok
  tl : r.tm.length = 4
  tb : ∀ j, 0 ≤ r.tm.getD j 0 ∧ r.tm.getD j 0 < 4294967296
  h0 : 0 ≤ r.here
  h1 : r.here < 4294967296
theorem Rn.Ok.get {r : Rn} (o : r.Ok) (k : Int) : W (r.get k) := by
  unfold Rn.get
  split
  · exact o.h.reg _
  · exact o.tb _
theorem tm_set (l : List Int) (k j : Nat) (x : Int) : (l.set k x).getD j 0 = if j = k ∧ k < l.length then x else l.getD j 0 := by
  simp only [List.getD, List.getElem?_set]
  by_cases e : k = j
  · subst e
    by_cases h : k < l.length
    · simp [h]
    · simp [h]
  · have e2 : ¬ j = k := fun q => e q.symm
    simp [e, e2]
theorem Rn.Ok.put {r : Rn} (o : r.Ok) (k : Int) {x : Int} (hx : W x) : (r.put k x).Ok := by
  unfold Rn.put
  split
  · refine ⟨o.h, by simp [o.tl], fun j => ?_, o.h0, o.h1⟩
    show 0 ≤ (r.tm.set _ x).getD j 0 ∧ _
    rw [tm_set]
    split
    · exact hx
    · exact o.tb j
  · exact ⟨o.h.set _ hx.1 hx.2, o.tl, o.tb, o.h0, o.h1⟩
theorem Rn.Ok.stop {r : Rn} (o : r.Ok) {x : Int} (hx : W x) : (r.stop x).Ok := ⟨o.h.go hx.1 hx.2, o.tl, o.tb, o.h0, o.h1⟩
theorem Rn.Ok.trap {r : Rn} (o : r.Ok) (c : Int) : (r.trap c).Ok := ⟨(o.h.trap c).go o.h0 o.h1, o.tl, o.tb, o.h0, o.h1⟩
theorem Rn.Ok.hart {r : Rn} (o : r.Ok) {h : Hv} (q : h.Ok) : Rn.Ok { r with h := h } := ⟨q, o.tl, o.tb, o.h0, o.h1⟩
theorem Rn.Ok.mem {r : Rn} (o : r.Ok) (m : List UInt8) : Rn.Ok { r with m := m } := ⟨o.h, o.tl, o.tb, o.h0, o.h1⟩
theorem Rn.Ok.stored {r : Rn} (o : r.Ok) (bf bt p : Int) (k : Nat) : (r.stored bf bt p k).Ok := ⟨o.h, o.tl, o.tb, o.h0, o.h1⟩
end Go.Proofs.YtbihifipemldhabDoor.Mi
/-
  Whether small steps may be, by the document: named, May.
-/
namespace Go.Proofs.YtbihifipemldhabDoor.Mi
open Go.ChangeShapes Go.WideShapes Go.ChangeAt Go.RowKit Mm Hh Hc
set_option linter.unusedVariables false
set_option linter.unusedSimpArgs false

/-- In world w, the slice at ao of n elements reads as the small steps 'code'. -/
structure Cs (w : World) (ao : Option Addr) (n : Nat) (code : List Mv) : Prop where
  len : code.length = n
  wn : ∀ i ∈ code, W i.n
  wo : ∀ i ∈ code, -9223372036854775808 ≤ i.op ∧ i.op ≤ 9223372036854775807
  spot : 0 < n → ∃ b o, ao = some ⟨b, o, none⟩ ∧ b < w.heap.size ∧ ∀ j i, code[j]? = some i → w.cell? ⟨b, o + j * 5, none⟩ = some (.int .i64 i.op) ∧ w.cell? ⟨b, o + j * 5 + 1, none⟩ = some (.int .i64 i.d) ∧ w.cell? ⟨b, o + j * 5 + 2, none⟩ = some (.int .i64 i.a) ∧ w.cell? ⟨b, o + j * 5 + 3, none⟩ = some (.int .i64 i.b) ∧ w.cell? ⟨b, o + j * 5 + 4, none⟩ = some (.int .u32 i.n)
theorem Cs.of {w w' : World} {ao : Option Addr} {n : Nat} {code : List Mv} (h : Cs w ao n code) (g : Gr w w') : Cs w' ao n code :=
  ⟨h.len, h.wn, h.wo, fun hn => by
    obtain ⟨b, o, e, hb, hc⟩ := h.spot hn
    refine ⟨b, o, e, Nat.lt_of_lt_of_le hb g.size, fun j i hj => ?_⟩
    obtain ⟨h0, h1, h2, h3, h4⟩ := hc j i hj
    exact ⟨(g.cell _ (by exact hb)).trans h0, (g.cell _ (by exact hb)).trans h1, (g.cell _ (by exact hb)).trans h2, (g.cell _ (by exact hb)).trans h3, (g.cell _ (by exact hb)).trans h4⟩⟩
theorem retIn {k : IntKind} {a b : Int} (h : a = b) : Ending.returned (.int k a) = .returned (.int k b) := by rw [h]
theorem retB {a b : Bool} (h : a = b) : Ending.returned (.bool a) = .returned (.bool b) := by rw [h]
/-- What is left of a number by 100, as the program reckons. -/
theorem left100 (op : Int) : ∃ s, op.tmod 100 = s ∧ ((0 ≤ op ∧ s = op % 100) ∨ (op < 0 ∧ s ≤ 0 ∧ op ≤ s ∧ -100 < s)) := by
  refine ⟨_, rfl, ?_⟩
  by_cases h : 0 ≤ op
  · exact .inl ⟨h, Int.tmod_eq_emod_of_nonneg h⟩
  · refine .inr ⟨by omega, ?_⟩
    have e : op.tmod 100 = -((-op) % 100) := by
      rw [show op = -(-op) by omega, Int.neg_tmod, Int.tmod_eq_emod_of_nonneg (by omega)]
      simp
    rw [e]
    omega

theorem named_1 (w : World) : Calls Tryd.prog 33 #[.int .i64 1] w fun e w' => e = .returned (.int .i64 (8)) ∧ w' = w := by
  go_enter Tryd.func33, Tryd.ntmps33
  go_wp2
  go_ret
  exact ⟨rfl, rfl⟩
theorem named_2 (w : World) : Calls Tryd.prog 33 #[.int .i64 2] w fun e w' => e = .returned (.int .i64 (9)) ∧ w' = w := by
  go_enter Tryd.func33, Tryd.ntmps33
  go_wp2
  go_ret
  exact ⟨rfl, rfl⟩
theorem named_3 (w : World) : Calls Tryd.prog 33 #[.int .i64 3] w fun e w' => e = .returned (.int .i64 (8)) ∧ w' = w := by
  go_enter Tryd.func33, Tryd.ntmps33
  go_wp2
  go_ret
  exact ⟨rfl, rfl⟩
theorem named_4 (w : World) : Calls Tryd.prog 33 #[.int .i64 4] w fun e w' => e = .returned (.int .i64 (10)) ∧ w' = w := by
  go_enter Tryd.func33, Tryd.ntmps33
  go_wp2
  go_ret
  exact ⟨rfl, rfl⟩
theorem named_5 (w : World) : Calls Tryd.prog 33 #[.int .i64 5] w fun e w' => e = .returned (.int .i64 (0)) ∧ w' = w := by
  go_enter Tryd.func33, Tryd.ntmps33
  go_wp2
  go_ret
  exact ⟨rfl, rfl⟩
theorem named_6 (w : World) : Calls Tryd.prog 33 #[.int .i64 6] w fun e w' => e = .returned (.int .i64 (0)) ∧ w' = w := by
  go_enter Tryd.func33, Tryd.ntmps33
  go_wp2
  go_ret
  exact ⟨rfl, rfl⟩
theorem named_100in (w : World) (op s : Int) (h0 : -9223372036854775808 ≤ op) (h1 : op ≤ 9223372036854775807) (hs : op.tmod 100 = s) (n1 : (op == 1) = false) (n2 : (op == 2) = false) (n3 : (op == 3) = false) (n4 : (op == 4) = false) (n5 : (op == 5) = false) (n6 : (op == 6) = false) (hc : op - s = 100) (l0 : 5 ≤ s) (l1 : s ≤ 10) : Calls Tryd.prog 33 #[.int .i64 op] w fun e w' => e = .returned (.int .i64 (14)) ∧ w' = w := by
  go_enter Tryd.func33, Tryd.ntmps33
  go_wp2
  go_ret
  exact ⟨rfl, rfl⟩
theorem named_100lo (w : World) (op s : Int) (h0 : -9223372036854775808 ≤ op) (h1 : op ≤ 9223372036854775807) (hs : op.tmod 100 = s) (n1 : (op == 1) = false) (n2 : (op == 2) = false) (n3 : (op == 3) = false) (n4 : (op == 4) = false) (n5 : (op == 5) = false) (n6 : (op == 6) = false) (hc : op - s = 100) (l0 : s < 5) : Calls Tryd.prog 33 #[.int .i64 op] w fun e w' => e = .returned (.int .i64 (-1)) ∧ w' = w := by
  go_enter Tryd.func33, Tryd.ntmps33
  go_wp2
  go_ret
  exact ⟨rfl, rfl⟩
theorem named_100hi (w : World) (op s : Int) (h0 : -9223372036854775808 ≤ op) (h1 : op ≤ 9223372036854775807) (hs : op.tmod 100 = s) (n1 : (op == 1) = false) (n2 : (op == 2) = false) (n3 : (op == 3) = false) (n4 : (op == 4) = false) (n5 : (op == 5) = false) (n6 : (op == 6) = false) (hc : op - s = 100) (l0 : 5 ≤ s) (l1 : 10 < s) : Calls Tryd.prog 33 #[.int .i64 op] w fun e w' => e = .returned (.int .i64 (-1)) ∧ w' = w := by
  go_enter Tryd.func33, Tryd.ntmps33
  go_wp2
  go_ret
  exact ⟨rfl, rfl⟩
theorem named_200in (w : World) (op s : Int) (h0 : -9223372036854775808 ≤ op) (h1 : op ≤ 9223372036854775807) (hs : op.tmod 100 = s) (n1 : (op == 1) = false) (n2 : (op == 2) = false) (n3 : (op == 3) = false) (n4 : (op == 4) = false) (n5 : (op == 5) = false) (n6 : (op == 6) = false) (hc : op - s = 200) (l0 : 11 ≤ s) (l1 : s ≤ 15) : Calls Tryd.prog 33 #[.int .i64 op] w fun e w' => e = .returned (.int .i64 (11)) ∧ w' = w := by
  go_enter Tryd.func33, Tryd.ntmps33
  go_wp2
  go_ret
  exact ⟨rfl, rfl⟩
theorem named_200lo (w : World) (op s : Int) (h0 : -9223372036854775808 ≤ op) (h1 : op ≤ 9223372036854775807) (hs : op.tmod 100 = s) (n1 : (op == 1) = false) (n2 : (op == 2) = false) (n3 : (op == 3) = false) (n4 : (op == 4) = false) (n5 : (op == 5) = false) (n6 : (op == 6) = false) (hc : op - s = 200) (l0 : s < 11) : Calls Tryd.prog 33 #[.int .i64 op] w fun e w' => e = .returned (.int .i64 (-1)) ∧ w' = w := by
  go_enter Tryd.func33, Tryd.ntmps33
  go_wp2
  go_ret
  exact ⟨rfl, rfl⟩
theorem named_200hi (w : World) (op s : Int) (h0 : -9223372036854775808 ≤ op) (h1 : op ≤ 9223372036854775807) (hs : op.tmod 100 = s) (n1 : (op == 1) = false) (n2 : (op == 2) = false) (n3 : (op == 3) = false) (n4 : (op == 4) = false) (n5 : (op == 5) = false) (n6 : (op == 6) = false) (hc : op - s = 200) (l0 : 11 ≤ s) (l1 : 15 < s) : Calls Tryd.prog 33 #[.int .i64 op] w fun e w' => e = .returned (.int .i64 (-1)) ∧ w' = w := by
  go_enter Tryd.func33, Tryd.ntmps33
  go_wp2
  go_ret
  exact ⟨rfl, rfl⟩
theorem named_300in (w : World) (op s : Int) (h0 : -9223372036854775808 ≤ op) (h1 : op ≤ 9223372036854775807) (hs : op.tmod 100 = s) (n1 : (op == 1) = false) (n2 : (op == 2) = false) (n3 : (op == 3) = false) (n4 : (op == 4) = false) (n5 : (op == 5) = false) (n6 : (op == 6) = false) (hc : op - s = 300) (l0 : 16 ≤ s) (l1 : s ≤ 18) : Calls Tryd.prog 33 #[.int .i64 op] w fun e w' => e = .returned (.int .i64 (14)) ∧ w' = w := by
  go_enter Tryd.func33, Tryd.ntmps33
  go_wp2
  go_ret
  exact ⟨rfl, rfl⟩
theorem named_300lo (w : World) (op s : Int) (h0 : -9223372036854775808 ≤ op) (h1 : op ≤ 9223372036854775807) (hs : op.tmod 100 = s) (n1 : (op == 1) = false) (n2 : (op == 2) = false) (n3 : (op == 3) = false) (n4 : (op == 4) = false) (n5 : (op == 5) = false) (n6 : (op == 6) = false) (hc : op - s = 300) (l0 : s < 16) : Calls Tryd.prog 33 #[.int .i64 op] w fun e w' => e = .returned (.int .i64 (-1)) ∧ w' = w := by
  go_enter Tryd.func33, Tryd.ntmps33
  go_wp2
  go_ret
  exact ⟨rfl, rfl⟩
theorem named_300hi (w : World) (op s : Int) (h0 : -9223372036854775808 ≤ op) (h1 : op ≤ 9223372036854775807) (hs : op.tmod 100 = s) (n1 : (op == 1) = false) (n2 : (op == 2) = false) (n3 : (op == 3) = false) (n4 : (op == 4) = false) (n5 : (op == 5) = false) (n6 : (op == 6) = false) (hc : op - s = 300) (l0 : 16 ≤ s) (l1 : 18 < s) : Calls Tryd.prog 33 #[.int .i64 op] w fun e w' => e = .returned (.int .i64 (-1)) ∧ w' = w := by
  go_enter Tryd.func33, Tryd.ntmps33
  go_wp2
  go_ret
  exact ⟨rfl, rfl⟩
theorem named_400in (w : World) (op s : Int) (h0 : -9223372036854775808 ≤ op) (h1 : op ≤ 9223372036854775807) (hs : op.tmod 100 = s) (n1 : (op == 1) = false) (n2 : (op == 2) = false) (n3 : (op == 3) = false) (n4 : (op == 4) = false) (n5 : (op == 5) = false) (n6 : (op == 6) = false) (hc : op - s = 400) (l0 : 28 ≤ s) (l1 : s ≤ 45) : Calls Tryd.prog 33 #[.int .i64 op] w fun e w' => e = .returned (.int .i64 (7)) ∧ w' = w := by
  go_enter Tryd.func33, Tryd.ntmps33
  go_wp2
  go_ret
  exact ⟨rfl, rfl⟩
theorem named_400lo (w : World) (op s : Int) (h0 : -9223372036854775808 ≤ op) (h1 : op ≤ 9223372036854775807) (hs : op.tmod 100 = s) (n1 : (op == 1) = false) (n2 : (op == 2) = false) (n3 : (op == 3) = false) (n4 : (op == 4) = false) (n5 : (op == 5) = false) (n6 : (op == 6) = false) (hc : op - s = 400) (l0 : s < 28) : Calls Tryd.prog 33 #[.int .i64 op] w fun e w' => e = .returned (.int .i64 (-1)) ∧ w' = w := by
  go_enter Tryd.func33, Tryd.ntmps33
  go_wp2
  go_ret
  exact ⟨rfl, rfl⟩
theorem named_400hi (w : World) (op s : Int) (h0 : -9223372036854775808 ≤ op) (h1 : op ≤ 9223372036854775807) (hs : op.tmod 100 = s) (n1 : (op == 1) = false) (n2 : (op == 2) = false) (n3 : (op == 3) = false) (n4 : (op == 4) = false) (n5 : (op == 5) = false) (n6 : (op == 6) = false) (hc : op - s = 400) (l0 : 28 ≤ s) (l1 : 45 < s) : Calls Tryd.prog 33 #[.int .i64 op] w fun e w' => e = .returned (.int .i64 (-1)) ∧ w' = w := by
  go_enter Tryd.func33, Tryd.ntmps33
  go_wp2
  go_ret
  exact ⟨rfl, rfl⟩
theorem named_500in (w : World) (op s : Int) (h0 : -9223372036854775808 ≤ op) (h1 : op ≤ 9223372036854775807) (hs : op.tmod 100 = s) (n1 : (op == 1) = false) (n2 : (op == 2) = false) (n3 : (op == 3) = false) (n4 : (op == 4) = false) (n5 : (op == 5) = false) (n6 : (op == 6) = false) (hc : op - s = 500) (l0 : 28 ≤ s) (l1 : s ≤ 45) : Calls Tryd.prog 33 #[.int .i64 op] w fun e w' => e = .returned (.int .i64 (11)) ∧ w' = w := by
  go_enter Tryd.func33, Tryd.ntmps33
  go_wp2
  go_ret
  exact ⟨rfl, rfl⟩
theorem named_500lo (w : World) (op s : Int) (h0 : -9223372036854775808 ≤ op) (h1 : op ≤ 9223372036854775807) (hs : op.tmod 100 = s) (n1 : (op == 1) = false) (n2 : (op == 2) = false) (n3 : (op == 3) = false) (n4 : (op == 4) = false) (n5 : (op == 5) = false) (n6 : (op == 6) = false) (hc : op - s = 500) (l0 : s < 28) : Calls Tryd.prog 33 #[.int .i64 op] w fun e w' => e = .returned (.int .i64 (-1)) ∧ w' = w := by
  go_enter Tryd.func33, Tryd.ntmps33
  go_wp2
  go_ret
  exact ⟨rfl, rfl⟩
theorem named_500hi (w : World) (op s : Int) (h0 : -9223372036854775808 ≤ op) (h1 : op ≤ 9223372036854775807) (hs : op.tmod 100 = s) (n1 : (op == 1) = false) (n2 : (op == 2) = false) (n3 : (op == 3) = false) (n4 : (op == 4) = false) (n5 : (op == 5) = false) (n6 : (op == 6) = false) (hc : op - s = 500) (l0 : 28 ≤ s) (l1 : 45 < s) : Calls Tryd.prog 33 #[.int .i64 op] w fun e w' => e = .returned (.int .i64 (-1)) ∧ w' = w := by
  go_enter Tryd.func33, Tryd.ntmps33
  go_wp2
  go_ret
  exact ⟨rfl, rfl⟩
theorem named_600in (w : World) (op s : Int) (h0 : -9223372036854775808 ≤ op) (h1 : op ≤ 9223372036854775807) (hs : op.tmod 100 = s) (n1 : (op == 1) = false) (n2 : (op == 2) = false) (n3 : (op == 3) = false) (n4 : (op == 4) = false) (n5 : (op == 5) = false) (n6 : (op == 6) = false) (hc : op - s = 600) (l0 : 46 ≤ s) (l1 : s ≤ 56) : Calls Tryd.prog 33 #[.int .i64 op] w fun e w' => e = .returned (.int .i64 (7)) ∧ w' = w := by
  go_enter Tryd.func33, Tryd.ntmps33
  go_wp2
  go_ret
  exact ⟨rfl, rfl⟩
theorem named_600lo (w : World) (op s : Int) (h0 : -9223372036854775808 ≤ op) (h1 : op ≤ 9223372036854775807) (hs : op.tmod 100 = s) (n1 : (op == 1) = false) (n2 : (op == 2) = false) (n3 : (op == 3) = false) (n4 : (op == 4) = false) (n5 : (op == 5) = false) (n6 : (op == 6) = false) (hc : op - s = 600) (l0 : s < 46) : Calls Tryd.prog 33 #[.int .i64 op] w fun e w' => e = .returned (.int .i64 (-1)) ∧ w' = w := by
  go_enter Tryd.func33, Tryd.ntmps33
  go_wp2
  go_ret
  exact ⟨rfl, rfl⟩
theorem named_600hi (w : World) (op s : Int) (h0 : -9223372036854775808 ≤ op) (h1 : op ≤ 9223372036854775807) (hs : op.tmod 100 = s) (n1 : (op == 1) = false) (n2 : (op == 2) = false) (n3 : (op == 3) = false) (n4 : (op == 4) = false) (n5 : (op == 5) = false) (n6 : (op == 6) = false) (hc : op - s = 600) (l0 : 46 ≤ s) (l1 : 56 < s) : Calls Tryd.prog 33 #[.int .i64 op] w fun e w' => e = .returned (.int .i64 (-1)) ∧ w' = w := by
  go_enter Tryd.func33, Tryd.ntmps33
  go_wp2
  go_ret
  exact ⟨rfl, rfl⟩
theorem named_out (w : World) (op s : Int) (h0 : -9223372036854775808 ≤ op) (h1 : op ≤ 9223372036854775807) (hs : op.tmod 100 = s) (n1 : (op == 1) = false) (n2 : (op == 2) = false) (n3 : (op == 3) = false) (n4 : (op == 4) = false) (n5 : (op == 5) = false) (n6 : (op == 6) = false) (m100 : (op - s == 100) = false) (m200 : (op - s == 200) = false) (m300 : (op - s == 300) = false) (m400 : (op - s == 400) = false) (m500 : (op - s == 500) = false) (m600 : (op - s == 600) = false) (b0 : -9223372036854775808 ≤ op - s) (b1 : op - s ≤ 9223372036854775807) : Calls Tryd.prog 33 #[.int .i64 op] w fun e w' => e = .returned (.int .i64 (-1)) ∧ w' = w := by
  generalize hc : op - s = c at *
  go_enter Tryd.func33, Tryd.ntmps33
  go_wp2
  go_ret
  exact ⟨rfl, rfl⟩
set_option maxHeartbeats 8000000 in
theorem named_any (op : Int) (w : World) (h0 : -9223372036854775808 ≤ op) (h1 : op ≤ 9223372036854775807) : Calls Tryd.prog 33 #[.int .i64 op] w fun e w' => e = .returned (.int .i64 (named op)) ∧ w' = w := by
  obtain ⟨s, hs, hb⟩ := left100 op
  by_cases e1 : op = 1
  · subst e1; exact named_1 w
  by_cases e2 : op = 2
  · subst e2; exact named_2 w
  by_cases e3 : op = 3
  · subst e3; exact named_3 w
  by_cases e4 : op = 4
  · subst e4; exact named_4 w
  by_cases e5 : op = 5
  · subst e5; exact named_5 w
  by_cases e6 : op = 6
  · subst e6; exact named_6 w
  by_cases c100 : op - s = 100
  · by_cases l0 : 5 ≤ s
    · by_cases l1 : s ≤ 10
      · have en : named op = 14 := by
          unfold named
          repeat' split
          all_goals omega
        rw [en]
        exact named_100in w op s h0 h1 hs (by simp; omega) (by simp; omega) (by simp; omega) (by simp; omega) (by simp; omega) (by simp; omega) c100 l0 l1
      · have en : named op = -1 := by
          unfold named
          repeat' split
          all_goals omega
        rw [en]
        exact named_100hi w op s h0 h1 hs (by simp; omega) (by simp; omega) (by simp; omega) (by simp; omega) (by simp; omega) (by simp; omega) c100 l0 (by omega)
    · have en : named op = -1 := by
        unfold named
        repeat' split
        all_goals omega
      rw [en]
      exact named_100lo w op s h0 h1 hs (by simp; omega) (by simp; omega) (by simp; omega) (by simp; omega) (by simp; omega) (by simp; omega) c100 (by omega)
  by_cases c200 : op - s = 200
  · by_cases l0 : 11 ≤ s
    · by_cases l1 : s ≤ 15
      · have en : named op = 11 := by
          unfold named
          repeat' split
          all_goals omega
        rw [en]
        exact named_200in w op s h0 h1 hs (by simp; omega) (by simp; omega) (by simp; omega) (by simp; omega) (by simp; omega) (by simp; omega) c200 l0 l1
      · have en : named op = -1 := by
          unfold named
          repeat' split
          all_goals omega
        rw [en]
        exact named_200hi w op s h0 h1 hs (by simp; omega) (by simp; omega) (by simp; omega) (by simp; omega) (by simp; omega) (by simp; omega) c200 l0 (by omega)
    · have en : named op = -1 := by
        unfold named
        repeat' split
        all_goals omega
      rw [en]
      exact named_200lo w op s h0 h1 hs (by simp; omega) (by simp; omega) (by simp; omega) (by simp; omega) (by simp; omega) (by simp; omega) c200 (by omega)
  by_cases c300 : op - s = 300
  · by_cases l0 : 16 ≤ s
    · by_cases l1 : s ≤ 18
      · have en : named op = 14 := by
          unfold named
          repeat' split
          all_goals omega
        rw [en]
        exact named_300in w op s h0 h1 hs (by simp; omega) (by simp; omega) (by simp; omega) (by simp; omega) (by simp; omega) (by simp; omega) c300 l0 l1
      · have en : named op = -1 := by
          unfold named
          repeat' split
          all_goals omega
        rw [en]
        exact named_300hi w op s h0 h1 hs (by simp; omega) (by simp; omega) (by simp; omega) (by simp; omega) (by simp; omega) (by simp; omega) c300 l0 (by omega)
    · have en : named op = -1 := by
        unfold named
        repeat' split
        all_goals omega
      rw [en]
      exact named_300lo w op s h0 h1 hs (by simp; omega) (by simp; omega) (by simp; omega) (by simp; omega) (by simp; omega) (by simp; omega) c300 (by omega)
  by_cases c400 : op - s = 400
  · by_cases l0 : 28 ≤ s
    · by_cases l1 : s ≤ 45
      · have en : named op = 7 := by
          unfold named
          repeat' split
          all_goals omega
        rw [en]
        exact named_400in w op s h0 h1 hs (by simp; omega) (by simp; omega) (by simp; omega) (by simp; omega) (by simp; omega) (by simp; omega) c400 l0 l1
      · have en : named op = -1 := by
          unfold named
          repeat' split
          all_goals omega
        rw [en]
        exact named_400hi w op s h0 h1 hs (by simp; omega) (by simp; omega) (by simp; omega) (by simp; omega) (by simp; omega) (by simp; omega) c400 l0 (by omega)
    · have en : named op = -1 := by
        unfold named
        repeat' split
        all_goals omega
      rw [en]
      exact named_400lo w op s h0 h1 hs (by simp; omega) (by simp; omega) (by simp; omega) (by simp; omega) (by simp; omega) (by simp; omega) c400 (by omega)
  by_cases c500 : op - s = 500
  · by_cases l0 : 28 ≤ s
    · by_cases l1 : s ≤ 45
      · have en : named op = 11 := by
          unfold named
          repeat' split
          all_goals omega
        rw [en]
        exact named_500in w op s h0 h1 hs (by simp; omega) (by simp; omega) (by simp; omega) (by simp; omega) (by simp; omega) (by simp; omega) c500 l0 l1
      · have en : named op = -1 := by
          unfold named
          repeat' split
          all_goals omega
        rw [en]
        exact named_500hi w op s h0 h1 hs (by simp; omega) (by simp; omega) (by simp; omega) (by simp; omega) (by simp; omega) (by simp; omega) c500 l0 (by omega)
    · have en : named op = -1 := by
        unfold named
        repeat' split
        all_goals omega
      rw [en]
      exact named_500lo w op s h0 h1 hs (by simp; omega) (by simp; omega) (by simp; omega) (by simp; omega) (by simp; omega) (by simp; omega) c500 (by omega)
  by_cases c600 : op - s = 600
  · by_cases l0 : 46 ≤ s
    · by_cases l1 : s ≤ 56
      · have en : named op = 7 := by
          unfold named
          repeat' split
          all_goals omega
        rw [en]
        exact named_600in w op s h0 h1 hs (by simp; omega) (by simp; omega) (by simp; omega) (by simp; omega) (by simp; omega) (by simp; omega) c600 l0 l1
      · have en : named op = -1 := by
          unfold named
          repeat' split
          all_goals omega
        rw [en]
        exact named_600hi w op s h0 h1 hs (by simp; omega) (by simp; omega) (by simp; omega) (by simp; omega) (by simp; omega) (by simp; omega) c600 l0 (by omega)
    · have en : named op = -1 := by
        unfold named
        repeat' split
        all_goals omega
      rw [en]
      exact named_600lo w op s h0 h1 hs (by simp; omega) (by simp; omega) (by simp; omega) (by simp; omega) (by simp; omega) (by simp; omega) c600 (by omega)
  have en : named op = -1 := by
    unfold named
    repeat' split
    all_goals omega
  rw [en]
  exact named_out w op s h0 h1 hs (by simp; omega) (by simp; omega) (by simp; omega) (by simp; omega) (by simp; omega) (by simp; omega) (by simp; omega) (by simp; omega) (by simp; omega) (by simp; omega) (by simp; omega) (by simp; omega) (by omega) (by omega)
def pw : Nat → Int
  | 0 => 1
  | 1 => 2
  | 2 => 4
  | _ => 8
theorem named_vals {op : Int} (h : 0 ≤ named op) : named op = 0 ∨ named op = 7 ∨ named op = 8 ∨ named op = 9 ∨ named op = 10 ∨ named op = 11 ∨ named op = 14 := by
  unfold named at *
  repeat' split at h
  all_goals (repeat' split)
  all_goals omega
theorem all_take1 {α : Type} (f : α → Bool) (l : List α) (k : Nat) (x : α) (h : l[k]? = some x) : (l.take (k + 1)).all f = ((l.take k).all f && f x) := by
  rw [List.take_add_one, h]
  simp
theorem all_no {α : Type} {f : α → Bool} {l : List α} {k : Nat} {x : α} (h : l[k]? = some x) (hx : f x = false) : l.all f = false := by
  rw [List.all_eq_false]
  exact ⟨x, List.mem_of_getElem? h, by simp [hx]⟩
theorem mic_no1 {i : Mv} (h : named i.op < 0) : micOk i = false := by unfold micOk; rw [decide_eq_false (by omega)]; rfl
theorem mic_no2 {i : Mv} (h : named i.op < 8) (h2 : ¬ i.n = 0) : micOk i = false := by unfold micOk; rw [decide_eq_false (p := 8 ≤ named i.op ∨ i.n = 0) (by omega)]; simp
theorem mic_no3 {i : Mv} (h : regOk (decide (named i.op % 2 = 1)) i.d = false) : micOk i = false := by unfold micOk; rw [h]; simp
theorem mic_no4 {i : Mv} (h : regOk (decide (named i.op / 2 % 2 = 1)) i.a = false) : micOk i = false := by unfold micOk; rw [h]; simp
theorem mic_no5 {i : Mv} (h : regOk (decide (named i.op / 4 % 2 = 1)) i.b = false) : micOk i = false := by unfold micOk; rw [h]; simp
theorem mic_yes {i : Mv} (h : 0 ≤ named i.op) (h2 : 8 ≤ named i.op ∨ i.n = 0) (h3 : regOk (decide (named i.op % 2 = 1)) i.d = true) (h4 : regOk (decide (named i.op / 2 % 2 = 1)) i.a = true) (h5 : regOk (decide (named i.op / 4 % 2 = 1)) i.b = true) : micOk i = true := by
  unfold micOk; rw [h3, h4, h5, decide_eq_true h, decide_eq_true h2]; rfl
theorem reg_no {b : Bool} {x : Int} (h : (b = false ∧ ¬ x = 0) ∨ x < 0 ∨ 36 ≤ x) : regOk b x = false := by
  unfold regOk
  refine decide_eq_false ?_
  rintro ⟨h1, h2, h3⟩
  rcases h with ⟨h4, h5⟩ | h4 | h4
  · rcases h1 with h1 | h1
    · rw [h4] at h1; cases h1
    · exact h5 h1
  · omega
  · omega
theorem reg_yes {b : Bool} {x : Int} (h : b = true ∨ x = 0) (h0 : 0 ≤ x) (h1 : x < 36) : regOk b x = true := decide_eq_true ⟨h, h0, h1⟩
end Go.Proofs.YtbihifipemldhabDoor.Mi
/-
  A block that is handed in: opened.
-/
namespace Go.Proofs.YtbihifipemldhabDoor.Ts
open Go.ChangeShapes Go.WideShapes Go.ChangeAt Go.RowKit Mm
set_option linter.unusedVariables false
set_option linter.unusedSimpArgs false

/-- An instruction, whatever it is. -/
structure Iv where
  op : Int
  rd : Int
  r1 : Int
  r2 : Int
  im : Int
def ivL (i : Iv) : List Value := [.int .i64 i.op, .int .i64 i.rd, .int .i64 i.r1, .int .i64 i.r2, .int .i32 i.im]
def I64 (n : Int) : Prop := -9223372036854775808 ≤ n ∧ n ≤ 9223372036854775807
structure Iv.Ok (i : Iv) : Prop where
  op : I64 i.op
  rd : I64 i.rd
  r1 : I64 i.r1
  r2 : I64 i.r2
  im : -2147483648 ≤ i.im ∧ i.im ≤ 2147483647
/-- In world w, the slice at ao of n elements reads as the instructions 'is'. -/
structure Is (w : World) (ao : Option Addr) (n : Nat) (is : List Iv) : Prop where
  len : is.length = n
  ok : ∀ i ∈ is, i.Ok
  spot : 0 < n → ∃ b o, ao = some ⟨b, o, none⟩ ∧ b < w.heap.size ∧ ∀ j i, is[j]? = some i → w.cell? ⟨b, o + j * 5, none⟩ = some (.int .i64 i.op) ∧ w.cell? ⟨b, o + j * 5 + 1, none⟩ = some (.int .i64 i.rd) ∧ w.cell? ⟨b, o + j * 5 + 2, none⟩ = some (.int .i64 i.r1) ∧ w.cell? ⟨b, o + j * 5 + 3, none⟩ = some (.int .i64 i.r2) ∧ w.cell? ⟨b, o + j * 5 + 4, none⟩ = some (.int .i32 i.im)
theorem Is.of {w w' : World} {ao : Option Addr} {n : Nat} {is : List Iv} (h : Is w ao n is) (g : Gr w w') : Is w' ao n is :=
  ⟨h.len, h.ok, fun hn => by
    obtain ⟨b, o, e, hb, hc⟩ := h.spot hn
    refine ⟨b, o, e, Nat.lt_of_lt_of_le hb g.size, fun j i hj => ?_⟩
    obtain ⟨h0, h1, h2, h3, h4⟩ := hc j i hj
    exact ⟨(g.cell _ (by exact hb)).trans h0, (g.cell _ (by exact hb)).trans h1, (g.cell _ (by exact hb)).trans h2, (g.cell _ (by exact hb)).trans h3, (g.cell _ (by exact hb)).trans h4⟩⟩
theorem cIn : Tryd.prog.cellsOf 63 = 5 := by kernel_rfl
theorem bIn : Tryd.prog.bytesOf 63 = 40 := by kernel_rfl
theorem cIt : Tryd.prog.cellsOf 3 = 1 := by kernel_rfl
theorem cI3 : Tryd.prog.cellsOf 21 = 1 := by kernel_rfl
theorem li5 {α : Type} {l : List α} (h : l.length = 5) : ∃ a b c d e, l = [a, b, c, d, e] := by
  match l, h with
  | [a, b, c, d, e], _ => exact ⟨a, b, c, d, e, rfl⟩
theorem bd64 {n : Int} (h : (Lit.int .i64 n).wf = true) : I64 n := by
  have : -9223372036854775808 ≤ n ∧ n ≤ 9223372036854775807 := by simpa [Lit.wf, IntKind.min, IntKind.max, IntKind.signed, IntKind.bits] using h
  exact this
theorem bd32 {n : Int} (h : (Lit.int .i32 n).wf = true) : -2147483648 ≤ n ∧ n ≤ 2147483647 := by
  simpa [Lit.wf, IntKind.min, IntKind.max, IntKind.signed, IntKind.bits] using h
set_option maxRecDepth 100000 in
theorem ins_cells {H : Type} {enc : TypeId × Value → H} {W : World} {b0 fuel : Nat} {sp : Nat → Bool} {held : Bool} {l : List Value} {x : DataW H × List MemPlace}
    (hf : DataW.trod enc Tryd.prog W b0 sp held fuel 63 l = some x) : ∃ i : Iv, l = ivL i ∧ i.Ok := by
  obtain ⟨xs, m, rfl, hx, hcl, hlen, hel⟩ := DataW.trod_struct Tryd.underlying63 hf
  obtain ⟨y0, y1, y2, y3, y4, rfl⟩ := li5 (l := xs) hlen
  have k0 : DataW.trod enc Tryd.prog W b0 sp held m 3 ((l.drop 0).take (Tryd.prog.cellsOf 3)) = some y0 := hel 0 _ rfl
  have k1 : DataW.trod enc Tryd.prog W b0 sp held m 3 ((l.drop 1).take (Tryd.prog.cellsOf 3)) = some y1 := hel 1 _ rfl
  have k2 : DataW.trod enc Tryd.prog W b0 sp held m 3 ((l.drop 2).take (Tryd.prog.cellsOf 3)) = some y2 := hel 2 _ rfl
  have k3 : DataW.trod enc Tryd.prog W b0 sp held m 3 ((l.drop 3).take (Tryd.prog.cellsOf 3)) = some y3 := hel 3 _ rfl
  have k4 : DataW.trod enc Tryd.prog W b0 sp held m 21 ((l.drop 4).take (Tryd.prog.cellsOf 21)) = some y4 := hel 4 _ rfl
  rw [cIn] at hcl
  obtain ⟨a, b, c, d, e, rfl⟩ := li5 hcl
  obtain ⟨p0, e0, _, w0⟩ := DataW.trod_int Tryd.underlying3 k0
  obtain ⟨p1, e1, _, w1⟩ := DataW.trod_int Tryd.underlying3 k1
  obtain ⟨p2, e2, _, w2⟩ := DataW.trod_int Tryd.underlying3 k2
  obtain ⟨p3, e3, _, w3⟩ := DataW.trod_int Tryd.underlying3 k3
  obtain ⟨p4, e4, _, w4⟩ := DataW.trod_int Tryd.underlying21 k4
  rw [cIt] at e0 e1 e2 e3
  rw [cI3] at e4
  simp at e0 e1 e2 e3 e4
  subst e0 e1 e2 e3 e4
  exact ⟨⟨p0, p1, p2, p3, p4⟩, rfl, bd64 w0, bd64 w1, bd64 w2, bd64 w3, bd32 w4⟩
theorem cells_each {w : World} {a : Addr} {n : Nat} {cs : List Value} (h : w.cells? 0 a n = some cs) : cs.length = n ∧ ∀ j, j < n → w.cell? (a.add j) = cs[j]? := by
  obtain ⟨_, hl, hc⟩ := World.cells?_some h
  exact ⟨hl, hc⟩
theorem spot_none {w : World} {a : Addr} {v : Value} (h : w.cell? (a.add 0) = some v) : a.spot = none := by simpa [Addr.add] using World.cell?_spot h
/-- Cells of type []api.Ins, opened. -/
theorem open_ins {H : Type} {enc : TypeId × Value → H} {W : World} {fuel : Nat} {ao : Option Addr} {len cap : Nat} {d : DataW H} {p : List MemPlace}
    (hf : DataW.trod enc Tryd.prog W 0 (fun _ => true) true fuel 39 (Value.slice ao len cap).cells.toList = some (d, p)) :
    ∃ is : List Iv, Is W ao len is ∧ (ao = none → cap = 0) ∧ (d = .nil ∧ len = 0 ∨ ∃ el sp, d = .slice el sp ∧ el.length = len) := by
  rcases Deep.open_slice Tryd.underlying39 hf with ⟨hcs, hx⟩ | ⟨a, len', cap', m, n, D, Pl, hcs, hb, hl, hm, em, hx, hel⟩
  · simp [Value.cells] at hcs
    obtain ⟨rfl, rfl, rfl⟩ := hcs
    exact ⟨[], ⟨rfl, fun h hm => (by cases hm), fun h => absurd h (by omega)⟩, fun _ => rfl, .inl ⟨by injection hx, rfl⟩⟩
  · simp [Value.cells] at hcs
    obtain ⟨rfl, rfl, rfl⟩ := hcs
    have em2 : m = cap := by simpa using em
    have hex : ∀ i, i < len → ∃ q : Iv, q.Ok ∧ ∀ j v, (ivL q)[j]? = some v → W.cell? (a.add (i * 5 + j)) = some v := fun i hi => by
      obtain ⟨cs', hc, ht⟩ := hel i (by omega)
      obtain ⟨q, rfl, bd⟩ := ins_cells ht
      rw [cIn] at hc
      obtain ⟨_, hc⟩ := cells_each hc
      refine ⟨q, bd, fun j v hv => ?_⟩
      have hj : j < 5 := (List.getElem?_eq_some_iff.1 hv).1
      have := hc j hj
      rw [Deep.add_add] at this
      rw [this]
      exact hv
    obtain ⟨f, hf2⟩ := @Deep.choose_lt Iv ⟨⟨0, 0, 0, 0, 0⟩⟩ len _ hex
    refine ⟨(List.range len).map f, ⟨by simp, fun h hm => ?_, fun hn => ?_⟩, fun e => (by cases e), .inr ⟨_, _, by injection hx, by simp⟩⟩
    · obtain ⟨i, hi, rfl⟩ := List.mem_map.1 hm
      exact (hf2 i (List.mem_range.1 hi)).1
    · obtain ⟨b, o, s⟩ := a
      have c0 := (hf2 0 hn).2 0 _ rfl
      have hs : s = none := spot_none (by simpa using c0)
      subst hs
      have hb : b < W.heap.size := by simpa [Addr.add] using World.block_lt_of_cell? W _ c0
      refine ⟨b, o, rfl, hb, fun i h hi => ?_⟩
      rw [List.getElem?_map] at hi
      by_cases hl2 : i < len
      · rw [List.getElem?_eq_getElem (by simpa using hl2)] at hi
        simp at hi
        subst hi
        have q := fun j v hv => (hf2 i hl2).2 j v hv
        simp only [add_at] at q
        have q0 := q 0 _ rfl
        have q1 := q 1 _ rfl
        have q2 := q 2 _ rfl
        have q3 := q 3 _ rfl
        have q4 := q 4 _ rfl
        simp only [Nat.add_zero, ← Nat.add_assoc] at q0 q1 q2 q3 q4
        exact ⟨q0, q1, q2, q3, q4⟩
      · rw [List.getElem?_eq_none (by simp; omega)] at hi
        cases hi
theorem cBk : Tryd.prog.cellsOf 41 = 2 := by kernel_rfl
theorem cU3 : Tryd.prog.cellsOf 38 = 1 := by kernel_rfl
theorem cSI : Tryd.prog.cellsOf 39 = 1 := by kernel_rfl
theorem li2 {α : Type} {l : List α} (h : l.length = 2) : ∃ a b, l = [a, b] := by
  match l, h with
  | [a, b], _ => exact ⟨a, b, rfl⟩
theorem cut1 {l : List Value} {k : Nat} {v : Value} (h : (l.drop k).take 1 = [v]) : l[k]? = some v := by
  have := congrArg (fun x => x[0]?) h
  simpa using this
theorem bdU {n : Int} (h : (Lit.int .u32 n).wf = true) : 0 ≤ n ∧ n < 4294967296 := by
  have : 0 ≤ n ∧ n ≤ 4294967295 := by simpa [Lit.wf, IntKind.min, IntKind.max, IntKind.signed, IntKind.bits] using h
  omega
theorem slice1 {H : Type} {enc : TypeId × Value → H} {W : World} {fuel : Nat} {t e : TypeId} {l : List Value} {k : Nat} {x : DataW H × List MemPlace} (hu : Tryd.prog.underlying t = some (.slice e)) (h : DataW.trod enc Tryd.prog W 0 (fun _ => true) true fuel t ((l.drop k).take 1) = some x) : ∃ ao n c, l[k]? = some (.slice ao n c) ∧ (l.drop k).take 1 = (Value.slice ao n c).cells.toList := by
  rcases Deep.open_slice hu h with ⟨hcs, _⟩ | ⟨a, len, cap, _, _, _, _, hcs, _⟩
  · exact ⟨none, 0, 0, cut1 hcs, hcs⟩
  · exact ⟨some a, len, cap, cut1 hcs, hcs⟩
/-- A block that is handed in. -/
structure Bg (W : World) (v : Value) (pc : Int) (sa : Option Addr) (sn sc : Nat) (is : List Iv) : Prop where
  eq : v = .agg #[.int .u32 pc, .slice sa sn sc]
  pc0 : 0 ≤ pc
  pc1 : pc < 4294967296
  ins : Is W sa sn is
  cap : sa = none → sc = 0
  b : sn ≤ 140737488351232
set_option maxRecDepth 100000 in
theorem open_block {H : Type} {enc : TypeId × Value → H} {W : World} {base k : Nat} {v : Value} {d : DataW H} {p : List MemPlace} {ts : List TypeId} {ds : List (DataW H)} (hv : Value.okWide Tryd.prog W .any base 41 v) (h : DataW.Trod enc Tryd.prog W 0 (fun _ => true) true 41 v d p)
    (hsz : (DataW.weightsEach Tryd.prog ts ds).all (· ≤ reachBytes) = true) (ht : ts[k]? = some 41) (hd : ds[k]? = some d) : ∃ pc sa sn sc is, Bg W v pc sa sn sc is := by
  obtain ⟨cs, rfl, hcs⟩ := okWide_struct Tryd.underlying41 hv
  rw [cBk] at hcs
  obtain ⟨l⟩ := cs
  obtain ⟨fuel, hf⟩ := h
  obtain ⟨xs, n, rfl, hx, _, hlen, hel⟩ := DataW.trod_struct Tryd.underlying41 hf
  obtain ⟨y0, y1, rfl⟩ := li2 (l := xs) hlen
  have k0 : DataW.trod enc Tryd.prog W 0 (fun _ => true) true n 38 ((l.drop 0).take (Tryd.prog.cellsOf 38)) = some y0 := hel 0 _ rfl
  have k1 : DataW.trod enc Tryd.prog W 0 (fun _ => true) true n 39 ((l.drop 1).take (Tryd.prog.cellsOf 39)) = some y1 := hel 1 _ rfl
  clear hf hel hv
  rw [cSI] at k1
  obtain ⟨pc, e0, _, w0⟩ := DataW.trod_int Tryd.underlying38 k0
  rw [cU3] at e0
  have e0 := cut1 e0
  obtain ⟨sa, sn, sc, e1, q1⟩ := slice1 Tryd.underlying39 k1
  rw [q1] at k1
  obtain ⟨d0, p0⟩ := y0
  obtain ⟨d1, p1⟩ := y1
  obtain ⟨is, I, hc, hh⟩ := open_ins k1
  have ed : d = .agg [d0, d1] := by injection hx
  subst ed
  have hw := DataW.weights_mem_each (P := Tryd.prog) ht hd
  have hin : (DataW.weightsEach Tryd.prog [38, 39] [d0, d1]).all (· ≤ reachBytes) = true := by
    rw [List.all_eq_true]
    intro z hz
    refine List.all_eq_true.1 hsz z (hw z ?_)
    unfold DataW.weights
    rw [Tryd.underlying41]
    exact hz
  have ll : l = [.int .u32 pc, .slice sa sn sc] := by
    obtain ⟨a, b, rfl⟩ := li2 (l := l) (by simpa using hcs)
    simp at e0 e1
    rw [e0, e1]
  refine ⟨pc, sa, sn, sc, is, by rw [ll], (bdU w0).1, (bdU w0).2, I, hc, ?_⟩
  rcases hh with ⟨_, h⟩ | ⟨el, sp, h, hz⟩
  · rw [h]; decide
  · have := sized_slice hin (j := 1) (t := 39) (e := 63) rfl (by rw [h]; rfl) Tryd.underlying39
    rw [bIn] at this
    simp only [hz, reachBytes] at this
    omega
end Go.Proofs.YtbihifipemldhabDoor.Ts
/-
  The walk of the law TransMay, given what trans.Make answers: it answers true.
-/
namespace Go.Proofs.YtbihifipemldhabDoor.Ts
open Go.ChangeShapes Go.WideShapes Go.ChangeAt Go.RowKit Mm Hc Mi Hh
set_option linter.unusedVariables false
set_option linter.unusedSimpArgs false

theorem up_heap {w w' : World} (g : Gr w w') {k : Nat} {x : Obj} (h : w.heap[k]? = some x) : w'.heap[k]? = some x := by
  rw [g.block k (Array.getElem?_eq_some_iff.1 h).1]; exact h
set_option maxHeartbeats 4000000 in
set_option maxRecDepth 100000 in
theorem tmay_any {w : World} {bp pc : Int} {sa : Option Addr} {sn sc : Nat} {ao : Option Addr} {n cap cnt : Nat} {X : List Value} {P : Int}
    (TM10 : ∀ W : World, Gr w W → Calls Tryd.prog 19 #[.agg #[.int .u32 bp, .slice sa sn sc]] W fun e w' => ∃ ca cn cc code, e = .returned (.slice ca cn cc) ∧ Cs w' ca cn code ∧ mayC code = true ∧ Gr W w')
    (TMk0 : ∀ (W : World) (g : Nat), Gr w W → W.heap[g]? = some (.cells #[.int .i64 58, .int .i64 0, .int .i64 0, .int .i64 0, .int .i32 0] 63 (0, 0)) → Calls Tryd.prog 19 #[.agg #[.int .u32 0, .slice (some ⟨g, 0, none⟩) 1 1]] W fun e w' => ∃ ca cn cc, e = .returned (.slice ca cn cc) ∧ 0 < cn ∧ Gr W w')
    (Mk0 : ∀ W : World, Gr w W → Calls Tryd.prog 11 #[.slice ao n cap, .int .u32 pc] W fun e w' => ∃ va vc, e = .returned (.agg #[.int .u32 P, .slice va cnt vc]) ∧ w'.ownsRow W.heap.size 63 5 (.slice va cnt vc) cnt X ∧ Gr W w')
    (hc1 : cnt ≤ 16)
    (M70 : ∀ (W : World) (ca : Option Addr) (cn cc : Nat) (code : List Mv), Cs W ca cn code → mayC code = true → Calls Tryd.prog 14 #[.slice ca cn cc] W fun e w' => e = .returned (.bool true) ∧ Gr W w')
    (TM20 : ∀ (W : World) (b : Nat) (va : Option Addr) (vc : Nat), Gr w W → W.ownsRow b 63 5 (.slice va cnt vc) cnt X → Calls Tryd.prog 19 #[.agg #[.int .u32 P, .slice va cnt vc]] W fun e w' => ∃ ca cn cc code, e = .returned (.slice ca cn cc) ∧ Cs w' ca cn code ∧ mayC code = true ∧ cn ≤ 12 * cnt + 1 ∧ Gr W w') :
    Calls Tryd.prog 6 #[.agg #[.int .u32 bp, .slice sa sn sc], .slice ao n cap, .int .u32 pc] w fun e w' => e = .returned (.bool true) ∧ Gr w w' := by
  have TM1 : Hid (∀ W : World, Gr w W → Calls Tryd.prog 19 #[.agg #[.int .u32 bp, .slice sa sn sc]] W fun e w' => ∃ ca cn cc code, e = .returned (.slice ca cn cc) ∧ Cs w' ca cn code ∧ mayC code = true ∧ Gr W w') := TM10
  have TMk : Hid (∀ (W : World) (g : Nat), Gr w W → W.heap[g]? = some (.cells #[.int .i64 58, .int .i64 0, .int .i64 0, .int .i64 0, .int .i32 0] 63 (0, 0)) → Calls Tryd.prog 19 #[.agg #[.int .u32 0, .slice (some ⟨g, 0, none⟩) 1 1]] W fun e w' => ∃ ca cn cc, e = .returned (.slice ca cn cc) ∧ 0 < cn ∧ Gr W w') := TMk0
  have Mk : Hid (∀ W : World, Gr w W → Calls Tryd.prog 11 #[.slice ao n cap, .int .u32 pc] W fun e w' => ∃ va vc, e = .returned (.agg #[.int .u32 P, .slice va cnt vc]) ∧ w'.ownsRow W.heap.size 63 5 (.slice va cnt vc) cnt X ∧ Gr W w') := Mk0
  have TM2 : Hid (∀ (W : World) (b : Nat) (va : Option Addr) (vc : Nat), Gr w W → W.ownsRow b 63 5 (.slice va cnt vc) cnt X → Calls Tryd.prog 19 #[.agg #[.int .u32 P, .slice va cnt vc]] W fun e w' => ∃ ca cn cc code, e = .returned (.slice ca cn cc) ∧ Cs w' ca cn code ∧ mayC code = true ∧ cn ≤ 12 * cnt + 1 ∧ Gr W w') := TM20
  have M7 : Hid (∀ (W : World) (ca : Option Addr) (cn cc : Nat) (code : List Mv), Cs W ca cn code → mayC code = true → Calls Tryd.prog 14 #[.slice ca cn cc] W fun e w' => e = .returned (.bool true) ∧ Gr W w') := M70
  clear TM10 TMk0 Mk0 TM20 M70
  go_enter Tryd.func6, Tryd.ntmps6
  go_wp2_with fail
  refine (TM1.out _ (by repeat (first | exact Gr.refl _ | refine Gr.alloc ?_ _))).mono ?_
  rintro e w1 ⟨ca, cn, cc, code, rfl, C1, hm1, G1⟩
  have HC1 : Hid (∀ W : World, Gr w1 W → Cs W ca cn code) := fun W G => C1.of G
  have HM1 : Hid (mayC code = true) := hm1
  have HG1 : Hid (Gr w w1) := Gr.trans (by repeat (first | exact Gr.refl _ | refine Gr.alloc ?_ _)) G1
  clear TM1 C1 hm1 G1
  go_wp2_with fail
  refine (TMk.out _ w1.heap.size (by repeat (first | exact HG1.out | refine Gr.alloc ?_ _)) (heap_alloc_new w1 _)).mono ?_
  rintro e w2 ⟨ka, kn, kc, rfl, hk, G2⟩
  have HG2 : Hid (Gr w w2) := Gr.trans (by repeat (first | exact HG1.out | refine Gr.alloc ?_ _)) G2
  have HC2 : Hid (Cs w2 ca cn code) := HC1.out _ (Gr.trans (by repeat (first | exact Gr.refl w1 | refine Gr.alloc ?_ _)) G2)
  have bk : ((kn : Int) == 0) = false := by simp; omega
  clear TMk G2 HC1 HG1
  go_wp2_with fail
  refine (M7.out _ ca cn cc code HC2.out HM1.out).mono ?_
  rintro e w3 ⟨rfl, G3⟩
  have HG3 : Hid (Gr w w3) := HG2.out.trans G3
  clear G3 HC2 HG2 HM1
  go_wp2_with fail
  refine (Mk.out _ HG3.out).mono ?_
  rintro e w4 ⟨va, vc, rfl, O4, G4⟩
  have HG4 : Hid (Gr w w4) := HG3.out.trans G4
  have HO4 : Hid (∀ W : World, Gr w4 W → W.ownsRow w3.heap.size 63 5 (.slice va cnt vc) cnt X) := fun W G => owns_to O4 fun k o f hk => G.block k (Array.getElem?_eq_some_iff.1 hk).1
  clear Mk O4 G4 HG3
  go_wp2_with fail
  refine (TM2.out _ _ va vc (by repeat (first | exact HG4.out | refine Gr.alloc ?_ _)) (HO4.out _ (by repeat (first | exact Gr.refl w4 | refine Gr.alloc ?_ _)))).mono ?_
  rintro e w5 ⟨da, dn, dc, code2, rfl, C5, hm5, hle, G5⟩
  have HG5 : Hid (Gr w w5) := Gr.trans (by repeat (first | exact HG4.out | refine Gr.alloc ?_ _)) G5
  have HV5 : Hid (w5.heap[w4.heap.size]? = some (.cells #[.int .u32 P, .slice va cnt vc] 41 (0, 0))) := up_heap G5 (heap_alloc_new w4 _)
  have HC5 : Hid (Cs w5 da dn code2) := C5
  have HM5 : Hid (mayC code2 = true) := hm5
  clear TM2 C5 hm5 G5 HO4 HG4
  go_wp2_with fail
  refine (M7.out _ da dn dc code2 HC5.out HM5.out).mono ?_
  rintro e w6 ⟨rfl, G6⟩
  have HG6 : Hid (Gr w w6) := HG5.out.trans G6
  have v1 : w6.cell? ⟨w4.heap.size, 1, none⟩ = some (.slice va cnt vc) := cell_of_row _ _ _ _ _ _ (up_heap G6 HV5.out)
  have hle2 : decide ((dn : Int) ≤ 12 * (cnt : Int) + 1) = true := decide_eq_true (by omega)
  clear M7 HC5 HM5 G6 HV5 HG5
  go_wp2_with fail
  go_ret
  exact ⟨rfl, HG6.out⟩
end Go.Proofs.YtbihifipemldhabDoor.Ts
/-
  Small steps in a slice of the program's own; the instructions of a block in one.
-/
namespace Go.Proofs.YtbihifipemldhabDoor.Ts
open Go.ChangeShapes Go.WideShapes Go.ChangeAt Go.RowKit Mm Hc Mi Bk
open Hh
set_option linter.unusedVariables false
set_option linter.unusedSimpArgs false

theorem shape_own {w : World} {base e sz n : Nat} {v : Value} {xs : List Value} (h : w.ownsRow base e sz v n xs) : ∃ a c, v = .slice a n c := by
  rcases h.2 with ⟨rfl, rfl⟩ | ⟨g, cap, _, rfl, _⟩
  · exact ⟨none, 0, rfl⟩
  · exact ⟨_, cap, rfl⟩
theorem at_own {w : World} {base e sz n : Nat} {v : Value} {xs : List Value} (h : w.ownsRow base e sz v n xs) (hn : 0 < n) : ∃ g c, v = .slice (some ⟨g, 0, none⟩) n c ∧ g < w.heap.size ∧ ∀ j u, xs[j]? = some u → w.cell? ⟨g, j, none⟩ = some u := by
  obtain ⟨g, c, rfl⟩ := own_form h hn
  refine ⟨g, c, rfl, (h.lt g rfl).2, fun j u hu => ?_⟩
  have := h.cells (g := g) rfl j u hu
  rwa [add_at, Nat.zero_add] at this
/-- The slice vx, nil or not, reads as m elements of sz cells: news. -/
def Sr (w : World) (vx : Value) (m sz : Nat) (news : List Value) : Prop :=
  (vx = .slice none 0 0 ∧ m = 0 ∧ news = []) ∨ ∃ ad c, vx = .slice (some ad) m c ∧ news.length = m * sz ∧ ∀ j u, news[j]? = some u → w.cell? (ad.add j) = some u
theorem Sr.gr {w w' : World} {vx : Value} {m sz : Nat} {news : List Value} (h : Sr w vx m sz news) (G : Gr w w') : Sr w' vx m sz news := by
  rcases h with h | ⟨ad, c, e, hl, hc⟩
  · exact .inl h
  · exact .inr ⟨ad, c, e, hl, fun j u hj => (G.cell _ (World.block_lt_of_cell? w _ (hc j u hj))).trans (hc j u hj)⟩
theorem Sr.new (w : World) (cs : Array Value) (t n c : Nat) (h : cs.size = n * 5) : Sr (w.alloc (.cells cs t)) (.slice (some ⟨w.heap.size, 0, none⟩) n c) n 5 cs.toList :=
  .inr ⟨_, _, rfl, by simpa using h, fun j u hj => by rw [add_at, Nat.zero_add, cell_of_row _ _ _ _ _ _ (heap_alloc_new w _)]; simpa using hj⟩
section
variable {P : Program} {w : World} {base e size bytes n m : Nat} {i : TypeInfo} {z : Value} {t : TypeId}
theorem wpList_append_sr {ops : Array Oper} {rest : List Oper} {o : Oper} {a : Act} {Q : Exit → Act → World → Prop}
    (hg : o.guard = none) (s x : Operand) (hop : o.op = Op.call { callee := Callee.builtin Builtin.append, args := #[s, x], argTypes := #[t, t] })
    (h1 : P.underlying t = some (.slice e)) (h2 : P.info? e = some i) (h3 : i.zero = some z) (h4 : i.size = size) (h5 : i.bytes = bytes) (h6 : z.cells.size = size) (h7 : 0 < size)
    {v vx : Value} {olds news : List Value} (hs : a.eval s = v) (hx : a.eval x = vx) (hown : w.ownsRow base e size v n olds) (hsrc : Sr w vx m size news) (h1c : ∀ u ∈ news, u.oneCell' = true) (b1 : n + m ≤ maxLen) (b2 : (n + m) * bytes ≤ 140737488355328) (hbase : base ≤ w.heap.size)
    (hK : ∀ v' w', w'.ownsRow base e size v' (n + m) (olds ++ news) → w.grownBy w' v.ownBlock → wpList P ops Q rest (a.put o.dst v') w') : wpList P ops Q (o :: rest) a w := by
  refine wpList_plain hg fun K hk => ?_
  have hr : ∃ v' w', (Builtin.append_ #[t, t] o.type #[v, vx]).run P w = .ok v' w' ∧ w'.ownsRow base e size v' (n + m) (olds ++ news) ∧ w.grownBy w' v.ownBlock := by
    rcases hsrc with ⟨rfl, rfl, rfl⟩ | ⟨ad, c, rfl, hl, hc⟩
    · exact ⟨v, w, run_append_owned_none w base t o.type e i size h1 h2 v n olds hown, by simpa using hown, ⟨rfl, rfl, rfl, Nat.le_refl _, fun _ _ _ => rfl⟩⟩
    · obtain ⟨v', w', hrun, r1, r2, _⟩ := run_append_own (P := P) w base t o.type e i z size bytes h1 h2 h3 h4 h5 h6 h7 v n olds hown ad m c news hl hc h1c b1 b2 hbase
      exact ⟨v', w', hrun, r1, r2⟩
  obtain ⟨v', w', hrun, r1, r2⟩ := hr
  unfold Oper.wp
  simp [execOp, hop, resolve, invoke, builtin, hs, hx, hrun, Result.andThen]
  exact hk _ _ (hK v' w' r1 r2)
end
/-- Small steps as cells. -/
def mvC1 (i : Mv) : List Value := [.int .i64 i.op, .int .i64 i.d, .int .i64 i.a, .int .i64 i.b, .int .u32 i.n]
def mvC (code : List Mv) : List Value := code.flatMap mvC1
theorem mvC_snoc (code : List Mv) (i : Mv) : mvC (code ++ [i]) = mvC code ++ mvC1 i := by simp [mvC]
theorem mvC_app (a b : List Mv) : mvC (a ++ b) = mvC a ++ mvC b := by simp [mvC]
theorem mvC_len (code : List Mv) : (mvC code).length = code.length * 5 := by
  induction code with
  | nil => rfl
  | cons p r ih => simp only [mvC, List.flatMap_cons, List.length_append, List.length_cons] at ih ⊢; rw [ih]; simp [mvC1]; omega
theorem mvC_get : ∀ (code : List Mv) (i j : Nat) (x : Mv), code[i]? = some x → j < 5 → (mvC code)[i * 5 + j]? = (mvC1 x)[j]?
  | [], i, j, x, h, _ => by simp at h
  | p :: r, 0, j, x, h, hj => by
    simp at h; subst h
    show (mvC1 p ++ mvC r)[0 * 5 + j]? = _
    rw [Nat.zero_mul, Nat.zero_add, List.getElem?_append_left (by simpa [mvC1] using hj)]
  | p :: r, i + 1, j, x, h, hj => by
    have ih := mvC_get r i j x (by simpa using h) hj
    show (mvC1 p ++ mvC r)[(i + 1) * 5 + j]? = _
    rw [List.getElem?_append_right (by simp [mvC1]; omega)]
    rw [show (i + 1) * 5 + j - (mvC1 p).length = i * 5 + j by simp [mvC1]; omega]
    exact ih
theorem mvC_one (code : List Mv) : ∀ u ∈ mvC code, u.oneCell' = true := by
  intro u hu
  simp only [mvC, List.mem_flatMap] at hu
  obtain ⟨i, _, hu⟩ := hu
  simp only [mvC1, List.mem_cons, List.not_mem_nil, or_false] at hu
  rcases hu with rfl | rfl | rfl | rfl | rfl <;> rfl
/-- A row of the program's own reads as small steps. -/
theorem cs_own {w : World} {base : Nat} {v : Value} {code : List Mv} (O : w.ownsRow base 84 5 v code.length (mvC code)) (hn : ∀ i ∈ code, Hh.W i.n) (ho : ∀ i ∈ code, -9223372036854775808 ≤ i.op ∧ i.op ≤ 9223372036854775807) : ∃ ca cc, v = .slice ca code.length cc ∧ Cs w ca code.length code := by
  obtain ⟨ca, cc, rfl⟩ := shape_own O
  refine ⟨ca, cc, rfl, rfl, hn, ho, fun h0 => ?_⟩
  obtain ⟨g, c, e, hg, hc⟩ := at_own O h0
  injection e with e1 _ _
  refine ⟨g, 0, e1, hg, fun j i hi => ?_⟩
  rw [Nat.zero_add]
  have q := fun t (ht : t < 5) => mvC_get code j t i hi ht
  refine ⟨hc _ _ ?_, hc _ _ ?_, hc _ _ ?_, hc _ _ ?_, hc _ _ ?_⟩
  · have := q 0 (by omega); rwa [Nat.add_zero] at this
  · exact q 1 (by omega)
  · exact q 2 (by omega)
  · exact q 3 (by omega)
  · exact q 4 (by omega)
/-- The instructions of a block, cell by cell. -/
theorem ins_own {w : World} {base : Nat} {v : Value} {xs : List Int} (O : w.ownsRow base 63 5 v xs.length (blC xs)) : ∃ sa sc, v = .slice sa xs.length sc ∧ ∀ j x, xs[j]? = some x → ∃ g, sa = some ⟨g, 0, none⟩ ∧ g < w.heap.size ∧ ∀ t u, (insC x)[t]? = some u → w.cell? ⟨g, j * 5 + t, none⟩ = some u := by
  obtain ⟨sa, sc, rfl⟩ := shape_own O
  refine ⟨sa, sc, rfl, fun j x hx => ?_⟩
  have h0 : 0 < xs.length := by have := (List.getElem?_eq_some_iff.1 hx).1; omega
  obtain ⟨g, c, e, hg, hc⟩ := at_own O h0
  injection e with e1 _ _
  refine ⟨g, e1, hg, fun t u hu => hc _ _ ?_⟩
  have ht : t < 5 := (List.getElem?_eq_some_iff.1 hu).1
  rw [blC_get xs j t x hx ht]
  exact hu
end Go.Proofs.YtbihifipemldhabDoor.Ts
/-
  The hart's own steps within a block, as plain data ('bst').
-/
namespace Go.Proofs.YtbihifipemldhabDoor.Ts
open Mm Hh Mi
set_option linter.unusedVariables false

/-- Does a store meet the block's bytes? -/
def hitB (bpc last : Int) (p : Int × Int) : Bool := decide (p.1 < last ∧ bpc < Wd.lo (p.1 + p.2))
def b1 (r : Rn) : Rn := { r with h := (stp r.h r.m).h, m := (stp r.h r.m).m, out := r.out ++ (stp r.h r.m).out, n := r.n + 1, sto := r.sto ++ (stp r.h r.m).sto }
/-- Is the k-th step the last one? -/
def bstop (bpc last : Int) (k : Nat) (S : Sv) : Bool := decide (¬ S.h.state = 0) || (decide (¬ S.h.pc = Wd.lo (bpc + (4 * k + 4))) || S.sto.any (hitB bpc last))
/-- So many steps at most, from the k-th one on. -/
def bst (bpc last steps : Int) : Nat → Nat → Rn → Rn
  | 0, _, r => r
  | f + 1, k, r => if (r.n : Int) < steps then (if bstop bpc last k (stp r.h r.m) = true then b1 r else bst bpc last steps f (k + 1) (b1 r)) else r
end Go.Proofs.YtbihifipemldhabDoor.Ts
