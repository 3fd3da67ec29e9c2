/-
  Hb, Mz, Hc, MemWalks, WordWalks, Hm1, Hm2, Ru: texts of ours that lie in one file.
-/
import Derived.Test.YtbihifipemldhabDoorQ02
import Derived.Deep.RegionLaw
import Derived.Test.YtbihifipemldhabDoorQ01
import Derived.Test.YtbihifipemldhabDoorRows
import Derived.WalkKit
import Derived.ProofKit
import Derived.OpenShut
set_option linter.unusedVariables false
set_option linter.unusedSimpArgs false
set_option maxHeartbeats 8000000
set_option maxRecDepth 100000
/-
  Bounds of what a step makes, as plain data: words stay words, a hart stays one.
-/
namespace Go.Proofs.YtbihifipemldhabDoor.Hh
open Mm Wd

def W (x : Int) : Prop := 0 ≤ x ∧ x < 4294967296
theorem W.lo (n : Int) : W (lo n) := lo_bd n
theorem W.tr (b : Bool) : W (tr b) := by unfold Wd.tr W; cases b <;> simp
theorem W.hi (n : Int) : W (hi n) := by unfold Wd.hi W; omega
theorem W.nat {n : Nat} (h : n < 2 ^ 32) : W (n : Int) := by unfold W; omega
theorem W.lt {a : Int} (h : W a) : a.toNat < 2 ^ 32 := by unfold W at h; omega
theorem W.band {a b : Int} (ha : W a) (hb : W b) : W (band a b) := W.nat (Nat.and_lt_two_pow _ hb.lt)
theorem W.bor {a b : Int} (ha : W a) (hb : W b) : W (bor a b) := W.nat (Nat.or_lt_two_pow ha.lt hb.lt)
theorem W.bxor {a b : Int} (ha : W a) (hb : W b) : W (bxor a b) := W.nat (Nat.xor_lt_two_pow ha.lt hb.lt)
theorem W.div {a b : Int} (ha : W a) (hb : 0 ≤ b) : W (a / b) := by
  unfold W at *
  exact ⟨Int.ediv_nonneg ha.1 hb, Int.lt_of_le_of_lt (Int.ediv_le_self b ha.1) ha.2⟩
theorem W.mod {a b : Int} (hb : W b) (h : ¬ b = 0) : W (a % b) := by
  unfold W at *
  have := Int.emod_nonneg a h
  have := Int.emod_lt_of_pos a (show 0 < b by omega)
  omega
theorem W.ite {p : Prop} [Decidable p] {a b : Int} (ha : W a) (hb : W b) : W (if p then a else b) := by split <;> assumption
theorem W.alu {op a b : Int} (ha : W a) (hb : W b) : W (alu op a b) := by
  have h0 : W 0 := by unfold W; omega
  have h1 : W 4294967295 := by unfold W; omega
  have p := pw_bd b hb.1
  unfold Wd.alu
  refine .ite (.lo _) (.ite (.lo _) (.ite (ha.band hb) (.ite (ha.bor hb) (.ite (ha.bxor hb) (.ite (.lo _) (.ite (ha.div (by omega)) (.ite (.lo _) (.ite (.tr _) (.ite (.tr _) (.ite (.lo _) (.ite (.hi _) (.ite (.hi _) (.ite (.hi _) (.ite ?_ (.ite ?_ (.ite ?_ (.ite ?_ h0)))))))))))))))))
  · exact .ite h1 (.lo _)
  · exact .ite ha (.lo _)
  · exact .ite h1 (ha.div hb.1)
  · unfold rmu; split
    · exact ha
    · exact W.mod hb (by assumption)
theorem W.amo {op a b : Int} (ha : W a) (hb : W b) : W (amo op a b) := by
  have h0 : W 0 := by unfold W; omega
  unfold Wd.amo
  exact .ite hb (.ite (.lo _) (.ite (ha.bxor hb) (.ite (ha.band hb) (.ite (ha.bor hb) (.ite (.ite ha hb) (.ite (.ite hb ha) (.ite (.ite ha hb) (.ite (.ite hb ha) h0))))))))
theorem W.ldV (l : List UInt8) (op a : Int) : W (ldV l op a) := by
  have h0 : W 0 := by unfold W; omega
  unfold Mm.ldV
  refine .ite ?_ h0
  have h := raw_bd l a.toNat (lsz op)
  have c := raw_cap l a.toNat op
  generalize raw l a.toNat (lsz op) = x at *
  unfold wide W
  repeat' split
  all_goals omega
theorem W.nxt {h : Hv} {op a b n : Int} : W (nxt h op a b n) := by
  unfold Hh.nxt
  refine .ite ?_ (.ite (.lo _) (.lo _))
  have := lo_bd (a + n)
  unfold W
  omega
theorem W.reg {h : Hv} (o : h.Ok) (i : Nat) : W (rg h i) := o.reg i
theorem st_of_ld {l : List UInt8} {a : Int} (h : ldOk l 13 a = true) : stOk l 18 a = true := h
theorem W.pc {h : Hv} (o : h.Ok) : W h.pc := ⟨o.pc0, o.pc1⟩

/-- What an instruction leaves is a hart, with a word for Rd; the memory is as long as it was. -/
structure Ev.Ok (e : Ev) (l : List UInt8) : Prop where
  h : e.h.Ok
  m : e.m.length = l.length
  res : W (e.res.getD 0)
  out : e.out.length ≤ 1
  sto : e.sto.length ≤ 1
theorem stL_len' {l : List UInt8} {op a x : Int} (ok : stOk l op a = true) : (stL l op a x).length = l.length := by unfold stL; rw [ok]; exact len_put _ _ _ _
theorem ev_mk {h : Hv} {l m : List UInt8} {out : List Int} {sto : List (Int × Int)} {res : Option Int} (oh : h.Ok) (om : m.length = l.length) (w : W (res.getD 0)) (oo : out.length ≤ 1) (os : sto.length ≤ 1) : Ev.Ok ⟨h, m, out, sto, res⟩ l := ⟨oh, om, w, oo, os⟩
theorem W.zero : W 0 := by unfold W; omega
theorem W.one : W 1 := by unfold W; omega
theorem efLoad_ok {h : Hv} (o : h.Ok) (l : List UInt8) (op a : Int) : (efLoad h l op a).Ok l := by
  unfold efLoad; split
  · exact ev_mk o rfl (.ldV _ _ _) (by simp) (by simp)
  · exact ev_mk (o.trap 3) rfl .zero (by simp) (by simp)
theorem efStore_ok {h : Hv} (o : h.Ok) (l : List UInt8) (op a x : Int) : (efStore h l op a x).Ok l := by
  unfold efStore; split
  · exact ev_mk o (stL_len' (by assumption)) .zero (by simp) (by simp)
  · exact ev_mk (o.trap 4) rfl .zero (by simp) (by simp)
theorem efAtom_ok {h : Hv} (o : h.Ok) (l : List UInt8) (op a b : Int) (ha : W a) : (efAtom h l op a b).Ok l := by
  unfold efAtom; split
  · unfold efLr; split
    · exact ev_mk (o.hold true ha.1 ha.2) rfl (.ldV _ _ _) (by simp) (by simp)
    · exact ev_mk (o.trap 3) rfl .zero (by simp) (by simp)
  · split
    · unfold efSc; split
      · split
        · exact ev_mk (o.hold false (x := 0) (by omega) (by omega)) (stL_len' (st_of_ld (by assumption))) .zero (by simp) (by simp)
        · exact ev_mk (o.hold false (x := 0) (by omega) (by omega)) rfl .one (by simp) (by simp)
      · exact ev_mk (o.trap 4) rfl .zero (by simp) (by simp)
    · unfold efAmo; split
      · exact ev_mk o (stL_len' (st_of_ld (by assumption))) (.ldV _ _ _) (by simp) (by simp)
      · exact ev_mk (o.trap 4) rfl .zero (by simp) (by simp)
theorem efCall_ok {h : Hv} (o : h.Ok) (l : List UInt8) : (efCall h l).Ok l := by
  unfold efCall; split
  · exact ev_mk o.halt rfl .zero (by simp) (by simp)
  · split
    · exact ev_mk o rfl .zero (by simp) (by simp)
    · exact ev_mk (o.trap 5) rfl .zero (by simp) (by simp)
theorem eff_ok {h : Hv} (o : h.Ok) (l : List UInt8) {op a b n : Int} (ha : W a) (hb : W b) (hn : W n) : (eff h l op a b n).Ok l := by
  unfold eff
  split
  · exact ev_mk o rfl hn (by simp) (by simp)
  split
  · exact ev_mk o rfl (.lo _) (by simp) (by simp)
  split
  · exact ev_mk o rfl (.lo _) (by simp) (by simp)
  split
  · exact efLoad_ok o l _ _
  split
  · exact efStore_ok o l _ _ _
  split
  · exact ev_mk o rfl (ha.alu hn) (by simp) (by simp)
  split
  · exact ev_mk o rfl (ha.alu hb) (by simp) (by simp)
  split
  · exact efAtom_ok o l _ _ _ ha
  split
  · exact efCall_ok o l
  split
  · exact ev_mk (o.trap 6) rfl .zero (by simp) (by simp)
  · exact ev_mk o rfl .zero (by simp) (by simp)
theorem put_ok {h : Hv} (o : h.Ok) (r : Nat) {x : Option Int} (w : W (x.getD 0)) : (h.put r x).Ok := by
  cases x with
  | none => exact o
  | some x => exact o.set r w.1 w.2
theorem on_ok {h : Hv} (o : h.Ok) {x : Int} (w : W x) : (h.on x).Ok := by
  unfold Hv.on; split
  · exact o.go w.1 w.2
  · exact o
end Go.Proofs.YtbihifipemldhabDoor.Hh
/-
  Small steps, as plain data: what each does ('mic'), and a row of them ('mrun'): no program in sight.
-/
namespace Go.Proofs.YtbihifipemldhabDoor.Mi
open Mm Wd Hh

/-- A small step. -/
structure Mv where
  op : Int
  d : Int
  a : Int
  b : Int
  n : Int
/-- What goes on: the hart, the memory, what came out, how many instructions are done, where was stored, the registers above 31, here, whether something was stored in the own bytes, whether it has stopped. -/
structure Rn where
  h : Hv
  m : List UInt8
  out : List Int
  n : Nat
  sto : List (Int × Int)
  tm : List Int
  here : Int
  own : Bool
  over : Bool
def Rn.get (r : Rn) (k : Int) : Int := if k < 32 then rg r.h k.toNat else r.tm.getD (k - 32).toNat 0
def Rn.put (r : Rn) (k x : Int) : Rn := if 32 ≤ k then { r with tm := r.tm.set (k - 32).toNat x } else { r with h := r.h.set k.toNat x }
def Rn.stop (r : Rn) (pc : Int) : Rn := { r with h := r.h.go pc, over := true }
def Rn.trap (r : Rn) (c : Int) : Rn := { r with h := (r.h.trap c).go r.here, over := true }
/-- Is one of so many bytes from p on within the own ones? -/
def hits (bf bt p : Int) : Nat → Bool
  | 0 => false
  | k + 1 => hits bf bt p k || decide (bf ≤ lo (p + k) ∧ lo (p + k) < bt)
def Rn.stored (r : Rn) (bf bt : Int) (p : Int) (many : Nat) : Rn := { r with sto := r.sto ++ [(p, (many : Int))], own := r.own || hits bf bt p many }
def mLoad (r : Rn) (op p d : Int) : Rn := if ldOk r.m op p = true then r.put d (ldV r.m op p) else r.trap 3
def mStore (bf bt : Int) (r : Rn) (op p x : Int) : Rn := if stOk r.m op p = true then { r with m := stL r.m op p x }.stored bf bt p (ssz op) else r.trap 4
def mLr (r : Rn) (a d : Int) : Rn := if ldOk r.m 13 a = true then { r with h := r.h.hold true a }.put d (ldV r.m 13 a) else r.trap 3
def mSc (bf bt : Int) (r : Rn) (a b d : Int) : Rn := if ldOk r.m 13 a = true then (if r.h.held = true ∧ r.h.heldAt = a then ({ r with h := r.h.hold false 0, m := stL r.m 18 a b }.stored bf bt a 4).put d 0 else { r with h := r.h.hold false 0 }.put d 1) else r.trap 4
def mAmo (bf bt : Int) (r : Rn) (op a b d : Int) : Rn := if ldOk r.m 13 a = true then ({ r with m := stL r.m 18 a (amo op (ldV r.m 13 a) b) }.stored bf bt a 4).put d (ldV r.m 13 a) else r.trap 4
def mAtom (bf bt : Int) (r : Rn) (op a b d : Int) : Rn := if op = 46 then mLr r a d else if op = 47 then mSc bf bt r a b d else mAmo bf bt r op a b d
def mCall (r : Rn) : Rn := if rg r.h 17 = 0 then { r with h := r.h.halt.go r.here, over := true } else if rg r.h 17 = 1 then { r with out := r.out ++ [rg r.h 10] } else r.trap 5
def mAt (steps : Int) (r : Rn) (n : Int) : Rn := if (r.n : Int) = steps ∨ r.own = true then r.stop n else { r with n := r.n + 1, here := n }
/-- A small step that may be, and has an operation: which one, of which kind. -/
def mOp (bf bt : Int) (r : Rn) (c op : Int) (i : Mv) : Rn :=
  if c = 100 then (if holds op (r.get i.a) (r.get i.b) = true then r.stop i.n else r)
  else if c = 200 then mLoad r op (lo (r.get i.a + i.n)) i.d
  else if c = 300 then mStore bf bt r op (lo (r.get i.a + i.n)) (r.get i.b)
  else if c = 400 then r.put i.d (alu op (r.get i.a) (r.get i.b))
  else if c = 500 then r.put i.d (alu op (r.get i.a) i.n)
  else if c = 600 then mAtom bf bt r op (r.get i.a) (r.get i.b) i.d else r
def mic (bf bt steps : Int) (r : Rn) (i : Mv) : Rn :=
  if i.op = 1 then mAt steps r i.n else if i.op = 2 then r.put i.d i.n else if i.op = 3 then r.stop i.n
  else if i.op = 4 then r.stop (lo (r.get i.a + i.n) - lo (r.get i.a + i.n) % 2) else if i.op = 5 then mCall r else if i.op = 6 then r.trap 6
  else mOp bf bt r (i.op - i.op % 100) (i.op % 100) i
/-- Which of D, A, B, N (1, 2, 4, 8 together) a small step has; below 0: there is none such. -/
def named (op : Int) : Int :=
  if op = 1 ∨ op = 3 then 8 else if op = 2 then 9 else if op = 4 then 10 else if op = 5 ∨ op = 6 then 0
  else if 105 ≤ op ∧ op ≤ 110 then 14 else if 211 ≤ op ∧ op ≤ 215 then 11 else if 316 ≤ op ∧ op ≤ 318 then 14
  else if 428 ≤ op ∧ op ≤ 445 then 7 else if 528 ≤ op ∧ op ≤ 545 then 11 else if 646 ≤ op ∧ op ≤ 656 then 7 else -1
/-- A register that is named, or is not. -/
def regOk (has : Bool) (k : Int) : Bool := decide ((has = true ∨ k = 0) ∧ 0 ≤ k ∧ k < 36)
/-- It may be. -/
def micOk (i : Mv) : Bool := decide (0 ≤ named i.op) && (decide (8 ≤ named i.op ∨ i.n = 0) && (regOk (decide (named i.op % 2 = 1)) i.d && (regOk (decide (named i.op / 2 % 2 = 1)) i.a && regOk (decide (named i.op / 4 % 2 = 1)) i.b)))
def mayC (code : List Mv) : Bool := decide (code.length ≤ 200) && code.all micOk
/-- A row of them, from the first one on. -/
def mrun (bf bt steps : Int) (r : Rn) : List Mv → Rn
  | [] => r
  | i :: is => if r.over = true then r else mrun bf bt steps (mic bf bt steps r i) is
/-- Behind the last one. -/
def mend (r : Rn) : Rn := if r.over = false ∧ 0 < r.n then { r with h := r.h.go (lo (r.here + 4)) } else r
def mstart (h : Hv) (l : List UInt8) : Rn := ⟨h, l, [], 0, [], [0, 0, 0, 0], h.pc, false, false⟩
def mplay (bf bt steps : Int) (h : Hv) (l : List UInt8) (code : List Mv) : Rn := mend (mrun bf bt steps (mstart h l) code)
/-- All words are words. -/
structure Rn.Ok (r : Rn) : Prop where
  h : r.h.Ok
  tl : r.tm.length = 4
  tb : ∀ j, 0 ≤ r.tm.getD j 0 ∧ r.tm.getD j 0 < 4294967296
  h0 : 0 ≤ r.here
  h1 : r.here < 4294967296
theorem Rn.Ok.get {r : Rn} (o : r.Ok) (k : Int) : W (r.get k) := by
  unfold Rn.get
  split
  · exact o.h.reg _
  · exact o.tb _
theorem tm_set (l : List Int) (k j : Nat) (x : Int) : (l.set k x).getD j 0 = if j = k ∧ k < l.length then x else l.getD j 0 := by
  simp only [List.getD, List.getElem?_set]
  by_cases e : k = j
  · subst e
    by_cases h : k < l.length
    · simp [h]
    · simp [h]
  · have e2 : ¬ j = k := fun q => e q.symm
    simp [e, e2]
theorem Rn.Ok.put {r : Rn} (o : r.Ok) (k : Int) {x : Int} (hx : W x) : (r.put k x).Ok := by
  unfold Rn.put
  split
  · refine ⟨o.h, by simp [o.tl], fun j => ?_, o.h0, o.h1⟩
    show 0 ≤ (r.tm.set _ x).getD j 0 ∧ _
    rw [tm_set]
    split
    · exact hx
    · exact o.tb j
  · exact ⟨o.h.set _ hx.1 hx.2, o.tl, o.tb, o.h0, o.h1⟩
theorem Rn.Ok.stop {r : Rn} (o : r.Ok) {x : Int} (hx : W x) : (r.stop x).Ok := ⟨o.h.go hx.1 hx.2, o.tl, o.tb, o.h0, o.h1⟩
theorem Rn.Ok.trap {r : Rn} (o : r.Ok) (c : Int) : (r.trap c).Ok := ⟨(o.h.trap c).go o.h0 o.h1, o.tl, o.tb, o.h0, o.h1⟩
theorem Rn.Ok.hart {r : Rn} (o : r.Ok) {h : Hv} (q : h.Ok) : Rn.Ok { r with h := h } := ⟨q, o.tl, o.tb, o.h0, o.h1⟩
theorem Rn.Ok.mem {r : Rn} (o : r.Ok) (m : List UInt8) : Rn.Ok { r with m := m } := ⟨o.h, o.tl, o.tb, o.h0, o.h1⟩
theorem Rn.Ok.stored {r : Rn} (o : r.Ok) (bf bt p : Int) (k : Nat) : (r.stored bf bt p k).Ok := ⟨o.h, o.tl, o.tb, o.h0, o.h1⟩
end Go.Proofs.YtbihifipemldhabDoor.Mi
/-
  A core of package hart, as cells of memory, and what is true of it from method to method: its hart, its memory, what came out and where was stored, as plain data ('In').
-/
namespace Go.Proofs.YtbihifipemldhabDoor.Hc
open Go.ChangeShapes Go.WideShapes Go.ChangeAt Go.RowKit Mm Hh

/-- Ranges of bytes that were stored in, as cells. -/
def rgs (ss : List (Int × Int)) : List Value := ss.flatMap fun p => [.int .u32 p.1, .int .u32 (Wd.lo (p.1 + p.2))]
theorem rgs_snoc (ss : List (Int × Int)) (p : Int × Int) : rgs (ss ++ [p]) = rgs ss ++ [.int .u32 p.1, .int .u32 (Wd.lo (p.1 + p.2))] := by
  simp [rgs]

theorem owns_to {w w' : World} {base e n sz : Nat} {v : Value} {xs : List Value} (h : w.ownsRow base e sz v n xs) (q : ∀ (k : Nat) (o : Array Value) (f : Nat × Nat), w.heap[k]? = some (.cells o e f) → w'.heap[k]? = w.heap[k]?) : w'.ownsRow base e sz v n xs := by
  obtain ⟨h1, h2⟩ := h
  refine ⟨h1, ?_⟩
  rcases h2 with h2 | ⟨g, cap, cur, hv, hb, hg, r⟩
  · exact .inl h2
  · exact .inr ⟨g, cap, cur, hv, hb, (q g _ _ hg).trans hg, r⟩
theorem ne_of_types {w : World} {k g a b : Nat} {o p : Array Value} {f f' : Nat × Nat} (h : w.heap[k]? = some (.cells o a f)) (h' : w.heap[g]? = some (.cells p b f')) (hab : a ≠ b) : k ≠ g := by
  rintro rfl
  rw [h] at h'
  exact hab (by injection h' with h'; injection h')
/-- Only block g has turned, and new ones have come. -/
def Ch (g : Nat) (w w' : World) : Prop := w.grownBy w' (some g)
theorem Ch.refl (g : Nat) (w : World) : Ch g w w := ⟨rfl, rfl, rfl, Nat.le_refl _, fun _ _ _ => rfl⟩
theorem Ch.trans {g : Nat} {a b c : World} (h : Ch g a b) (k : Ch g b c) : Ch g a c :=
  ⟨k.os.trans h.os, k.tape.trans h.tape, k.output.trans h.output, Nat.le_trans h.size k.size, fun i hi hn => (k.block i (Nat.lt_of_lt_of_le hi h.size) hn).trans (h.block i hi hn)⟩
theorem Ch.setCell {g : Nat} {a w : World} (h : Ch g a w) (o : Nat) (v : Value) : Ch g a (w.setCell ⟨g, o, none⟩ v) :=
  h.trans ⟨rfl, rfl, rfl, by simp [World.setCell], fun k hk hn => Below.heap_setCell _ _ _ _ (fun e => hn (by rw [e]))⟩
theorem Ch.gr {g : Nat} {a b c : World} (h : Ch g a b) (k : Gr b c) : Ch g a c :=
  h.trans ⟨k.os, k.tape, k.output, k.size, fun i hi _ => k.block i hi⟩
theorem Ch.below {g base : Nat} {w w' : World} (h : Ch g w w') (hg : base ≤ g) (hb : base ≤ w.heap.size) : Below base w w' :=
  (Below.refl base w).grown h hb (fun k e => by injection e with e; omega)
end Go.Proofs.YtbihifipemldhabDoor.Hc
/-
  What the functions of package mem return, each for every memory, op, place and word: Load the document's word, Store a copy of the memory with the word in it, and nothing old in memory turns. Conditions: the words are from 0 to 2^32 - 1; the memory is one that a machine can hold.
-/
namespace Go.Proofs.YtbihifipemldhabDoor.Mm
open Go.ChangeShapes Go.WideShapes Go.ChangeAt Go.RowKit

end Go.Proofs.YtbihifipemldhabDoor.Mm
/-
  What the functions of package word return, each for every two words: word.Alu returns 'Wd.alu', word.Holds 'Wd.holds', word.Amo 'Wd.amo', and nothing in memory turns. Conditions: the words are from 0 to 2^32 - 1.
-/
namespace Go.Proofs.YtbihifipemldhabDoor.Ww
open Go.ChangeShapes Go.WideShapes Go.ChangeAt Go.RowKit

end Go.Proofs.YtbihifipemldhabDoor.Ww
/-
  What the small functions and methods of package hart return, and what becomes of the core: within, May, Trap, Set, Load, next, of every hart; and ferrybridgeref4.May.
-/
namespace Go.Proofs.YtbihifipemldhabDoor.Hc
open Go.ChangeShapes Go.WideShapes Go.ChangeAt Go.RowKit Mm Hh

theorem may_get (h : Hv) (o : h.Ok) : (hA h)[0]? = some (.int .u32 (rg h 0)) ∧ (hA h)[33]? = some (.bool h.held) ∧ (hA h)[34]? = some (.int .u32 h.heldAt) ∧ (hA h)[35]? = some (.int .i64 h.state) ∧ (hA h)[36]? = some (.int .i64 h.cause) := by
  unfold hA
  simp only [List.getElem?_toArray]
  exact ⟨hL_reg o (by omega), hL_fld o 1, hL_fld o 2, hL_fld o 3, hL_fld o 4⟩


theorem rmay_any {h : Hv} (o : h.Ok) (w : World) : Calls Tryd.prog 20 #[.agg (hA h)] w fun e w' => e = .returned (.bool (may h)) ∧ Gr w w' := by
  obtain ⟨c0, c1, c2, c3, c4⟩ := may_get h o
  have HM : Hid (may h = decide (rg h 0 = 0 ∧ (h.held = false → h.heldAt = 0) ∧ (((h.state = 0 ∨ h.state = 1) ∧ h.cause = 0) ∨ (h.state = 2 ∧ 1 ≤ h.cause ∧ h.cause ≤ 6)))) := rfl
  generalize may h = M at *
  generalize hA h = A at *
  generalize rg h 0 = x0 at *
  generalize h.held = x1 at *
  generalize h.heldAt = x2 at *
  generalize h.state = x3 at *
  generalize h.cause = x4 at *
  clear o
  cases x1
  all_goals
    go_enter Tryd.func20, Tryd.ntmps20
    go_wp2
    all_goals
      clear c0 c1 c2 c3 c4
      go_ret
      refine ⟨ret_bool ?_, (Gr.refl _).alloc _⟩
      rw [HM.out, Bool.eq_iff_iff]
      simp at *
      omega

end Go.Proofs.YtbihifipemldhabDoor.Hc
/-
  What the methods of package hart's core that store do: Store, Call.
-/
namespace Go.Proofs.YtbihifipemldhabDoor.Hc
open Go.ChangeShapes Go.WideShapes Go.ChangeAt Go.RowKit Mm Hh

/-- append to a slice of the program's own, as one step of a region that draws its order. -/
theorem step_append_own {P : Program} {ops : Array Oper} {o : Oper} {a : Act} {w : World} {K : Act → World → Prop} {Q : Exit → Act → World → Prop} {E : Prop}
    (hg : o.guard = none) (s x : Operand) (t : TypeId) (hop : o.op = Op.call { callee := Callee.builtin Builtin.append, args := #[s, x], argTypes := #[t, t] })
    (base : Nat) (e : TypeId) (i : TypeInfo) (z : Value) (size bytes : Nat) (h1 : P.underlying t = some (.slice e)) (h2 : P.info? e = some i) (h3 : i.zero = some z) (h4 : i.size = size) (h5 : i.bytes = bytes) (h6 : z.cells.size = size) (h7 : 0 < size)
    (v : Value) (n : Nat) (olds : List Value) (hs : a.eval s = v) (hown : w.ownsRow base e size v n olds)
    (ad : Addr) (m c : Nat) (news : List Value) (hx : a.eval x = .slice (some ad) m c) (hn : news.length = m * size) (hc : ∀ j u, news[j]? = some u → w.cell? (ad.add j) = some u) (h1c : ∀ u ∈ news, u.oneCell' = true)
    (b1 : n + m ≤ maxLen) (b2 : (n + m) * bytes ≤ 140737488355328) (hbase : base ≤ w.heap.size)
    (hK : ∀ v' w', w'.ownsRow base e size v' (n + m) (olds ++ news) → w.grownBy w' v.ownBlock → K (a.put o.dst v') w') :
    if Region.wanted o (yielded ops a.tmps) = true then Oper.wp P o a w K Q else E := by
  have hw : Region.wanted o (yielded ops a.tmps) = true := by simp [Region.wanted, hg]
  rw [if_pos hw]
  obtain ⟨v', w', hrun, r1, r2, _⟩ := run_append_own (P := P) w base t o.type e i z size bytes h1 h2 h3 h4 h5 h6 h7 v n olds hown ad m c news hn hc h1c b1 b2 hbase
  unfold Oper.wp
  simp [execOp, hop, resolve, invoke, builtin, hs, hx, hrun, Result.andThen]
  exact hK v' w' r1 r2

theorem infoR : (Tryd.prog.info? 50).map (fun i => (i.zero, i.size, i.bytes)) = some (some (.agg #[.int .u32 0, .int .u32 0]), 2, 8) := by kernel_rfl
theorem infoU : (Tryd.prog.info? 38).map (fun i => (i.zero, i.size, i.bytes)) = some (some (.int .u32 0), 1, 4) := by kernel_rfl

theorem Gr.drew {a w : World} (h : Gr a w) : Gr a w.drew := h.drewN 1

theorem owns_gr {w w' : World} {base e n sz : Nat} {v : Value} {xs : List Value} (h : w.ownsRow base e sz v n xs) (q : Gr w w') : w'.ownsRow base e sz v n xs :=
  owns_to h fun k o f hk => q.block k (Array.getElem?_eq_some_iff.1 hk).1
theorem own_form {w : World} {base size n : Nat} {e : TypeId} {v : Value} {xs : List Value} (h : w.ownsRow base e size v n xs) (hn : 0 < n) : ∃ g cap, v = .slice (some ⟨g, 0, none⟩) n cap := by
  rcases h.2 with ⟨_, h0⟩ | ⟨g, cap, _, hv, _⟩
  · omega
  · exact ⟨g, cap, hv⟩
theorem two_cells {W : World} {b : Nat} {x y : Value} (h0 : W.cell? ⟨b, 0, none⟩ = some x) (h1 : W.cell? ⟨b, 1, none⟩ = some y) : ∀ j u, ([x, y] : List Value)[j]? = some u → W.cell? ((⟨b, 0, none⟩ : Addr).add j) = some u := by
  intro j u hj
  rw [add_at]
  match j, hj with
  | 0, hj => simp at hj; subst hj; exact h0
  | 1, hj => simp at hj; subst hj; exact h1
theorem two_one (a b : Int) : ∀ u ∈ [Value.int .u32 a, Value.int .u32 b], u.oneCell' = true := by
  intro u hu
  simp at hu
  rcases hu with rfl | rfl <;> rfl
theorem one_cell {W : World} {b : Nat} {x : Value} (h0 : W.cell? ⟨b, 0, none⟩ = some x) : ∀ j u, ([x] : List Value)[j]? = some u → W.cell? ((⟨b, 0, none⟩ : Addr).add j) = some u := by
  intro j u hj
  rw [add_at]
  match j, hj with
  | 0, hj => simp at hj; subst hj; exact h0
theorem one_one (a : Int) : ∀ u ∈ [Value.int .u32 a], u.oneCell' = true := by
  intro u hu
  simp at hu
  subst hu
  rfl
end Go.Proofs.YtbihifipemldhabDoor.Hc
/-
  The document's run of small steps (ferrybridgeref7.Run) as cells of memory, and what is true of it from method to method ('Ru').
-/
namespace Go.Proofs.YtbihifipemldhabDoor.Mi
open Go.ChangeShapes Go.WideShapes Go.ChangeAt Go.RowKit Mm Hh Hc

def uT (r : Rn) (M O S : Value) (bf bt : Int) : List Value := [M, O, .int .i64 r.n, S] ++ r.tm.map (Value.int .u32) ++ [.int .u32 r.here, .bool r.own, .bool r.over, .int .u32 bf, .int .u32 bt]
def uA (r : Rn) (M O S : Value) (bf bt : Int) : Array Value := (hL r.h ++ uT r M O S bf bt).toArray
theorem uT_len {r : Rn} (o : r.Ok) (M O S : Value) (bf bt : Int) : (uT r M O S bf bt).length = 13 := by simp [uT, o.tl]
theorem uA_size {r : Rn} (o : r.Ok) (M O S : Value) (bf bt : Int) : (uA r M O S bf bt).size = 50 := by simp [uA, hL_len o.h, uT_len o]
theorem uA_h {r : Rn} (o : r.Ok) {M O S : Value} {bf bt : Int} {i : Nat} (hi : i < 37) : (uA r M O S bf bt)[i]? = (hL r.h)[i]? := by
  have := hL_len o.h
  unfold uA
  rw [List.getElem?_toArray, List.getElem?_append_left (by omega)]
theorem uA_t {r : Rn} (o : r.Ok) {M O S : Value} {bf bt : Int} (j : Nat) : (uA r M O S bf bt)[37 + j]? = (uT r M O S bf bt)[j]? := by
  unfold uA
  rw [List.getElem?_toArray, List.getElem?_append_right (by simp [hL_len o.h])]
  simp [hL_len o.h]
theorem uT_tm {r : Rn} (o : r.Ok) {M O S : Value} {bf bt : Int} {j : Nat} (hj : j < 4) : (uT r M O S bf bt)[4 + j]? = some (.int .u32 (r.tm.getD j 0)) := by
  have := o.tl
  unfold uT
  rw [List.append_assoc, List.getElem?_append_right (by simp), List.getElem?_append_left (by simp; omega)]
  simp only [List.length_cons, List.length_nil, List.getElem?_map, List.getD]
  rw [show 4 + j - (0 + 1 + 1 + 1 + 1) = j by omega, List.getElem?_eq_getElem (by omega)]
  rfl
theorem uT_fld {r : Rn} (o : r.Ok) {M O S : Value} {bf bt : Int} (j : Nat) : (uT r M O S bf bt)[8 + j]? = [Value.int .u32 r.here, .bool r.own, .bool r.over, .int .u32 bf, .int .u32 bt][j]? := by
  unfold uT
  rw [List.getElem?_append_right (by simp [o.tl])]
  simp [o.tl]
theorem uA_setH {r : Rn} (o : r.Ok) {M O S : Value} {bf bt : Int} {i : Nat} (hi : i < 37) {v : Value} {h' : Hv} (e : (hL r.h).set i v = hL h') : (uA r M O S bf bt).setIfInBounds i v = uA { r with h := h' } M O S bf bt := by
  have := hL_len o.h
  unfold uA
  simp only [List.setIfInBounds_toArray]
  rw [List.set_append_left _ _ (by omega), e]
  rfl
theorem uA_setT {r r' : Rn} (o : r.Ok) {M O S M' O' S' : Value} {bf bt : Int} {j : Nat} {v : Value} (eh : r'.h = r.h) (e : (uT r M O S bf bt).set j v = uT r' M' O' S' bf bt) : (uA r M O S bf bt).setIfInBounds (37 + j) v = uA r' M' O' S' bf bt := by
  have := hL_len o.h
  unfold uA
  simp only [List.setIfInBounds_toArray]
  rw [List.set_append_right _ _ (by omega), this, eh, show 37 + j - 37 = j by omega, e]
theorem uT_setTm {r : Rn} (o : r.Ok) {M O S : Value} {bf bt : Int} {j : Nat} (hj : j < 4) (x : Int) : (uT r M O S bf bt).set (4 + j) (.int .u32 x) = uT { r with tm := r.tm.set j x } M O S bf bt := by
  have := o.tl
  unfold uT
  rw [List.append_assoc, List.set_append_right _ _ (by simp), List.set_append_left _ _ (by simp; omega)]
  simp only [List.length_cons, List.length_nil, List.map_set]
  rw [show 4 + j - (0 + 1 + 1 + 1 + 1) = j by omega, ← List.append_assoc]
theorem uT_setF {r r' : Rn} (o : r.Ok) {M O S : Value} {bf bt : Int} {j : Nat} {v : Value} (en : r'.n = r.n) (et : r'.tm = r.tm) (e : [Value.int .u32 r.here, .bool r.own, .bool r.over, .int .u32 bf, .int .u32 bt].set j v = [Value.int .u32 r'.here, .bool r'.own, .bool r'.over, .int .u32 bf, .int .u32 bt]) : (uT r M O S bf bt).set (8 + j) v = uT r' M O S bf bt := by
  unfold uT
  rw [List.set_append_right _ _ (by simp [o.tl]), en, et]
  simp only [List.length_append, List.length_cons, List.length_nil, List.length_map, o.tl]
  rw [show 8 + j - (0 + 1 + 1 + 1 + 1 + 4) = j by omega, e]
/-- The memory of a run: what was handed in (below base), or bytes of its own. -/
def MO (w : World) (base : Nat) (M : Value) (l : List UInt8) : Prop := ∃ ao cap, M = .slice ao l.length cap ∧ Mem w ao l.length l ∧ ∀ ad, ao = some ad → 0 < l.length → ad.block < base ∨ ∃ o f, w.heap[ad.block]? = some (.cells o 5 f)
theorem MO.keep {w w' : World} {base : Nat} {M : Value} {l : List UInt8} (h : MO w base M l) (e : ∀ k, k < base → w'.heap[k]? = w.heap[k]?) (e2 : ∀ (k : Nat) (o : Array Value) (f : Nat × Nat), w.heap[k]? = some (.cells o 5 f) → w'.heap[k]? = w.heap[k]?) : MO w' base M l := by
  obtain ⟨ao, cap, hM, hm, far⟩ := h
  have k : ∀ ad, ao = some ad → 0 < l.length → w'.heap[ad.block]? = w.heap[ad.block]? := fun ad q h0 => by
    rcases far ad q h0 with h | ⟨o, f, h⟩
    · exact e _ h
    · exact e2 _ _ _ h
  refine ⟨ao, cap, hM, ?_, fun ad q h0 => ?_⟩
  · by_cases h0 : 0 < l.length
    · exact hm.apart fun ad q => k ad q h0
    · exact ⟨hm.len, hm.nil, fun ad q t ht => by omega⟩
  · rcases far ad q h0 with h | ⟨o, f, h⟩
    · exact .inl h
    · exact .inr ⟨o, f, (k ad q h0).trans h⟩
structure RV (w : World) (base g : Nat) (r : Rn) (bf bt : Int) (M O S : Value) : Prop where
  ok : r.Ok
  bg : base ≤ g
  blk : w.heap[g]? = some (.cells (uA r M O S bf bt) 99 (0, 0))
  mem : MO w base M r.m
  out : w.ownsRow base 38 1 O r.out.length (r.out.map (Value.int .u32))
  sto : w.ownsRow base 50 2 S r.sto.length (rgs r.sto)
/-- A run at block g. -/
def Ru (w : World) (base g : Nat) (r : Rn) (bf bt : Int) : Prop := ∃ M O S, RV w base g r bf bt M O S
theorem RV.lt {w : World} {base g : Nat} {r : Rn} {bf bt : Int} {M O S : Value} (V : RV w base g r bf bt M O S) : g < w.heap.size := (Array.getElem?_eq_some_iff.1 V.blk).1
theorem RV.cell {w : World} {base g : Nat} {r : Rn} {bf bt : Int} {M O S : Value} (V : RV w base g r bf bt M O S) (i : Nat) : w.cell? ⟨g, i, none⟩ = (uA r M O S bf bt)[i]? := cell_of_row _ _ _ _ _ _ V.blk
theorem RV.fz {w : World} {base g : Nat} {r : Rn} {bf bt : Int} {M O S : Value} (V : RV w base g r bf bt M O S) (i : Nat) : w.frozen? ⟨g, i, none⟩ = false := frozen_of_row _ _ _ _ _ V.blk
theorem RV.reg {w : World} {base g : Nat} {r : Rn} {bf bt : Int} {M O S : Value} (V : RV w base g r bf bt M O S) {i : Nat} (hi : i < 32) : w.cell? ⟨g, i, none⟩ = some (.int .u32 (rg r.h i)) :=
  (V.cell i).trans ((uA_h V.ok (by omega)).trans (hL_reg V.ok.h hi))
theorem RV.fld {w : World} {base g : Nat} {r : Rn} {bf bt : Int} {M O S : Value} (V : RV w base g r bf bt M O S) {j : Nat} (hj : j < 5) : w.cell? ⟨g, 32 + j, none⟩ = [Value.int .u32 r.h.pc, .bool r.h.held, .int .u32 r.h.heldAt, .int .i64 r.h.state, .int .i64 r.h.cause][j]? :=
  (V.cell _).trans ((uA_h V.ok (by omega)).trans (hL_fld V.ok.h j))
theorem RV.top {w : World} {base g : Nat} {r : Rn} {bf bt : Int} {M O S : Value} (V : RV w base g r bf bt M O S) (j : Nat) : w.cell? ⟨g, 37 + j, none⟩ = (uT r M O S bf bt)[j]? := (V.cell _).trans (uA_t V.ok j)
theorem RV.tmp {w : World} {base g : Nat} {r : Rn} {bf bt : Int} {M O S : Value} (V : RV w base g r bf bt M O S) {j : Nat} (hj : j < 4) : w.cell? ⟨g, 41 + j, none⟩ = some (.int .u32 (r.tm.getD j 0)) := by
  have := (V.top (4 + j)).trans (uT_tm V.ok hj)
  rwa [show 37 + (4 + j) = 41 + j by omega] at this
theorem RV.last {w : World} {base g : Nat} {r : Rn} {bf bt : Int} {M O S : Value} (V : RV w base g r bf bt M O S) (j : Nat) : w.cell? ⟨g, 45 + j, none⟩ = [Value.int .u32 r.here, .bool r.own, .bool r.over, .int .u32 bf, .int .u32 bt][j]? := by
  have := (V.top (8 + j)).trans (uT_fld V.ok j)
  rwa [show 37 + (8 + j) = 45 + j by omega] at this
/-- Only block g has turned, and new ones have come. -/
theorem RV.ch {w w' : World} {base g : Nat} {r r' : Rn} {bf bt : Int} {M O S M' : Value} (V : RV w base g r bf bt M O S) (q : Ch g w w') (hb : w'.heap[g]? = some (.cells (uA r' M' O S bf bt) 99 (0, 0))) (ok : r'.Ok) (hm : MO w' base M' r'.m) (eo : r'.out = r.out) (es : r'.sto = r.sto) : RV w' base g r' bf bt M' O S := by
  have st : ∀ t : Nat, t ≠ 99 → ∀ (k : Nat) (o : Array Value) (f : Nat × Nat), w.heap[k]? = some (.cells o t f) → w'.heap[k]? = w.heap[k]? := fun t ht k o f hk =>
    q.block k (Array.getElem?_eq_some_iff.1 hk).1 (fun e => ne_of_types hk V.blk ht (by injection e))
  refine ⟨ok, V.bg, hb, hm, ?_, ?_⟩
  · rw [eo]; exact owns_to V.out (st _ (by decide))
  · rw [es]; exact owns_to V.sto (st _ (by decide))
theorem RV.chM {w w' : World} {base g : Nat} {r : Rn} {bf bt : Int} {M O S : Value} (V : RV w base g r bf bt M O S) (q : Ch g w w') : MO w' base M r.m := by
  have hl := V.lt
  have hg := V.bg
  refine V.mem.keep (fun k hk => q.block k (by omega) (fun e => by injection e with e; omega)) fun k o f hk => ?_
  exact q.block k (Array.getElem?_eq_some_iff.1 hk).1 (fun e => ne_of_types hk V.blk (by decide) (by injection e))
theorem RV.of {w w' : World} {base g : Nat} {r : Rn} {bf bt : Int} {M O S : Value} (V : RV w base g r bf bt M O S) (q : Gr w w') : RV w' base g r bf bt M O S :=
  V.ch ((Ch.refl g w).gr q) ((q.block g V.lt).trans V.blk) V.ok (V.chM ((Ch.refl g w).gr q)) rfl rfl
theorem Ru.of {w w' : World} {base g : Nat} {r : Rn} {bf bt : Int} (V : Ru w base g r bf bt) (q : Gr w w') : Ru w' base g r bf bt := by
  obtain ⟨M, O, S, V⟩ := V
  exact ⟨M, O, S, V.of q⟩
theorem RV.set {w : World} {base g : Nat} {r r' : Rn} {bf bt : Int} {M O S : Value} (V : RV w base g r bf bt M O S) {i : Nat} {v : Value} (e : (uA r M O S bf bt).setIfInBounds i v = uA r' M O S bf bt) (ok : r'.Ok) (em : r'.m = r.m) (eo : r'.out = r.out) (es : r'.sto = r.sto) : RV (w.setCell ⟨g, i, none⟩ v) base g r' bf bt M O S :=
  V.ch ((Ch.refl g w).setCell i v) (by rw [heap_setCell_same _ _ _ _ _ _ V.blk, e]) ok (by rw [em]; exact V.chM ((Ch.refl g w).setCell i v)) eo es
theorem RV.below {w : World} {base g : Nat} {r : Rn} {bf bt : Int} {M O S : Value} (V : RV w base g r bf bt M O S) {w' : World} (q : Ch g w w') : Below base w w' := q.below V.bg (Nat.le_trans V.bg (Nat.le_of_lt V.lt))
theorem RV.setM {w : World} {base g : Nat} {r : Rn} {bf bt : Int} {M O S M' : Value} (V : RV w base g r bf bt M O S) {l : List UInt8} (hm : MO w base M' l) : RV (w.setCell ⟨g, 37, none⟩ M') base g { r with m := l } bf bt M' O S := by
  refine V.ch ((Ch.refl g w).setCell 37 M') ?_ (V.ok.mem l) ?_ rfl rfl
  · rw [heap_setCell_same _ _ _ _ _ _ V.blk, uA_setT (r' := { r with m := l }) (M' := M') (O' := O) (S' := S) (j := 0) V.ok rfl rfl]
  · have hl := V.lt
    have hg := V.bg
    refine hm.keep (fun k hk => ((Ch.refl g w).setCell 37 M').block k (by omega) (fun e => by injection e with e; omega)) fun k o f hk => ?_
    exact ((Ch.refl g w).setCell 37 M').block k (Array.getElem?_eq_some_iff.1 hk).1 (fun e => ne_of_types hk V.blk (by decide) (by injection e))
end Go.Proofs.YtbihifipemldhabDoor.Mi
