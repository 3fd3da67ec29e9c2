/-
  Hb, Mz, Sq, Mz2, Mw, Bp: texts of ours that lie in one file.
-/
import Derived.Test.YtchllaeembmioaaGreatDoorQ03
set_option linter.unusedVariables false
set_option linter.unusedSimpArgs false
set_option maxHeartbeats 8000000
set_option maxRecDepth 100000
namespace Go.Proofs.YtchllaeembmioaaGreatDoor.Hh
open Mm Wd

def W (x : Int) : Prop := 0 ≤ x ∧ x < 4294967296
theorem W.lo (n : Int) : W (lo n) := lo_bd n
theorem W.tr (b : Bool) : W (tr b) := by unfold Wd.tr W; cases b <;> simp
theorem W.hi (n : Int) : W (hi n) := by unfold Wd.hi W; omega
theorem W.nat {n : Nat} (h : n < 2 ^ 32) : W (n : Int) := by unfold W; omega
theorem W.lt {a : Int} (h : W a) : a.toNat < 2 ^ 32 := by unfold W at h; omega
theorem W.band {a b : Int} (ha : W a) (hb : W b) : W (band a b) := W.nat (Nat.and_lt_two_pow _ hb.lt)
theorem W.bor {a b : Int} (ha : W a) (hb : W b) : W (bor a b) := W.nat (Nat.or_lt_two_pow ha.lt hb.lt)
theorem W.bxor {a b : Int} (ha : W a) (hb : W b) : W (bxor a b) := W.nat (Nat.xor_lt_two_pow ha.lt hb.lt)
theorem W.div {a b : Int} (ha : W a) (hb : 0 ≤ b) : W (a / b) := by
 unfold W at *
 exact ⟨Int.ediv_nonneg ha.1 hb, Int.lt_of_le_of_lt (Int.ediv_le_self b ha.1) ha.2⟩
theorem W.mod {a b : Int} (hb : W b) (h : ¬ b = 0) : W (a % b) := by
 unfold W at *
 have := Int.emod_nonneg a h
 have := Int.emod_lt_of_pos a (show 0 < b by omega)
 omega
theorem W.ite {p : Prop} [Decidable p] {a b : Int} (ha : W a) (hb : W b) : W (if p then a else b) := by split <;> assumption
theorem W.alu {op a b : Int} (ha : W a) (hb : W b) : W (alu op a b) := by
 have h0 : W 0 := by unfold W; omega
 have h1 : W 4294967295 := by unfold W; omega
 have p := pw_bd b hb.1
 unfold Wd.alu
 refine .ite (.lo _) (.ite (.lo _) (.ite (ha.band hb) (.ite (ha.bor hb) (.ite (ha.bxor hb) (.ite (.lo _) (.ite (ha.div (by omega)) (.ite (.lo _) (.ite (.tr _) (.ite (.tr _) (.ite (.lo _) (.ite (.hi _) (.ite (.hi _) (.ite (.hi _) (.ite ?_ (.ite ?_ (.ite ?_ (.ite ?_ h0)))))))))))))))))
 ·exact .ite h1 (.lo _)
 ·exact .ite ha (.lo _)
 ·exact .ite h1 (ha.div hb.1)
 ·unfold rmu; split
  ·exact ha
  ·exact W.mod hb (by assumption)
theorem W.amo {op a b : Int} (ha : W a) (hb : W b) : W (amo op a b) := by
 have h0 : W 0 := by unfold W; omega
 unfold Wd.amo
 exact .ite hb (.ite (.lo _) (.ite (ha.bxor hb) (.ite (ha.band hb) (.ite (ha.bor hb) (.ite (.ite ha hb) (.ite (.ite hb ha) (.ite (.ite ha hb) (.ite (.ite hb ha) h0))))))))
theorem W.ldV (l : List UInt8) (op a : Int) : W (ldV l op a) := by
 have h0 : W 0 := by unfold W; omega
 unfold Mm.ldV
 refine .ite ?_ h0
 have h := raw_bd l a.toNat (lsz op)
 have c := raw_cap l a.toNat op
 generalize raw l a.toNat (lsz op) = x at *
 unfold wide W
 repeat' split
 all_goals omega
theorem W.nxt {h : Hv} {op a b n : Int} : W (nxt h op a b n) := by
 unfold Hh.nxt
 refine .ite ?_ (.ite (.lo _) (.lo _))
 have := lo_bd (a + n)
 unfold W
 omega
theorem W.reg {h : Hv} (o : h.Ok) (i : Nat) : W (rg h i) := o.reg i
theorem st_of_ld {l : List UInt8} {a : Int} (h : ldOk l 13 a = true) : stOk l 18 a = true := h
structure Ev.Ok (e : Ev) (l : List UInt8) : Prop where
 h : e.h.Ok
 m : e.m.length = l.length
 res : W (e.res.getD 0)
 out : e.out.length ≤ 1
 sto : e.sto.length ≤ 1
theorem stL_len' {l : List UInt8} {op a x : Int} (ok : stOk l op a = true) : (stL l op a x).length = l.length := by unfold stL; rw [ok]; exact len_put _ _ _ _
theorem ev_mk {h : Hv} {l m : List UInt8} {out : List Int} {sto : List (Int × Int)} {res : Option Int} (oh : h.Ok) (om : m.length = l.length) (w : W (res.getD 0)) (oo : out.length ≤ 1) (os : sto.length ≤ 1) : Ev.Ok ⟨h, m, out, sto, res⟩ l := ⟨oh, om, w, oo, os⟩
theorem W.zero : W 0 := by unfold W; omega
theorem W.one : W 1 := by unfold W; omega
theorem efLoad_ok {h : Hv} (o : h.Ok) (l : List UInt8) (op a : Int) : (efLoad h l op a).Ok l := by
 unfold efLoad; split
 ·exact ev_mk o rfl (.ldV _ _ _) (by simp) (by simp)
 ·exact ev_mk (o.trap 3) rfl .zero (by simp) (by simp)
theorem efStore_ok {h : Hv} (o : h.Ok) (l : List UInt8) (op a x : Int) : (efStore h l op a x).Ok l := by
 unfold efStore; split
 ·exact ev_mk o (stL_len' (by assumption)) .zero (by simp) (by simp)
 ·exact ev_mk (o.trap 4) rfl .zero (by simp) (by simp)
theorem efAtom_ok {h : Hv} (o : h.Ok) (l : List UInt8) (op a b : Int) (ha : W a) : (efAtom h l op a b).Ok l := by
 unfold efAtom; split
 ·unfold efLr; split
  ·exact ev_mk (o.hold true ha.1 ha.2) rfl (.ldV _ _ _) (by simp) (by simp)
  ·exact ev_mk (o.trap 3) rfl .zero (by simp) (by simp)
 ·split
  ·unfold efSc; split
   ·split
    ·exact ev_mk (o.hold false (x := 0) (by omega) (by omega)) (stL_len' (st_of_ld (by assumption))) .zero (by simp) (by simp)
    ·exact ev_mk (o.hold false (x := 0) (by omega) (by omega)) rfl .one (by simp) (by simp)
   ·exact ev_mk (o.trap 4) rfl .zero (by simp) (by simp)
  ·unfold efAmo; split
   ·exact ev_mk o (stL_len' (st_of_ld (by assumption))) (.ldV _ _ _) (by simp) (by simp)
   ·exact ev_mk (o.trap 4) rfl .zero (by simp) (by simp)
theorem efCall_ok {h : Hv} (o : h.Ok) (l : List UInt8) : (efCall h l).Ok l := by
 unfold efCall; split
 ·exact ev_mk o.halt rfl .zero (by simp) (by simp)
 ·split
  ·exact ev_mk o rfl .zero (by simp) (by simp)
  ·exact ev_mk (o.trap 5) rfl .zero (by simp) (by simp)
theorem eff_ok {h : Hv} (o : h.Ok) (l : List UInt8) {op a b n : Int} (ha : W a) (hb : W b) (hn : W n) : (eff h l op a b n).Ok l := by
 unfold eff
 split
 ·exact ev_mk o rfl hn (by simp) (by simp)
 split
 ·exact ev_mk o rfl (.lo _) (by simp) (by simp)
 split
 ·exact ev_mk o rfl (.lo _) (by simp) (by simp)
 split
 ·exact efLoad_ok o l _ _
 split
 ·exact efStore_ok o l _ _ _
 split
 ·exact ev_mk o rfl (ha.alu hn) (by simp) (by simp)
 split
 ·exact ev_mk o rfl (ha.alu hb) (by simp) (by simp)
 split
 ·exact efAtom_ok o l _ _ _ ha
 split
 ·exact efCall_ok o l
 split
 ·exact ev_mk (o.trap 6) rfl .zero (by simp) (by simp)
 ·exact ev_mk o rfl .zero (by simp) (by simp)
theorem put_ok {h : Hv} (o : h.Ok) (r : Nat) {x : Option Int} (w : W (x.getD 0)) : (h.put r x).Ok := by
 cases x with
 | none => exact o
 | some x => exact o.set r w.1 w.2
theorem on_ok {h : Hv} (o : h.Ok) {x : Int} (w : W x) : (h.on x).Ok := by
 unfold Hv.on; split
 ·exact o.go w.1 w.2
 ·exact o
end Go.Proofs.YtchllaeembmioaaGreatDoor.Hh
namespace Go.Proofs.YtchllaeembmioaaGreatDoor.Mi
open Mm Wd Hh

structure Mv where
 op : Int
 d : Int
 a : Int
 b : Int
 n : Int
structure Rn where
 h : Hv
 m : List UInt8
 out : List Int
 n : Nat
 sto : List (Int × Int)
 tm : List Int
 here : Int
 own : Bool
 over : Bool
def Rn.get (r : Rn) (k : Int) : Int := if k < 32 then rg r.h k.toNat else r.tm.getD (k - 32).toNat 0
def Rn.put (r : Rn) (k x : Int) : Rn := if 32 ≤ k then { r with tm := r.tm.set (k - 32).toNat x } else { r with h := r.h.set k.toNat x }
def Rn.stop (r : Rn) (pc : Int) : Rn := { r with h := r.h.go pc, over := true }
def Rn.trap (r : Rn) (c : Int) : Rn := { r with h := (r.h.trap c).go r.here, over := true }
def hits (bf bt p : Int) : Nat → Bool
 | 0 => false
 | k + 1 => hits bf bt p k || decide (bf ≤ lo (p + k) ∧ lo (p + k) < bt)
def Rn.stored (r : Rn) (bf bt : Int) (p : Int) (many : Nat) : Rn := { r with sto := r.sto ++ [(p, (many : Int))], own := r.own || hits bf bt p many }
def mLoad (r : Rn) (op p d : Int) : Rn := if ldOk r.m op p = true then r.put d (ldV r.m op p) else r.trap 3
def mStore (bf bt : Int) (r : Rn) (op p x : Int) : Rn := if stOk r.m op p = true then { r with m := stL r.m op p x }.stored bf bt p (ssz op) else r.trap 4
def mLr (r : Rn) (a d : Int) : Rn := if ldOk r.m 13 a = true then { r with h := r.h.hold true a }.put d (ldV r.m 13 a) else r.trap 3
def mSc (bf bt : Int) (r : Rn) (a b d : Int) : Rn := if ldOk r.m 13 a = true then (if r.h.held = true ∧ r.h.heldAt = a then ({ r with h := r.h.hold false 0, m := stL r.m 18 a b }.stored bf bt a 4).put d 0 else { r with h := r.h.hold false 0 }.put d 1) else r.trap 4
def mAmo (bf bt : Int) (r : Rn) (op a b d : Int) : Rn := if ldOk r.m 13 a = true then ({ r with m := stL r.m 18 a (amo op (ldV r.m 13 a) b) }.stored bf bt a 4).put d (ldV r.m 13 a) else r.trap 4
def mAtom (bf bt : Int) (r : Rn) (op a b d : Int) : Rn := if op = 46 then mLr r a d else if op = 47 then mSc bf bt r a b d else mAmo bf bt r op a b d
def mCall (r : Rn) : Rn := if rg r.h 17 = 0 then { r with h := r.h.halt.go r.here, over := true } else if rg r.h 17 = 1 then { r with out := r.out ++ [rg r.h 10] } else r.trap 5
def mAt (steps : Int) (r : Rn) (n : Int) : Rn := if (r.n : Int) = steps ∨ r.own = true then r.stop n else { r with n := r.n + 1, here := n }
def mOp (bf bt : Int) (r : Rn) (c op : Int) (i : Mv) : Rn :=
 if c = 100 then (if holds op (r.get i.a) (r.get i.b) = true then r.stop i.n else r)
 else if c = 200 then mLoad r op (lo (r.get i.a + i.n)) i.d
 else if c = 300 then mStore bf bt r op (lo (r.get i.a + i.n)) (r.get i.b)
 else if c = 400 then r.put i.d (alu op (r.get i.a) (r.get i.b))
 else if c = 500 then r.put i.d (alu op (r.get i.a) i.n)
 else if c = 600 then mAtom bf bt r op (r.get i.a) (r.get i.b) i.d else r
def mic (bf bt steps : Int) (r : Rn) (i : Mv) : Rn :=
 if i.op = 1 then mAt steps r i.n else if i.op = 2 then r.put i.d i.n else if i.op = 3 then r.stop i.n
 else if i.op = 4 then r.stop (lo (r.get i.a + i.n) - lo (r.get i.a + i.n) % 2) else if i.op = 5 then mCall r else if i.op = 6 then r.trap 6
 else mOp bf bt r (i.op - i.op % 100) (i.op % 100) i
def named (op : Int) : Int :=
 if op = 1 ∨ op = 3 then 8 else if op = 2 then 9 else if op = 4 then 10 else if op = 5 ∨ op = 6 then 0
 else if 105 ≤ op ∧ op ≤ 110 then 14 else if 211 ≤ op ∧ op ≤ 215 then 11 else if 316 ≤ op ∧ op ≤ 318 then 14
 else if 428 ≤ op ∧ op ≤ 445 then 7 else if 528 ≤ op ∧ op ≤ 545 then 11 else if 646 ≤ op ∧ op ≤ 656 then 7 else -1
def regOk (has : Bool) (k : Int) : Bool := decide ((has = true ∨ k = 0) ∧ 0 ≤ k ∧ k < 36)
def micOk (i : Mv) : Bool := decide (0 ≤ named i.op) && (decide (8 ≤ named i.op ∨ i.n = 0) && (regOk (decide (named i.op % 2 = 1)) i.d && (regOk (decide (named i.op / 2 % 2 = 1)) i.a && regOk (decide (named i.op / 4 % 2 = 1)) i.b)))
def mayC (code : List Mv) : Bool := decide (code.length ≤ 200) && code.all micOk
def mrun (bf bt steps : Int) (r : Rn) : List Mv → Rn
 | [] => r
 | i :: is => if r.over = true then r else mrun bf bt steps (mic bf bt steps r i) is
def mend (r : Rn) : Rn := if r.over = false ∧ 0 < r.n then { r with h := r.h.go (lo (r.here + 4)) } else r
def mstart (h : Hv) (l : List UInt8) : Rn := ⟨h, l, [], 0, [], [0, 0, 0, 0], h.pc, false, false⟩
def mplay (bf bt steps : Int) (h : Hv) (l : List UInt8) (code : List Mv) : Rn := mend (mrun bf bt steps (mstart h l) code)
structure Rn.Ok (r : Rn) : Prop where
 h : r.h.Ok
 tl : r.tm.length = 4
 tb : ∀ j, 0 ≤ r.tm.getD j 0 ∧ r.tm.getD j 0 < 4294967296
 h0 : 0 ≤ r.here
 h1 : r.here < 4294967296
theorem Rn.Ok.get {r : Rn} (o : r.Ok) (k : Int) : W (r.get k) := by
 unfold Rn.get
 split
 ·exact o.h.reg _
 ·exact o.tb _
theorem tm_set (l : List Int) (k j : Nat) (x : Int) : (l.set k x).getD j 0 = if j = k ∧ k < l.length then x else l.getD j 0 := by
 simp only [List.getD, List.getElem?_set]
 by_cases e : k = j
 ·subst e
  by_cases h : k < l.length
  ·simp [h]
  ·simp [h]
 ·have e2 : ¬ j = k := fun q => e q.symm
  simp [e, e2]
theorem Rn.Ok.put {r : Rn} (o : r.Ok) (k : Int) {x : Int} (hx : W x) : (r.put k x).Ok := by
 unfold Rn.put
 split
 ·refine ⟨o.h, by simp [o.tl], fun j => ?_, o.h0, o.h1⟩
  show 0 ≤ (r.tm.set _ x).getD j 0 ∧ _
  rw [tm_set]
  split
  ·exact hx
  ·exact o.tb j
 ·exact ⟨o.h.set _ hx.1 hx.2, o.tl, o.tb, o.h0, o.h1⟩
theorem Rn.Ok.stop {r : Rn} (o : r.Ok) {x : Int} (hx : W x) : (r.stop x).Ok := ⟨o.h.go hx.1 hx.2, o.tl, o.tb, o.h0, o.h1⟩
theorem Rn.Ok.trap {r : Rn} (o : r.Ok) (c : Int) : (r.trap c).Ok := ⟨(o.h.trap c).go o.h0 o.h1, o.tl, o.tb, o.h0, o.h1⟩
theorem Rn.Ok.hart {r : Rn} (o : r.Ok) {h : Hv} (q : h.Ok) : Rn.Ok { r with h := h } := ⟨q, o.tl, o.tb, o.h0, o.h1⟩
theorem Rn.Ok.mem {r : Rn} (o : r.Ok) (m : List UInt8) : Rn.Ok { r with m := m } := ⟨o.h, o.tl, o.tb, o.h0, o.h1⟩
theorem Rn.Ok.stored {r : Rn} (o : r.Ok) (bf bt p : Int) (k : Nat) : (r.stored bf bt p k).Ok := ⟨o.h, o.tl, o.tb, o.h0, o.h1⟩
end Go.Proofs.YtchllaeembmioaaGreatDoor.Mi
namespace Go.Proofs.YtchllaeembmioaaGreatDoor.Ts
open Mm Hh Mi

def hitB (bpc last : Int) (p : Int × Int) : Bool := decide (p.1 < last ∧ bpc < Wd.lo (p.1 + p.2))
def b1 (r : Rn) : Rn := { r with h := (stp r.h r.m).h, m := (stp r.h r.m).m, out := r.out ++ (stp r.h r.m).out, n := r.n + 1, sto := r.sto ++ (stp r.h r.m).sto }
def bstop (bpc last : Int) (k : Nat) (S : Sv) : Bool := decide (¬ S.h.state = 0) || (decide (¬ S.h.pc = Wd.lo (bpc + (4 * k + 4))) || S.sto.any (hitB bpc last))
def bst (bpc last steps : Int) : Nat → Nat → Rn → Rn
 | 0, _, r => r
 | f + 1, k, r => if (r.n : Int) < steps then (if bstop bpc last k (stp r.h r.m) = true then b1 r else bst bpc last steps f (k + 1) (b1 r)) else r
end Go.Proofs.YtchllaeembmioaaGreatDoor.Ts
namespace Go.Proofs.YtchllaeembmioaaGreatDoor.Mi
open Mm Wd Hh

theorem mrun_over (bf bt steps : Int) {r : Rn} (h : r.over = true) : ∀ l, mrun bf bt steps r l = r
 | [] => rfl
 | i :: is => by unfold mrun; rw [if_pos h]
theorem mrun_append (bf bt steps : Int) : ∀ (l k : List Mv) (r : Rn), mrun bf bt steps r (l ++ k) = mrun bf bt steps (mrun bf bt steps r l) k
 | [], k, r => rfl
 | i :: is, k, r => by
  by_cases h : r.over = true
  ·rw [mrun_over _ _ _ h, mrun_over _ _ _ h, mrun_over _ _ _ h]
  ·rw [List.cons_append, mrun, if_neg h, mrun_append bf bt steps is k, mrun, if_neg h]
theorem mrun_take (bf bt steps : Int) {r : Rn} {code : List Mv} {j : Nat} {i : Mv} (hi : code[j]? = some i) (ho : (mrun bf bt steps r (code.take j)).over = false) : mrun bf bt steps r (code.take (j + 1)) = mic bf bt steps (mrun bf bt steps r (code.take j)) i := by
 rw [List.take_add_one, hi, mrun_append]
 show mrun bf bt steps _ [i] = _
 rw [mrun, if_neg (by simp [ho]), mrun]
theorem mrun_done (bf bt steps : Int) {r : Rn} {code : List Mv} {j : Nat} (ho : (mrun bf bt steps r (code.take j)).over = true) : mrun bf bt steps r code = mrun bf bt steps r (code.take j) := by
 have e := mrun_append bf bt steps (code.take j) (code.drop j) r
 rw [List.take_append_drop] at e
 rw [e, mrun_over _ _ _ ho]
structure Bd (r r' : Rn) : Prop where
 m : r'.m.length = r.m.length
 sto : r'.sto.length ≤ r.sto.length + 1
 out : r'.out.length ≤ r.out.length + 1
 n : r'.n ≤ r.n + 1
theorem Bd.refl (r : Rn) : Bd r r := ⟨rfl, by omega, by omega, by omega⟩
theorem bd_put {r r' : Rn} (h : Bd r r') (k x : Int) : Bd r (r'.put k x) := by
 unfold Rn.put
 split
 ·exact ⟨h.m, h.sto, h.out, h.n⟩
 ·exact ⟨h.m, h.sto, h.out, h.n⟩
theorem stL_length {l : List UInt8} {op a x : Int} (h : stOk l op a = true) : (stL l op a x).length = l.length := by
 unfold stL
 rw [if_pos h, len_put]
theorem bd_trap (r : Rn) (c : Int) : Bd r (r.trap c) := ⟨rfl, by simp [Rn.trap], by simp [Rn.trap], by simp [Rn.trap]⟩
theorem bd_stop (r : Rn) (c : Int) : Bd r (r.stop c) := ⟨rfl, by simp [Rn.stop], by simp [Rn.stop], by simp [Rn.stop]⟩
theorem bd_stored {r : Rn} {h : Hv} {m : List UInt8} (hm : m.length = r.m.length) (bf bt p : Int) (k : Nat) : Bd r ({ r with h := h, m := m }.stored bf bt p k) := ⟨hm, by simp [Rn.stored], by simp [Rn.stored], by simp [Rn.stored]⟩
theorem bd_hart (r : Rn) (h : Hv) : Bd r { r with h := h } := ⟨rfl, by simp, by simp, by simp⟩
theorem bd_mOp (bf bt : Int) (r : Rn) (c op : Int) (i : Mv) : Bd r (mOp bf bt r c op i) := by
 unfold mOp
 split
 ·split
  ·exact bd_stop r _
  ·exact Bd.refl r
 split
 ·unfold mLoad
  split
  ·exact bd_put (Bd.refl r) _ _
  ·exact bd_trap r _
 split
 ·unfold mStore
  split
  ·rename_i h
   exact bd_stored (h := r.h) (stL_length h) _ _ _ _
  ·exact bd_trap r _
 split
 ·exact bd_put (Bd.refl r) _ _
 split
 ·exact bd_put (Bd.refl r) _ _
 split
 ·unfold mAtom
  split
  ·unfold mLr
   split
   ·exact bd_put (bd_hart r _) _ _
   ·exact bd_trap r _
  split
  ·unfold mSc
   split
   ·rename_i h
    split
    ·exact bd_put (bd_stored (stL_length (st_of_ld h)) _ _ _ _) _ _
    ·exact bd_put (bd_hart r _) _ _
   ·exact bd_trap r _
  ·unfold mAmo
   split
   ·rename_i h
    exact bd_put (bd_stored (h := r.h) (stL_length (st_of_ld h)) _ _ _ _) _ _
   ·exact bd_trap r _
 ·exact Bd.refl r
theorem bd_mic (bf bt steps : Int) (r : Rn) (i : Mv) : Bd r (mic bf bt steps r i) := by
 unfold mic
 split
 ·unfold mAt
  split
  ·exact bd_stop r _
  ·exact ⟨rfl, by simp, by simp, by simp⟩
 split
 ·exact bd_put (Bd.refl r) _ _
 split
 ·exact bd_stop r _
 split
 ·exact bd_stop r _
 split
 ·unfold mCall
  split
  ·exact ⟨rfl, by simp, by simp, by simp⟩
  split
  ·exact ⟨rfl, by simp, by simp, by simp⟩
  ·exact bd_trap r _
 split
 ·exact bd_trap r _
 ·exact bd_mOp bf bt r _ _ i
theorem bd_mrun (bf bt steps : Int) (r : Rn) (code : List Mv) : ∀ j, (mrun bf bt steps r (code.take j)).m.length = r.m.length ∧ (mrun bf bt steps r (code.take j)).sto.length ≤ r.sto.length + j ∧ (mrun bf bt steps r (code.take j)).out.length ≤ r.out.length + j ∧ (mrun bf bt steps r (code.take j)).n ≤ r.n + j
 | 0 => ⟨rfl, by simp [mrun], by simp [mrun], by simp [mrun]⟩
 | j + 1 => by
  obtain ⟨h1, h2, h3, h4⟩ := bd_mrun bf bt steps r code j
  cases hi : code[j]? with
  | none =>
   have e : code.take (j + 1) = code.take j := by rw [List.take_add_one, hi]; simp
   rw [e]
   exact ⟨h1, by omega, by omega, by omega⟩
  | some i =>
   cases ho : (mrun bf bt steps r (code.take j)).over with
   | false =>
    rw [mrun_take bf bt steps hi ho]
    have b := bd_mic bf bt steps (mrun bf bt steps r (code.take j)) i
    have b2 := b.sto
    have b3 := b.out
    have b4 := b.n
    exact ⟨b.m.trans h1, by omega, by omega, by omega⟩
   | true =>
    have e : mrun bf bt steps r (code.take (j + 1)) = mrun bf bt steps r (code.take j) := by
     rw [List.take_add_one, hi, mrun_append, mrun_over _ _ _ ho]
    rw [e]
    exact ⟨h1, by omega, by omega, by omega⟩
theorem micOk_named {i : Mv} (h : micOk i = true) : 0 ≤ named i.op ∧ (0 ≤ i.d ∧ i.d < 36) ∧ (0 ≤ i.a ∧ i.a < 36) ∧ 0 ≤ i.b ∧ i.b < 36 := by
 unfold micOk regOk at h
 simp only [Bool.and_eq_true, decide_eq_true_eq] at h
 obtain ⟨h1, _, ⟨_, h2⟩, ⟨_, h3⟩, ⟨_, h4⟩⟩ := h
 exact ⟨h1, h2, h3, h4⟩
end Go.Proofs.YtchllaeembmioaaGreatDoor.Mi
namespace Go.Proofs.YtchllaeembmioaaGreatDoor.Mi
open Mm Wd Hh

def meet (bf bt : Int) (p : Int × Int) : Bool := decide (max p.1 bf < min (lo (p.1 + p.2)) bt)
def ownB (bf bt : Int) (ss : List (Int × Int)) : Bool := ss.any (meet bf bt)
theorem hits_iff (bf bt p : Int) : ∀ k, hits bf bt p k = true ↔ ∃ j : Nat, j < k ∧ bf ≤ lo (p + j) ∧ lo (p + j) < bt
 | 0 => ⟨fun h => (by cases h), fun ⟨j, h, _⟩ => absurd h (by omega)⟩
 | k + 1 => by
  unfold hits
  rw [Bool.or_eq_true, hits_iff bf bt p k, decide_eq_true_iff]
  constructor
  ·rintro (⟨j, h, q⟩ | q)
   ·exact ⟨j, by omega, q⟩
   ·exact ⟨k, by omega, q⟩
  ·rintro ⟨j, h, q⟩
   by_cases e : j = k
   ·subst e; exact .inr q
   ·exact .inl ⟨j, by omega, q⟩
theorem hits_meet {bf bt p : Int} {k : Nat} (h0 : 0 ≤ p) (h1 : p + k < 4294967296) (hk : k ≤ 4) : hits bf bt p k = meet bf bt (p, (k : Int)) := by
 have e : ∀ j : Nat, j ≤ k → lo (p + j) = p + j := fun j h => Int.emod_eq_of_lt (by omega) (by omega)
 rw [Bool.eq_iff_iff, hits_iff]
 unfold meet
 rw [decide_eq_true_iff]
 show _ ↔ max p bf < min (lo (p + k)) bt
 rw [e k (by omega)]
 constructor
 ·rintro ⟨j, hj, a, b⟩
  rw [e j (by omega)] at a b
  rw [Int.max_def, Int.min_def]
  split <;> split <;> omega
 ·intro h
  rw [Int.max_def, Int.min_def] at h
  by_cases c : p ≤ bf
  ·refine ⟨(bf - p).toNat, ?_, ?_⟩
   ·split at h <;> split at h <;> omega
   ·rw [e _ (by split at h <;> split at h <;> omega)]
    split at h <;> split at h <;> omega
  ·refine ⟨0, ?_, ?_⟩
   ·split at h <;> split at h <;> omega
   ·rw [e _ (by omega)]
    split at h <;> split at h <;> omega
def efR (r : Rn) (i : Mv) : Ev :=
 if i.op = 2 then ⟨r.h, r.m, [], [], some i.n⟩
 else if 211 ≤ i.op ∧ i.op ≤ 215 then efLoad r.h r.m (i.op - 200) (lo (r.get i.a + i.n))
 else if 316 ≤ i.op ∧ i.op ≤ 318 then efStore r.h r.m (i.op - 300) (lo (r.get i.a + i.n)) (r.get i.b)
 else if 428 ≤ i.op ∧ i.op ≤ 445 then ⟨r.h, r.m, [], [], some (alu (i.op - 400) (r.get i.a) (r.get i.b))⟩
 else if 528 ≤ i.op ∧ i.op ≤ 545 then ⟨r.h, r.m, [], [], some (alu (i.op - 500) (r.get i.a) i.n)⟩
 else if 646 ≤ i.op ∧ i.op ≤ 656 then efAtom r.h r.m (i.op - 600) (r.get i.a) (r.get i.b)
 else ⟨r.h, r.m, [], [], none⟩
def Rn.ev (r : Rn) (e : Ev) : Rn := { r with h := e.h, m := e.m, out := r.out ++ e.out, sto := r.sto ++ e.sto }
def Rn.putO (r : Rn) (d : Int) : Option Int → Rn
 | some x => r.put d x
 | none => r
def dos (r : Rn) (i : Mv) : Rn :=
 if i.op = 1 then { r with n := r.n + 1, here := i.n } else if i.op = 5 then r.ev (efCall r.h r.m) else if i.op = 6 then { r with h := r.h.trap 6 }
 else (r.ev (efR r i)).putO i.d (efR r i).res
def lvP (r : Rn) (i : Mv) : Int := if i.op = 4 then lo (r.get i.a + i.n) - lo (r.get i.a + i.n) % 2 else i.n
def lvB (bf bt steps : Int) (r : Rn) (i : Mv) : Bool :=
 if i.op = 1 then decide ((r.n : Int) = steps) || ownB bf bt r.sto else if i.op = 3 then true else if i.op = 4 then true else holds (i.op - 100) (r.get i.a) (r.get i.b)
def gos (bf bt steps : Int) (r : Rn) (i : Mv) : Rn :=
 if lvB bf bt steps r i = true then r.stop (lvP r i) else if (dos r i).h.state = 0 then dos r i else (dos r i).stop (dos r i).here
theorem put_state (r : Rn) (k x : Int) : (r.put k x).h.state = r.h.state := by
 unfold Rn.put
 split
 ·rfl
 ·unfold Hv.set
  split <;> rfl
theorem ev_nil (r : Rn) (o : Option Int) : r.ev ⟨r.h, r.m, [], [], o⟩ = r := by simp [Rn.ev]
theorem gos_lv {bf bt steps : Int} {r : Rn} {i : Mv} (h : lvB bf bt steps r i = true) : gos bf bt steps r i = r.stop (lvP r i) := if_pos h
theorem gos_go {bf bt steps : Int} {r : Rn} {i : Mv} (h : lvB bf bt steps r i = false) (q : (dos r i).h.state = 0) : gos bf bt steps r i = dos r i := by
 unfold gos; rw [if_neg (by simp [h]), if_pos q]
theorem gos_end {bf bt steps : Int} {r : Rn} {i : Mv} (h : lvB bf bt steps r i = false) (q : ¬ (dos r i).h.state = 0) : gos bf bt steps r i = (dos r i).stop (dos r i).here := by
 unfold gos; rw [if_neg (by simp [h]), if_neg q]
theorem named_cases {op : Int} (h : 0 ≤ named op) : op = 1 ∨ op = 2 ∨ op = 3 ∨ op = 4 ∨ op = 5 ∨ op = 6 ∨ (105 ≤ op ∧ op ≤ 110) ∨ (211 ≤ op ∧ op ≤ 215) ∨ (316 ≤ op ∧ op ≤ 318) ∨ (428 ≤ op ∧ op ≤ 445) ∨ (528 ≤ op ∧ op ≤ 545) ∨ (646 ≤ op ∧ op ≤ 656) := by
 unfold named at h
 split at h
 ·omega
 split at h
 ·omega
 split at h
 ·omega
 split at h
 ·omega
 split at h
 ·omega
 split at h
 ·omega
 split at h
 ·omega
 split at h
 ·omega
 split at h
 ·omega
 split at h
 ·omega
 omega
theorem holds_no {op a b : Int} (h : op < 5 ∨ 10 < op) : holds op a b = false := by
 unfold holds
 rw [if_neg (by omega), if_neg (by omega), if_neg (by omega), if_neg (by omega), if_neg (by omega), if_neg (by omega)]
theorem lvB_no {bf bt steps : Int} {r : Rn} {i : Mv} (h : i.op ≠ 1 ∧ i.op ≠ 3 ∧ i.op ≠ 4 ∧ (i.op < 105 ∨ 110 < i.op)) : lvB bf bt steps r i = false := by
 unfold lvB
 rw [if_neg h.1, if_neg h.2.1, if_neg h.2.2.1, holds_no (by omega)]
theorem dos_ef {r : Rn} {i : Mv} (h : i.op ≠ 1 ∧ i.op ≠ 5 ∧ i.op ≠ 6) : dos r i = (r.ev (efR r i)).putO i.d (efR r i).res := by
 unfold dos
 rw [if_neg h.1, if_neg h.2.1, if_neg h.2.2]
theorem mic_op {bf bt steps : Int} {r : Rn} {i : Mv} {c k : Int} (h : 100 ≤ c) (hk : 0 ≤ k ∧ k < 100) (h2 : i.op = c + k) (h3 : c % 100 = 0) : mic bf bt steps r i = mOp bf bt r c k i := by
 unfold mic
 rw [if_neg (by omega), if_neg (by omega), if_neg (by omega), if_neg (by omega), if_neg (by omega), if_neg (by omega), show i.op - i.op % 100 = c by omega, show i.op % 100 = k by omega]
theorem eq_own {r r' : Rn} (h : r = r') : { r with own := r'.own } = r' := by subst h; rfl
theorem eq_put {r r' : Rn} (d x : Int) {o : Bool} (h : { r with own := r'.own } = r') : { r.put d x with own := (r'.put d x).own } = r'.put d x := by
 have e : r' = { r with own := r'.own } := h.symm
 rw [e]
 unfold Rn.put
 split <;> rfl
theorem gos_mic {bf bt steps : Int} {r : Rn} {i : Mv} (hi : 0 ≤ named i.op) (hs : r.h.state = 0) (hw : r.own = ownB bf bt r.sto) : { gos bf bt steps r i with own := (mic bf bt steps r i).own } = mic bf bt steps r i := by
 rcases named_cases hi with h | h | h | h | h | h | h | h | h | h | h | h
 ·have e : mic bf bt steps r i = mAt steps r i.n := by unfold mic; rw [if_pos h]
  have e1 : lvB bf bt steps r i = (decide ((r.n : Int) = steps) || r.own) := by unfold lvB; rw [if_pos h, hw]
  have e2 : lvP r i = i.n := by unfold lvP; rw [if_neg (by omega)]
  have e3 : dos r i = { r with n := r.n + 1, here := i.n } := by unfold dos; rw [if_pos h]
  rw [e]
  refine eq_own ?_
  unfold mAt
  split
  ·rename_i q
   rw [gos_lv (by rw [e1]; simpa using q), e2]
  ·rename_i q
   have q1 : lvB bf bt steps r i = false := by
    rw [e1]
    simp only [not_or, Bool.not_eq_true] at q
    simp [q.1, q.2]
   rw [gos_go q1 (by rw [e3]; exact hs), e3]
 ·have e : mic bf bt steps r i = r.put i.d i.n := by unfold mic; rw [if_neg (by omega), if_pos h]
  have e0 : efR r i = ⟨r.h, r.m, [], [], some i.n⟩ := by unfold efR; rw [if_pos h]
  have e3 : dos r i = r.put i.d i.n := by rw [dos_ef (by omega), e0, ev_nil]; rfl
  rw [e]
  refine eq_own ?_
  rw [gos_go (lvB_no (by omega)) (by rw [e3, put_state]; exact hs), e3]
 ·have e : mic bf bt steps r i = r.stop i.n := by unfold mic; rw [if_neg (by omega), if_neg (by omega), if_pos h]
  rw [e]
  refine eq_own ?_
  rw [gos_lv (by unfold lvB; rw [if_neg (by omega), if_pos h])]
  unfold lvP
  rw [if_neg (by omega)]
 ·have e : mic bf bt steps r i = r.stop (lo (r.get i.a + i.n) - lo (r.get i.a + i.n) % 2) := by unfold mic; rw [if_neg (by omega), if_neg (by omega), if_neg (by omega), if_pos h]
  rw [e]
  refine eq_own ?_
  rw [gos_lv (by unfold lvB; rw [if_neg (by omega), if_neg (by omega), if_pos h])]
  unfold lvP
  rw [if_pos h]
 ·have e : mic bf bt steps r i = mCall r := by unfold mic; rw [if_neg (by omega), if_neg (by omega), if_neg (by omega), if_neg (by omega), if_pos h]
  have e3 : dos r i = r.ev (efCall r.h r.m) := by unfold dos; rw [if_neg (by omega), if_pos h]
  have e1 : lvB bf bt steps r i = false := lvB_no (by omega)
  rw [e]
  refine eq_own ?_
  unfold mCall
  unfold efCall at e3
  split
  ·rename_i q
   rw [if_pos q] at e3
   rw [gos_end e1 (by rw [e3]; simp [Rn.ev, Hv.halt]), e3]
   simp [Rn.ev, Rn.stop]
  split
  ·rename_i q0 q
   rw [if_neg q0, if_pos q] at e3
   rw [gos_go e1 (by rw [e3]; exact hs), e3]
   simp [Rn.ev]
  ·rename_i q0 q
   rw [if_neg q0, if_neg q] at e3
   rw [gos_end e1 (by rw [e3]; simp [Rn.ev, Hv.trap]), e3]
   simp [Rn.ev, Rn.stop, Rn.trap]
 ·have e : mic bf bt steps r i = r.trap 6 := by unfold mic; rw [if_neg (by omega), if_neg (by omega), if_neg (by omega), if_neg (by omega), if_neg (by omega), if_pos h]
  have e3 : dos r i = { r with h := r.h.trap 6 } := by unfold dos; rw [if_neg (by omega), if_neg (by omega), if_pos h]
  rw [e]
  refine eq_own ?_
  rw [gos_end (lvB_no (by omega)) (by rw [e3]; simp [Hv.trap]), e3]
  rfl
 ·rw [mic_op (c := 100) (k := i.op - 100) (by omega) (by omega) (by omega) (by omega)]
  have e1 : lvB bf bt steps r i = holds (i.op - 100) (r.get i.a) (r.get i.b) := by unfold lvB; rw [if_neg (by omega), if_neg (by omega), if_neg (by omega)]
  have e2 : lvP r i = i.n := by unfold lvP; rw [if_neg (by omega)]
  have e0 : efR r i = ⟨r.h, r.m, [], [], none⟩ := by unfold efR; rw [if_neg (by omega), if_neg (by omega), if_neg (by omega), if_neg (by omega), if_neg (by omega), if_neg (by omega)]
  have e3 : dos r i = r := by rw [dos_ef (by omega), e0, ev_nil]; rfl
  refine eq_own ?_
  unfold mOp
  rw [if_pos rfl]
  split
  ·rename_i q
   rw [gos_lv (by rw [e1]; exact q), e2]
  ·rename_i q
   rw [gos_go (by rw [e1]; simpa using q) (by rw [e3]; exact hs), e3]
 ·rw [mic_op (c := 200) (k := i.op - 200) (by omega) (by omega) (by omega) (by omega)]
  have e1 : lvB bf bt steps r i = false := lvB_no (by omega)
  have e0 : efR r i = efLoad r.h r.m (i.op - 200) (lo (r.get i.a + i.n)) := by unfold efR; rw [if_neg (by omega), if_pos h]
  have e3 : dos r i = (r.ev (efR r i)).putO i.d (efR r i).res := dos_ef (by omega)
  refine eq_own ?_
  unfold mOp
  rw [if_neg (by omega), if_pos rfl]
  unfold mLoad
  unfold efLoad at e0
  split
  ·rename_i q
   rw [if_pos q] at e0
   rw [e0, ev_nil] at e3
   rw [gos_go e1 (by rw [e3]; exact (put_state _ _ _).trans hs), e3]
   rfl
  ·rename_i q
   rw [if_neg q] at e0
   rw [e0] at e3
   rw [gos_end e1 (by rw [e3]; simp [Rn.ev, Rn.putO, Hv.trap]), e3]
   simp [Rn.ev, Rn.stop, Rn.trap, Rn.putO]
 ·rw [mic_op (c := 300) (k := i.op - 300) (by omega) (by omega) (by omega) (by omega)]
  have e1 : lvB bf bt steps r i = false := lvB_no (by omega)
  have e0 : efR r i = efStore r.h r.m (i.op - 300) (lo (r.get i.a + i.n)) (r.get i.b) := by unfold efR; rw [if_neg (by omega), if_neg (by omega), if_pos h]
  have e3 : dos r i = (r.ev (efR r i)).putO i.d (efR r i).res := dos_ef (by omega)
  unfold mOp
  rw [if_neg (by omega), if_neg (by omega), if_pos rfl]
  unfold mStore
  unfold efStore at e0
  split
  ·rename_i q
   rw [if_pos q] at e0
   rw [e0] at e3
   rw [gos_go e1 (by rw [e3]; exact hs), e3]
   simp [Rn.ev, Rn.putO, Rn.stored]
  ·rename_i q
   refine eq_own ?_
   rw [if_neg q] at e0
   rw [e0] at e3
   rw [gos_end e1 (by rw [e3]; simp [Rn.ev, Rn.putO, Hv.trap]), e3]
   simp [Rn.ev, Rn.stop, Rn.trap, Rn.putO]
 ·rw [mic_op (c := 400) (k := i.op - 400) (by omega) (by omega) (by omega) (by omega)]
  have e0 : efR r i = ⟨r.h, r.m, [], [], some (alu (i.op - 400) (r.get i.a) (r.get i.b))⟩ := by unfold efR; rw [if_neg (by omega), if_neg (by omega), if_neg (by omega), if_pos h]
  have e3 : dos r i = r.put i.d (alu (i.op - 400) (r.get i.a) (r.get i.b)) := by rw [dos_ef (by omega), e0, ev_nil]; rfl
  refine eq_own ?_
  unfold mOp
  rw [if_neg (by omega), if_neg (by omega), if_neg (by omega), if_pos rfl]
  rw [gos_go (lvB_no (by omega)) (by rw [e3, put_state]; exact hs), e3]
 ·rw [mic_op (c := 500) (k := i.op - 500) (by omega) (by omega) (by omega) (by omega)]
  have e0 : efR r i = ⟨r.h, r.m, [], [], some (alu (i.op - 500) (r.get i.a) i.n)⟩ := by unfold efR; rw [if_neg (by omega), if_neg (by omega), if_neg (by omega), if_neg (by omega), if_pos h]
  have e3 : dos r i = r.put i.d (alu (i.op - 500) (r.get i.a) i.n) := by rw [dos_ef (by omega), e0, ev_nil]; rfl
  refine eq_own ?_
  unfold mOp
  rw [if_neg (by omega), if_neg (by omega), if_neg (by omega), if_neg (by omega), if_pos rfl]
  rw [gos_go (lvB_no (by omega)) (by rw [e3, put_state]; exact hs), e3]
 ·rw [mic_op (c := 600) (k := i.op - 600) (by omega) (by omega) (by omega) (by omega)]
  have e1 : lvB bf bt steps r i = false := lvB_no (by omega)
  have e0 : efR r i = efAtom r.h r.m (i.op - 600) (r.get i.a) (r.get i.b) := by unfold efR; rw [if_neg (by omega), if_neg (by omega), if_neg (by omega), if_neg (by omega), if_neg (by omega), if_pos h]
  have e3 : dos r i = (r.ev (efR r i)).putO i.d (efR r i).res := dos_ef (by omega)
  unfold mOp
  rw [if_neg (by omega), if_neg (by omega), if_neg (by omega), if_neg (by omega), if_neg (by omega), if_pos rfl]
  unfold mAtom
  unfold efAtom at e0
  by_cases q6 : i.op - 600 = 46
  ·rw [if_pos q6] at e0 ⊢
   refine eq_own ?_
   unfold mLr
   unfold efLr at e0
   split
   ·rename_i q
    rw [if_pos q] at e0
    rw [e0] at e3
    have e4 : dos r i = { r with h := r.h.hold true (r.get i.a) }.put i.d (ldV r.m 13 (r.get i.a)) := by rw [e3]; simp [Rn.ev, Rn.putO]
    rw [gos_go e1 (by rw [e4, put_state]; exact hs), e4]
   ·rename_i q
    rw [if_neg q] at e0
    rw [e0] at e3
    rw [gos_end e1 (by rw [e3]; simp [Rn.ev, Rn.putO, Hv.trap]), e3]
    simp [Rn.ev, Rn.stop, Rn.trap, Rn.putO]
  rw [if_neg q6] at e0 ⊢
  by_cases q7 : i.op - 600 = 47
  ·rw [if_pos q7] at e0 ⊢
   unfold mSc
   unfold efSc at e0
   by_cases q : ldOk r.m 13 (r.get i.a) = true
   ·rw [if_pos q] at e0 ⊢
    by_cases q2 : r.h.held = true ∧ r.h.heldAt = r.get i.a
    ·rw [if_pos q2] at e0 ⊢
     rw [e0] at e3
     have e4 : dos r i = ({ r with h := r.h.hold false 0, m := stL r.m 18 (r.get i.a) (r.get i.b), sto := r.sto ++ [(r.get i.a, 4)] } : Rn).put i.d 0 := by rw [e3]; simp [Rn.ev, Rn.putO]
     rw [gos_go e1 (by rw [e4, put_state]; exact hs), e4]
     refine eq_put (o := true) _ _ ?_
     rfl
    ·rw [if_neg q2] at e0 ⊢
     rw [e0] at e3
     have e4 : dos r i = { r with h := r.h.hold false 0 }.put i.d 1 := by rw [e3]; simp [Rn.ev, Rn.putO]
     refine eq_own ?_
     rw [gos_go e1 (by rw [e4, put_state]; exact hs), e4]
   ·rw [if_neg q] at e0 ⊢
    rw [e0] at e3
    refine eq_own ?_
    rw [gos_end e1 (by rw [e3]; simp [Rn.ev, Rn.putO, Hv.trap]), e3]
    simp [Rn.ev, Rn.stop, Rn.trap, Rn.putO]
  rw [if_neg q7] at e0 ⊢
  unfold mAmo
  unfold efAmo at e0
  by_cases q : ldOk r.m 13 (r.get i.a) = true
  ·rw [if_pos q] at e0 ⊢
   rw [e0] at e3
   have e4 : dos r i = ({ r with m := stL r.m 18 (r.get i.a) (amo (i.op - 600) (ldV r.m 13 (r.get i.a)) (r.get i.b)), sto := r.sto ++ [(r.get i.a, 4)] } : Rn).put i.d (ldV r.m 13 (r.get i.a)) := by rw [e3]; simp [Rn.ev, Rn.putO]
   rw [gos_go e1 (by rw [e4, put_state]; exact hs), e4]
   refine eq_put (o := true) _ _ ?_
   rfl
  ·rw [if_neg q] at e0 ⊢
   rw [e0] at e3
   refine eq_own ?_
   rw [gos_end e1 (by rw [e3]; simp [Rn.ev, Rn.putO, Hv.trap]), e3]
   simp [Rn.ev, Rn.stop, Rn.trap, Rn.putO]
structure Gd (bf bt : Int) (r : Rn) : Prop where
 ok : r.Ok
 st : r.over = false → r.h.state = 0
 own : r.own = ownB bf bt r.sto
 len : r.m.length ≤ 4096
theorem Gd.put {bf bt : Int} {r : Rn} (g : Gd bf bt r) (k : Int) {x : Int} (hx : W x) : Gd bf bt (r.put k x) := by
 refine ⟨g.ok.put k hx, ?_, ?_, ?_⟩
 ·rw [put_state]
  have : (r.put k x).over = r.over := by unfold Rn.put; split <;> rfl
  rw [this]
  exact g.st
 ·have : (r.put k x).own = r.own ∧ (r.put k x).sto = r.sto := by unfold Rn.put; split <;> exact ⟨rfl, rfl⟩
  rw [this.1, this.2]
  exact g.own
 ·have : (r.put k x).m = r.m := by unfold Rn.put; split <;> rfl
  rw [this]
  exact g.len
theorem Gd.stop {bf bt : Int} {r : Rn} (g : Gd bf bt r) {x : Int} (hx : W x) : Gd bf bt (r.stop x) := ⟨g.ok.stop hx, fun h => (by cases h), g.own, g.len⟩
theorem Gd.trap {bf bt : Int} {r : Rn} (g : Gd bf bt r) (c : Int) : Gd bf bt (r.trap c) := ⟨g.ok.trap c, fun h => (by cases h), g.own, g.len⟩
theorem Gd.hart {bf bt : Int} {r : Rn} (g : Gd bf bt r) {h : Hv} (o : h.Ok) (e : h.state = r.h.state) : Gd bf bt { r with h := h } := ⟨g.ok.hart o, fun q => e.trans (g.st q), g.own, g.len⟩
theorem Gd.stored {bf bt : Int} {r : Rn} (g : Gd bf bt r) {p : Int} {k : Nat} (m : List UInt8) (hm : m.length = r.m.length) (h0 : 0 ≤ p) (h1 : p + k ≤ r.m.length) (hk : k ≤ 4) : Gd bf bt ({ r with m := m }.stored bf bt p k) := by
 have hl := g.len
 refine ⟨(g.ok.mem m).stored _ _ _ _, g.st, ?_, by show m.length ≤ 4096; omega⟩
 show (r.own || hits bf bt p k) = ownB bf bt (r.sto ++ [(p, (k : Int))])
 rw [hits_meet h0 (by omega) hk, g.own]
 unfold ownB
 rw [List.any_append]
 simp
theorem thr_le {l : List UInt8} {n : Nat} {a : Int} (h : thr l.length n a = true) : a + n ≤ l.length := by
 unfold thr at h
 simp only [decide_eq_true_eq] at h
 exact h.2.2
theorem Gd.mOp {bf bt : Int} {r : Rn} (g : Gd bf bt r) (c op : Int) {i : Mv} (hn : W i.n) : Gd bf bt (mOp bf bt r c op i) := by
 have wa := g.ok.get i.a
 have wb := g.ok.get i.b
 have wl := W.lo (r.get i.a + i.n)
 unfold Mi.mOp
 split
 ·split
  ·exact g.stop hn
  ·exact g
 split
 ·unfold mLoad
  split
  ·exact g.put _ (W.ldV _ _ _)
  ·exact g.trap _
 split
 ·unfold mStore
  split
  ·rename_i h
   exact g.stored _ (stL_length h) wl.1 (thr_le h) (ssz_le _)
  ·exact g.trap _
 split
 ·exact g.put _ (W.alu wa wb)
 split
 ·exact g.put _ (W.alu wa hn)
 split
 ·unfold mAtom
  split
  ·unfold mLr
   split
   ·exact (g.hart (g.ok.h.hold true wa.1 wa.2) rfl).put _ (W.ldV _ _ _)
   ·exact g.trap _
  split
  ·unfold mSc
   split
   ·rename_i h
    split
    ·exact ((g.hart (g.ok.h.hold false (x := 0) (by omega) (by omega)) rfl).stored _ (stL_length (st_of_ld h)) wa.1 (thr_le (st_of_ld h)) (ssz_le 18)).put _ .zero
    ·exact (g.hart (g.ok.h.hold false (x := 0) (by omega) (by omega)) rfl).put _ ⟨by omega, by omega⟩
   ·exact g.trap _
  ·unfold mAmo
   split
   ·rename_i h
    exact (g.stored _ (stL_length (st_of_ld h)) wa.1 (thr_le (st_of_ld h)) (ssz_le 18)).put _ (W.ldV _ _ _)
   ·exact g.trap _
 ·exact g
theorem Gd.mic {bf bt steps : Int} {r : Rn} (g : Gd bf bt r) {i : Mv} (hn : W i.n) (ho : r.over = false) : Gd bf bt (mic bf bt steps r i) := by
 have wl := W.lo (r.get i.a + i.n)
 unfold Mi.mic
 split
 ·unfold mAt
  split
  ·exact g.stop hn
  ·exact ⟨⟨g.ok.h, g.ok.tl, g.ok.tb, hn.1, hn.2⟩, g.st, g.own, g.len⟩
 split
 ·exact g.put _ hn
 split
 ·exact g.stop hn
 split
 ·exact g.stop ⟨by have := wl.1; have := wl.2; omega, by have := wl.1; have := wl.2; omega⟩
 split
 ·unfold mCall
  split
  ·exact ⟨g.ok.hart (g.ok.h.halt.go g.ok.h0 g.ok.h1) |> fun o => ⟨o.h, o.tl, o.tb, o.h0, o.h1⟩, fun h => (by cases h), g.own, g.len⟩
  split
  ·exact ⟨⟨g.ok.h, g.ok.tl, g.ok.tb, g.ok.h0, g.ok.h1⟩, g.st, g.own, g.len⟩
  ·exact g.trap _
 split
 ·exact g.trap _
 ·exact g.mOp _ _ hn
theorem Gd.start {bf bt : Int} {h : Hv} {l : List UInt8} (o : h.Ok) (hs : h.state = 0) (hl : l.length ≤ 4096) : Gd bf bt (mstart h l) :=
 ⟨⟨o, rfl, fun j => by match j with | 0 | 1 | 2 | 3 => exact W.zero | j + 4 => exact W.zero, o.pc0, o.pc1⟩, fun _ => hs, rfl, hl⟩
theorem Gd.mrun {bf bt steps : Int} {r : Rn} (g : Gd bf bt r) {code : List Mv} (hn : ∀ i ∈ code, W i.n) : ∀ j, Gd bf bt (mrun bf bt steps r (code.take j))
 | 0 => g
 | j + 1 => by
  have q := Gd.mrun (steps := steps) g hn j
  cases hi : code[j]? with
  | none =>
   have e : code.take (j + 1) = code.take j := by rw [List.take_add_one, hi]; simp
   rw [e]
   exact q
  | some i =>
   cases ho : (Mi.mrun bf bt steps r (code.take j)).over with
   | false =>
    rw [mrun_take bf bt steps hi ho]
    exact q.mic (hn i (List.mem_of_getElem? hi)) ho
   | true =>
    have e : Mi.mrun bf bt steps r (code.take (j + 1)) = Mi.mrun bf bt steps r (code.take j) := by
     rw [List.take_add_one, hi, mrun_append, mrun_over _ _ _ ho]
    rw [e]
    exact q
theorem efR_res {r : Rn} (o : r.Ok) {i : Mv} (hn : W i.n) {x : Int} (h : (efR r i).res = some x) : W x := by
 have wa := o.get i.a
 have wb := o.get i.b
 unfold efR at h
 split at h
 ·injection h with h; rw [← h]; exact hn
 split at h
 ·unfold efLoad at h
  split at h
  ·injection h with h; rw [← h]; exact W.ldV _ _ _
  ·cases h
 split at h
 ·unfold efStore at h
  split at h <;> cases h
 split at h
 ·injection h with h; rw [← h]; exact W.alu wa wb
 split at h
 ·injection h with h; rw [← h]; exact W.alu wa hn
 split at h
 ·unfold efAtom at h
  split at h
  ·unfold efLr at h
   split at h
   ·injection h with h; rw [← h]; exact W.ldV _ _ _
   ·cases h
  split at h
  ·unfold efSc at h
   split at h
   ·split at h
    ·injection h with h; rw [← h]; exact .zero
    ·injection h with h; rw [← h]; exact .one
   ·cases h
  ·unfold efAmo at h
   split at h
   ·injection h with h; rw [← h]; exact W.ldV _ _ _
   ·cases h
 ·cases h
end Go.Proofs.YtchllaeembmioaaGreatDoor.Mi
namespace Go.Proofs.YtchllaeembmioaaGreatDoor.Bk
open Mm Hh

def ftC (l : List UInt8) (pc : Int) : Int := if ldOk l 13 pc = true then (if Dc.dop (ldV l 13 pc) = 0 then 2 else 0) else 1
def lastOp (op : Int) : Bool := decide ((3 ≤ op ∧ op ≤ 10) ∨ op = 58 ∨ op = 59)
def at4 (pc : Int) (k : Nat) : Int := Wd.lo (pc + 4 * k)
def blk (l : List UInt8) (pc : Int) : Nat → Nat → List Int
 | 0, _ => []
 | n + 1, k => if ftC l (at4 pc k) = 0 then ldV l 13 (at4 pc k) :: (if lastOp (Dc.dop (ldV l 13 (at4 pc k))) = true then [] else blk l pc n (k + 1)) else []
theorem at4_bd (pc : Int) (k : Nat) : 0 ≤ at4 pc k ∧ at4 pc k < 4294967296 := by unfold at4 Wd.lo; omega
theorem blk_stop {l : List UInt8} {pc : Int} {n k : Nat} (h : ¬ ftC l (at4 pc k) = 0) : blk l pc (n + 1) k = [] := by unfold blk; rw [if_neg h]
theorem blk_last {l : List UInt8} {pc : Int} {n k : Nat} (h : ftC l (at4 pc k) = 0) (hl : lastOp (Dc.dop (ldV l 13 (at4 pc k))) = true) : blk l pc (n + 1) k = [ldV l 13 (at4 pc k)] := by unfold blk; rw [if_pos h, if_pos hl]
theorem blk_on {l : List UInt8} {pc : Int} {n k : Nat} (h : ftC l (at4 pc k) = 0) (hl : lastOp (Dc.dop (ldV l 13 (at4 pc k))) = false) : blk l pc (n + 1) k = ldV l 13 (at4 pc k) :: blk l pc n (k + 1) := by
 rw [blk, if_pos h, if_neg (by simp [hl])]
theorem blk_zero (l : List UInt8) (pc : Int) (k : Nat) : blk l pc (16 - 16) k = [] := rfl
theorem ldV_no {l : List UInt8} {pc : Int} (h : ldOk l 13 pc = false) : ldV l 13 pc = 0 := by unfold ldV; rw [h]; rfl
theorem dop0 : Dc.dop 0 = 0 := by decide
end Go.Proofs.YtchllaeembmioaaGreatDoor.Bk
