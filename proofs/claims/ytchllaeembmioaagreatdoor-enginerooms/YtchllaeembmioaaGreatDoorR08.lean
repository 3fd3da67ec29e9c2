/-
  Mw, Bp, Hz: texts of ours that lie in one file.
-/
import Derived.Test.YtchllaeembmioaaGreatDoorR07
set_option linter.unusedVariables false
set_option linter.unusedSimpArgs false
set_option maxHeartbeats 8000000
set_option maxRecDepth 100000
namespace Go.Proofs.YtchllaeembmioaaGreatDoor.Mi
open Mm Wd Hh

def meet (bf bt : Int) (p : Int × Int) : Bool := decide (max p.1 bf < min (lo (p.1 + p.2)) bt)
def ownB (bf bt : Int) (ss : List (Int × Int)) : Bool := ss.any (meet bf bt)
theorem hits_iff (bf bt p : Int) : ∀ k, hits bf bt p k = true ↔ ∃ j : Nat, j < k ∧ bf ≤ lo (p + j) ∧ lo (p + j) < bt
  | 0 => ⟨fun h => (by cases h), fun ⟨j, h, _⟩ => absurd h (by omega)⟩
  | k + 1 => by
    unfold hits
    rw [Bool.or_eq_true, hits_iff bf bt p k, decide_eq_true_iff]
    constructor
    · rintro (⟨j, h, q⟩ | q)
      · exact ⟨j, by omega, q⟩
      · exact ⟨k, by omega, q⟩
    · rintro ⟨j, h, q⟩
      by_cases e : j = k
      · subst e; exact .inr q
      · exact .inl ⟨j, by omega, q⟩
theorem hits_meet {bf bt p : Int} {k : Nat} (h0 : 0 ≤ p) (h1 : p + k < 4294967296) (hk : k ≤ 4) : hits bf bt p k = meet bf bt (p, (k : Int)) := by
  have e : ∀ j : Nat, j ≤ k → lo (p + j) = p + j := fun j h => Int.emod_eq_of_lt (by omega) (by omega)
  rw [Bool.eq_iff_iff, hits_iff]
  unfold meet
  rw [decide_eq_true_iff]
  show _ ↔ max p bf < min (lo (p + k)) bt
  rw [e k (by omega)]
  constructor
  · rintro ⟨j, hj, a, b⟩
    rw [e j (by omega)] at a b
    rw [Int.max_def, Int.min_def]
    split <;> split <;> omega
  · intro h
    rw [Int.max_def, Int.min_def] at h
    by_cases c : p ≤ bf
    · refine ⟨(bf - p).toNat, ?_, ?_⟩
      · split at h <;> split at h <;> omega
      · rw [e _ (by split at h <;> split at h <;> omega)]
        split at h <;> split at h <;> omega
    · refine ⟨0, ?_, ?_⟩
      · split at h <;> split at h <;> omega
      · rw [e _ (by omega)]
        split at h <;> split at h <;> omega
def efR (r : Rn) (i : Mv) : Ev :=
  if i.op = 2 then ⟨r.h, r.m, [], [], some i.n⟩
  else if 211 ≤ i.op ∧ i.op ≤ 215 then efLoad r.h r.m (i.op - 200) (lo (r.get i.a + i.n))
  else if 316 ≤ i.op ∧ i.op ≤ 318 then efStore r.h r.m (i.op - 300) (lo (r.get i.a + i.n)) (r.get i.b)
  else if 428 ≤ i.op ∧ i.op ≤ 445 then ⟨r.h, r.m, [], [], some (alu (i.op - 400) (r.get i.a) (r.get i.b))⟩
  else if 528 ≤ i.op ∧ i.op ≤ 545 then ⟨r.h, r.m, [], [], some (alu (i.op - 500) (r.get i.a) i.n)⟩
  else if 646 ≤ i.op ∧ i.op ≤ 656 then efAtom r.h r.m (i.op - 600) (r.get i.a) (r.get i.b)
  else ⟨r.h, r.m, [], [], none⟩
def Rn.ev (r : Rn) (e : Ev) : Rn := { r with h := e.h, m := e.m, out := r.out ++ e.out, sto := r.sto ++ e.sto }
def Rn.putO (r : Rn) (d : Int) : Option Int → Rn
  | some x => r.put d x
  | none => r
def dos (r : Rn) (i : Mv) : Rn :=
  if i.op = 1 then { r with n := r.n + 1, here := i.n } else if i.op = 5 then r.ev (efCall r.h r.m) else if i.op = 6 then { r with h := r.h.trap 6 }
  else (r.ev (efR r i)).putO i.d (efR r i).res
def lvP (r : Rn) (i : Mv) : Int := if i.op = 4 then lo (r.get i.a + i.n) - lo (r.get i.a + i.n) % 2 else i.n
def lvB (bf bt steps : Int) (r : Rn) (i : Mv) : Bool :=
  if i.op = 1 then decide ((r.n : Int) = steps) || ownB bf bt r.sto else if i.op = 3 then true else if i.op = 4 then true else holds (i.op - 100) (r.get i.a) (r.get i.b)
def gos (bf bt steps : Int) (r : Rn) (i : Mv) : Rn :=
  if lvB bf bt steps r i = true then r.stop (lvP r i) else if (dos r i).h.state = 0 then dos r i else (dos r i).stop (dos r i).here
theorem put_state (r : Rn) (k x : Int) : (r.put k x).h.state = r.h.state := by
  unfold Rn.put
  split
  · rfl
  · unfold Hv.set
    split <;> rfl
theorem ev_nil (r : Rn) (o : Option Int) : r.ev ⟨r.h, r.m, [], [], o⟩ = r := by simp [Rn.ev]
theorem gos_lv {bf bt steps : Int} {r : Rn} {i : Mv} (h : lvB bf bt steps r i = true) : gos bf bt steps r i = r.stop (lvP r i) := if_pos h
theorem gos_go {bf bt steps : Int} {r : Rn} {i : Mv} (h : lvB bf bt steps r i = false) (q : (dos r i).h.state = 0) : gos bf bt steps r i = dos r i := by
  unfold gos; rw [if_neg (by simp [h]), if_pos q]
theorem gos_end {bf bt steps : Int} {r : Rn} {i : Mv} (h : lvB bf bt steps r i = false) (q : ¬ (dos r i).h.state = 0) : gos bf bt steps r i = (dos r i).stop (dos r i).here := by
  unfold gos; rw [if_neg (by simp [h]), if_neg q]
theorem named_cases {op : Int} (h : 0 ≤ named op) : op = 1 ∨ op = 2 ∨ op = 3 ∨ op = 4 ∨ op = 5 ∨ op = 6 ∨ (105 ≤ op ∧ op ≤ 110) ∨ (211 ≤ op ∧ op ≤ 215) ∨ (316 ≤ op ∧ op ≤ 318) ∨ (428 ≤ op ∧ op ≤ 445) ∨ (528 ≤ op ∧ op ≤ 545) ∨ (646 ≤ op ∧ op ≤ 656) := by
  unfold named at h
  split at h
  · omega
  split at h
  · omega
  split at h
  · omega
  split at h
  · omega
  split at h
  · omega
  split at h
  · omega
  split at h
  · omega
  split at h
  · omega
  split at h
  · omega
  split at h
  · omega
  omega
theorem holds_no {op a b : Int} (h : op < 5 ∨ 10 < op) : holds op a b = false := by
  unfold holds
  rw [if_neg (by omega), if_neg (by omega), if_neg (by omega), if_neg (by omega), if_neg (by omega), if_neg (by omega)]
theorem lvB_no {bf bt steps : Int} {r : Rn} {i : Mv} (h : i.op ≠ 1 ∧ i.op ≠ 3 ∧ i.op ≠ 4 ∧ (i.op < 105 ∨ 110 < i.op)) : lvB bf bt steps r i = false := by
  unfold lvB
  rw [if_neg h.1, if_neg h.2.1, if_neg h.2.2.1, holds_no (by omega)]
theorem dos_ef {r : Rn} {i : Mv} (h : i.op ≠ 1 ∧ i.op ≠ 5 ∧ i.op ≠ 6) : dos r i = (r.ev (efR r i)).putO i.d (efR r i).res := by
  unfold dos
  rw [if_neg h.1, if_neg h.2.1, if_neg h.2.2]
theorem mic_op {bf bt steps : Int} {r : Rn} {i : Mv} {c k : Int} (h : 100 ≤ c) (hk : 0 ≤ k ∧ k < 100) (h2 : i.op = c + k) (h3 : c % 100 = 0) : mic bf bt steps r i = mOp bf bt r c k i := by
  unfold mic
  rw [if_neg (by omega), if_neg (by omega), if_neg (by omega), if_neg (by omega), if_neg (by omega), if_neg (by omega), show i.op - i.op % 100 = c by omega, show i.op % 100 = k by omega]
theorem eq_own {r r' : Rn} (h : r = r') : { r with own := r'.own } = r' := by subst h; rfl
theorem eq_put {r r' : Rn} (d x : Int) {o : Bool} (h : { r with own := r'.own } = r') : { r.put d x with own := (r'.put d x).own } = r'.put d x := by
  have e : r' = { r with own := r'.own } := h.symm
  rw [e]
  unfold Rn.put
  split <;> rfl
theorem gos_mic {bf bt steps : Int} {r : Rn} {i : Mv} (hi : 0 ≤ named i.op) (hs : r.h.state = 0) (hw : r.own = ownB bf bt r.sto) : { gos bf bt steps r i with own := (mic bf bt steps r i).own } = mic bf bt steps r i := by
  rcases named_cases hi with h | h | h | h | h | h | h | h | h | h | h | h
  · have e : mic bf bt steps r i = mAt steps r i.n := by unfold mic; rw [if_pos h]
    have e1 : lvB bf bt steps r i = (decide ((r.n : Int) = steps) || r.own) := by unfold lvB; rw [if_pos h, hw]
    have e2 : lvP r i = i.n := by unfold lvP; rw [if_neg (by omega)]
    have e3 : dos r i = { r with n := r.n + 1, here := i.n } := by unfold dos; rw [if_pos h]
    rw [e]
    refine eq_own ?_
    unfold mAt
    split
    · rename_i q
      rw [gos_lv (by rw [e1]; simpa using q), e2]
    · rename_i q
      have q1 : lvB bf bt steps r i = false := by
        rw [e1]
        simp only [not_or, Bool.not_eq_true] at q
        simp [q.1, q.2]
      rw [gos_go q1 (by rw [e3]; exact hs), e3]
  · have e : mic bf bt steps r i = r.put i.d i.n := by unfold mic; rw [if_neg (by omega), if_pos h]
    have e0 : efR r i = ⟨r.h, r.m, [], [], some i.n⟩ := by unfold efR; rw [if_pos h]
    have e3 : dos r i = r.put i.d i.n := by rw [dos_ef (by omega), e0, ev_nil]; rfl
    rw [e]
    refine eq_own ?_
    rw [gos_go (lvB_no (by omega)) (by rw [e3, put_state]; exact hs), e3]
  · have e : mic bf bt steps r i = r.stop i.n := by unfold mic; rw [if_neg (by omega), if_neg (by omega), if_pos h]
    rw [e]
    refine eq_own ?_
    rw [gos_lv (by unfold lvB; rw [if_neg (by omega), if_pos h])]
    unfold lvP
    rw [if_neg (by omega)]
  · have e : mic bf bt steps r i = r.stop (lo (r.get i.a + i.n) - lo (r.get i.a + i.n) % 2) := by unfold mic; rw [if_neg (by omega), if_neg (by omega), if_neg (by omega), if_pos h]
    rw [e]
    refine eq_own ?_
    rw [gos_lv (by unfold lvB; rw [if_neg (by omega), if_neg (by omega), if_pos h])]
    unfold lvP
    rw [if_pos h]
  · have e : mic bf bt steps r i = mCall r := by unfold mic; rw [if_neg (by omega), if_neg (by omega), if_neg (by omega), if_neg (by omega), if_pos h]
    have e3 : dos r i = r.ev (efCall r.h r.m) := by unfold dos; rw [if_neg (by omega), if_pos h]
    have e1 : lvB bf bt steps r i = false := lvB_no (by omega)
    rw [e]
    refine eq_own ?_
    unfold mCall
    unfold efCall at e3
    split
    · rename_i q
      rw [if_pos q] at e3
      rw [gos_end e1 (by rw [e3]; simp [Rn.ev, Hv.halt]), e3]
      simp [Rn.ev, Rn.stop]
    split
    · rename_i q0 q
      rw [if_neg q0, if_pos q] at e3
      rw [gos_go e1 (by rw [e3]; exact hs), e3]
      simp [Rn.ev]
    · rename_i q0 q
      rw [if_neg q0, if_neg q] at e3
      rw [gos_end e1 (by rw [e3]; simp [Rn.ev, Hv.trap]), e3]
      simp [Rn.ev, Rn.stop, Rn.trap]
  · have e : mic bf bt steps r i = r.trap 6 := by unfold mic; rw [if_neg (by omega), if_neg (by omega), if_neg (by omega), if_neg (by omega), if_neg (by omega), if_pos h]
    have e3 : dos r i = { r with h := r.h.trap 6 } := by unfold dos; rw [if_neg (by omega), if_neg (by omega), if_pos h]
    rw [e]
    refine eq_own ?_
    rw [gos_end (lvB_no (by omega)) (by rw [e3]; simp [Hv.trap]), e3]
    rfl
  · rw [mic_op (c := 100) (k := i.op - 100) (by omega) (by omega) (by omega) (by omega)]
    have e1 : lvB bf bt steps r i = holds (i.op - 100) (r.get i.a) (r.get i.b) := by unfold lvB; rw [if_neg (by omega), if_neg (by omega), if_neg (by omega)]
    have e2 : lvP r i = i.n := by unfold lvP; rw [if_neg (by omega)]
    have e0 : efR r i = ⟨r.h, r.m, [], [], none⟩ := by unfold efR; rw [if_neg (by omega), if_neg (by omega), if_neg (by omega), if_neg (by omega), if_neg (by omega), if_neg (by omega)]
    have e3 : dos r i = r := by rw [dos_ef (by omega), e0, ev_nil]; rfl
    refine eq_own ?_
    unfold mOp
    rw [if_pos rfl]
    split
    · rename_i q
      rw [gos_lv (by rw [e1]; exact q), e2]
    · rename_i q
      rw [gos_go (by rw [e1]; simpa using q) (by rw [e3]; exact hs), e3]
  · rw [mic_op (c := 200) (k := i.op - 200) (by omega) (by omega) (by omega) (by omega)]
    have e1 : lvB bf bt steps r i = false := lvB_no (by omega)
    have e0 : efR r i = efLoad r.h r.m (i.op - 200) (lo (r.get i.a + i.n)) := by unfold efR; rw [if_neg (by omega), if_pos h]
    have e3 : dos r i = (r.ev (efR r i)).putO i.d (efR r i).res := dos_ef (by omega)
    refine eq_own ?_
    unfold mOp
    rw [if_neg (by omega), if_pos rfl]
    unfold mLoad
    unfold efLoad at e0
    split
    · rename_i q
      rw [if_pos q] at e0
      rw [e0, ev_nil] at e3
      rw [gos_go e1 (by rw [e3]; exact (put_state _ _ _).trans hs), e3]
      rfl
    · rename_i q
      rw [if_neg q] at e0
      rw [e0] at e3
      rw [gos_end e1 (by rw [e3]; simp [Rn.ev, Rn.putO, Hv.trap]), e3]
      simp [Rn.ev, Rn.stop, Rn.trap, Rn.putO]
  · rw [mic_op (c := 300) (k := i.op - 300) (by omega) (by omega) (by omega) (by omega)]
    have e1 : lvB bf bt steps r i = false := lvB_no (by omega)
    have e0 : efR r i = efStore r.h r.m (i.op - 300) (lo (r.get i.a + i.n)) (r.get i.b) := by unfold efR; rw [if_neg (by omega), if_neg (by omega), if_pos h]
    have e3 : dos r i = (r.ev (efR r i)).putO i.d (efR r i).res := dos_ef (by omega)
    unfold mOp
    rw [if_neg (by omega), if_neg (by omega), if_pos rfl]
    unfold mStore
    unfold efStore at e0
    split
    · rename_i q
      rw [if_pos q] at e0
      rw [e0] at e3
      rw [gos_go e1 (by rw [e3]; exact hs), e3]
      simp [Rn.ev, Rn.putO, Rn.stored]
    · rename_i q
      refine eq_own ?_
      rw [if_neg q] at e0
      rw [e0] at e3
      rw [gos_end e1 (by rw [e3]; simp [Rn.ev, Rn.putO, Hv.trap]), e3]
      simp [Rn.ev, Rn.stop, Rn.trap, Rn.putO]
  · rw [mic_op (c := 400) (k := i.op - 400) (by omega) (by omega) (by omega) (by omega)]
    have e0 : efR r i = ⟨r.h, r.m, [], [], some (alu (i.op - 400) (r.get i.a) (r.get i.b))⟩ := by unfold efR; rw [if_neg (by omega), if_neg (by omega), if_neg (by omega), if_pos h]
    have e3 : dos r i = r.put i.d (alu (i.op - 400) (r.get i.a) (r.get i.b)) := by rw [dos_ef (by omega), e0, ev_nil]; rfl
    refine eq_own ?_
    unfold mOp
    rw [if_neg (by omega), if_neg (by omega), if_neg (by omega), if_pos rfl]
    rw [gos_go (lvB_no (by omega)) (by rw [e3, put_state]; exact hs), e3]
  · rw [mic_op (c := 500) (k := i.op - 500) (by omega) (by omega) (by omega) (by omega)]
    have e0 : efR r i = ⟨r.h, r.m, [], [], some (alu (i.op - 500) (r.get i.a) i.n)⟩ := by unfold efR; rw [if_neg (by omega), if_neg (by omega), if_neg (by omega), if_neg (by omega), if_pos h]
    have e3 : dos r i = r.put i.d (alu (i.op - 500) (r.get i.a) i.n) := by rw [dos_ef (by omega), e0, ev_nil]; rfl
    refine eq_own ?_
    unfold mOp
    rw [if_neg (by omega), if_neg (by omega), if_neg (by omega), if_neg (by omega), if_pos rfl]
    rw [gos_go (lvB_no (by omega)) (by rw [e3, put_state]; exact hs), e3]
  · rw [mic_op (c := 600) (k := i.op - 600) (by omega) (by omega) (by omega) (by omega)]
    have e1 : lvB bf bt steps r i = false := lvB_no (by omega)
    have e0 : efR r i = efAtom r.h r.m (i.op - 600) (r.get i.a) (r.get i.b) := by unfold efR; rw [if_neg (by omega), if_neg (by omega), if_neg (by omega), if_neg (by omega), if_neg (by omega), if_pos h]
    have e3 : dos r i = (r.ev (efR r i)).putO i.d (efR r i).res := dos_ef (by omega)
    unfold mOp
    rw [if_neg (by omega), if_neg (by omega), if_neg (by omega), if_neg (by omega), if_neg (by omega), if_pos rfl]
    unfold mAtom
    unfold efAtom at e0
    by_cases q6 : i.op - 600 = 46
    · rw [if_pos q6] at e0 ⊢
      refine eq_own ?_
      unfold mLr
      unfold efLr at e0
      split
      · rename_i q
        rw [if_pos q] at e0
        rw [e0] at e3
        have e4 : dos r i = { r with h := r.h.hold true (r.get i.a) }.put i.d (ldV r.m 13 (r.get i.a)) := by rw [e3]; simp [Rn.ev, Rn.putO]
        rw [gos_go e1 (by rw [e4, put_state]; exact hs), e4]
      · rename_i q
        rw [if_neg q] at e0
        rw [e0] at e3
        rw [gos_end e1 (by rw [e3]; simp [Rn.ev, Rn.putO, Hv.trap]), e3]
        simp [Rn.ev, Rn.stop, Rn.trap, Rn.putO]
    rw [if_neg q6] at e0 ⊢
    by_cases q7 : i.op - 600 = 47
    · rw [if_pos q7] at e0 ⊢
      unfold mSc
      unfold efSc at e0
      by_cases q : ldOk r.m 13 (r.get i.a) = true
      · rw [if_pos q] at e0 ⊢
        by_cases q2 : r.h.held = true ∧ r.h.heldAt = r.get i.a
        · rw [if_pos q2] at e0 ⊢
          rw [e0] at e3
          have e4 : dos r i = ({ r with h := r.h.hold false 0, m := stL r.m 18 (r.get i.a) (r.get i.b), sto := r.sto ++ [(r.get i.a, 4)] } : Rn).put i.d 0 := by rw [e3]; simp [Rn.ev, Rn.putO]
          rw [gos_go e1 (by rw [e4, put_state]; exact hs), e4]
          refine eq_put (o := true) _ _ ?_
          rfl
        · rw [if_neg q2] at e0 ⊢
          rw [e0] at e3
          have e4 : dos r i = { r with h := r.h.hold false 0 }.put i.d 1 := by rw [e3]; simp [Rn.ev, Rn.putO]
          refine eq_own ?_
          rw [gos_go e1 (by rw [e4, put_state]; exact hs), e4]
      · rw [if_neg q] at e0 ⊢
        rw [e0] at e3
        refine eq_own ?_
        rw [gos_end e1 (by rw [e3]; simp [Rn.ev, Rn.putO, Hv.trap]), e3]
        simp [Rn.ev, Rn.stop, Rn.trap, Rn.putO]
    rw [if_neg q7] at e0 ⊢
    unfold mAmo
    unfold efAmo at e0
    by_cases q : ldOk r.m 13 (r.get i.a) = true
    · rw [if_pos q] at e0 ⊢
      rw [e0] at e3
      have e4 : dos r i = ({ r with m := stL r.m 18 (r.get i.a) (amo (i.op - 600) (ldV r.m 13 (r.get i.a)) (r.get i.b)), sto := r.sto ++ [(r.get i.a, 4)] } : Rn).put i.d (ldV r.m 13 (r.get i.a)) := by rw [e3]; simp [Rn.ev, Rn.putO]
      rw [gos_go e1 (by rw [e4, put_state]; exact hs), e4]
      refine eq_put (o := true) _ _ ?_
      rfl
    · rw [if_neg q] at e0 ⊢
      rw [e0] at e3
      refine eq_own ?_
      rw [gos_end e1 (by rw [e3]; simp [Rn.ev, Rn.putO, Hv.trap]), e3]
      simp [Rn.ev, Rn.stop, Rn.trap, Rn.putO]
structure Gd (bf bt : Int) (r : Rn) : Prop where
  ok : r.Ok
  st : r.over = false → r.h.state = 0
  own : r.own = ownB bf bt r.sto
  len : r.m.length ≤ 4096
theorem Gd.put {bf bt : Int} {r : Rn} (g : Gd bf bt r) (k : Int) {x : Int} (hx : W x) : Gd bf bt (r.put k x) := by
  refine ⟨g.ok.put k hx, ?_, ?_, ?_⟩
  · rw [put_state]
    have : (r.put k x).over = r.over := by unfold Rn.put; split <;> rfl
    rw [this]
    exact g.st
  · have : (r.put k x).own = r.own ∧ (r.put k x).sto = r.sto := by unfold Rn.put; split <;> exact ⟨rfl, rfl⟩
    rw [this.1, this.2]
    exact g.own
  · have : (r.put k x).m = r.m := by unfold Rn.put; split <;> rfl
    rw [this]
    exact g.len
theorem Gd.stop {bf bt : Int} {r : Rn} (g : Gd bf bt r) {x : Int} (hx : W x) : Gd bf bt (r.stop x) := ⟨g.ok.stop hx, fun h => (by cases h), g.own, g.len⟩
theorem Gd.trap {bf bt : Int} {r : Rn} (g : Gd bf bt r) (c : Int) : Gd bf bt (r.trap c) := ⟨g.ok.trap c, fun h => (by cases h), g.own, g.len⟩
theorem Gd.hart {bf bt : Int} {r : Rn} (g : Gd bf bt r) {h : Hv} (o : h.Ok) (e : h.state = r.h.state) : Gd bf bt { r with h := h } := ⟨g.ok.hart o, fun q => e.trans (g.st q), g.own, g.len⟩
theorem Gd.stored {bf bt : Int} {r : Rn} (g : Gd bf bt r) {p : Int} {k : Nat} (m : List UInt8) (hm : m.length = r.m.length) (h0 : 0 ≤ p) (h1 : p + k ≤ r.m.length) (hk : k ≤ 4) : Gd bf bt ({ r with m := m }.stored bf bt p k) := by
  have hl := g.len
  refine ⟨(g.ok.mem m).stored _ _ _ _, g.st, ?_, by show m.length ≤ 4096; omega⟩
  show (r.own || hits bf bt p k) = ownB bf bt (r.sto ++ [(p, (k : Int))])
  rw [hits_meet h0 (by omega) hk, g.own]
  unfold ownB
  rw [List.any_append]
  simp
theorem thr_le {l : List UInt8} {n : Nat} {a : Int} (h : thr l.length n a = true) : a + n ≤ l.length := by
  unfold thr at h
  simp only [decide_eq_true_eq] at h
  exact h.2.2
theorem Gd.mOp {bf bt : Int} {r : Rn} (g : Gd bf bt r) (c op : Int) {i : Mv} (hn : W i.n) : Gd bf bt (mOp bf bt r c op i) := by
  have wa := g.ok.get i.a
  have wb := g.ok.get i.b
  have wl := W.lo (r.get i.a + i.n)
  unfold Mi.mOp
  split
  · split
    · exact g.stop hn
    · exact g
  split
  · unfold mLoad
    split
    · exact g.put _ (W.ldV _ _ _)
    · exact g.trap _
  split
  · unfold mStore
    split
    · rename_i h
      exact g.stored _ (stL_length h) wl.1 (thr_le h) (ssz_le _)
    · exact g.trap _
  split
  · exact g.put _ (W.alu wa wb)
  split
  · exact g.put _ (W.alu wa hn)
  split
  · unfold mAtom
    split
    · unfold mLr
      split
      · exact (g.hart (g.ok.h.hold true wa.1 wa.2) rfl).put _ (W.ldV _ _ _)
      · exact g.trap _
    split
    · unfold mSc
      split
      · rename_i h
        split
        · exact ((g.hart (g.ok.h.hold false (x := 0) (by omega) (by omega)) rfl).stored _ (stL_length (st_of_ld h)) wa.1 (thr_le (st_of_ld h)) (ssz_le 18)).put _ .zero
        · exact (g.hart (g.ok.h.hold false (x := 0) (by omega) (by omega)) rfl).put _ ⟨by omega, by omega⟩
      · exact g.trap _
    · unfold mAmo
      split
      · rename_i h
        exact (g.stored _ (stL_length (st_of_ld h)) wa.1 (thr_le (st_of_ld h)) (ssz_le 18)).put _ (W.ldV _ _ _)
      · exact g.trap _
  · exact g
theorem Gd.mic {bf bt steps : Int} {r : Rn} (g : Gd bf bt r) {i : Mv} (hn : W i.n) (ho : r.over = false) : Gd bf bt (mic bf bt steps r i) := by
  have wl := W.lo (r.get i.a + i.n)
  unfold Mi.mic
  split
  · unfold mAt
    split
    · exact g.stop hn
    · exact ⟨⟨g.ok.h, g.ok.tl, g.ok.tb, hn.1, hn.2⟩, g.st, g.own, g.len⟩
  split
  · exact g.put _ hn
  split
  · exact g.stop hn
  split
  · exact g.stop ⟨by have := wl.1; have := wl.2; omega, by have := wl.1; have := wl.2; omega⟩
  split
  · unfold mCall
    split
    · exact ⟨g.ok.hart (g.ok.h.halt.go g.ok.h0 g.ok.h1) |> fun o => ⟨o.h, o.tl, o.tb, o.h0, o.h1⟩, fun h => (by cases h), g.own, g.len⟩
    split
    · exact ⟨⟨g.ok.h, g.ok.tl, g.ok.tb, g.ok.h0, g.ok.h1⟩, g.st, g.own, g.len⟩
    · exact g.trap _
  split
  · exact g.trap _
  · exact g.mOp _ _ hn
theorem Gd.start {bf bt : Int} {h : Hv} {l : List UInt8} (o : h.Ok) (hs : h.state = 0) (hl : l.length ≤ 4096) : Gd bf bt (mstart h l) :=
  ⟨⟨o, rfl, fun j => by match j with | 0 | 1 | 2 | 3 => exact W.zero | j + 4 => exact W.zero, o.pc0, o.pc1⟩, fun _ => hs, rfl, hl⟩
theorem Gd.mrun {bf bt steps : Int} {r : Rn} (g : Gd bf bt r) {code : List Mv} (hn : ∀ i ∈ code, W i.n) : ∀ j, Gd bf bt (mrun bf bt steps r (code.take j))
  | 0 => g
  | j + 1 => by
    have q := Gd.mrun (steps := steps) g hn j
    cases hi : code[j]? with
    | none =>
      have e : code.take (j + 1) = code.take j := by rw [List.take_add_one, hi]; simp
      rw [e]
      exact q
    | some i =>
      cases ho : (Mi.mrun bf bt steps r (code.take j)).over with
      | false =>
        rw [mrun_take bf bt steps hi ho]
        exact q.mic (hn i (List.mem_of_getElem? hi)) ho
      | true =>
        have e : Mi.mrun bf bt steps r (code.take (j + 1)) = Mi.mrun bf bt steps r (code.take j) := by
          rw [List.take_add_one, hi, mrun_append, mrun_over _ _ _ ho]
        rw [e]
        exact q
theorem efR_res {r : Rn} (o : r.Ok) {i : Mv} (hn : W i.n) {x : Int} (h : (efR r i).res = some x) : W x := by
  have wa := o.get i.a
  have wb := o.get i.b
  unfold efR at h
  split at h
  · injection h with h; rw [← h]; exact hn
  split at h
  · unfold efLoad at h
    split at h
    · injection h with h; rw [← h]; exact W.ldV _ _ _
    · cases h
  split at h
  · unfold efStore at h
    split at h <;> cases h
  split at h
  · injection h with h; rw [← h]; exact W.alu wa wb
  split at h
  · injection h with h; rw [← h]; exact W.alu wa hn
  split at h
  · unfold efAtom at h
    split at h
    · unfold efLr at h
      split at h
      · injection h with h; rw [← h]; exact W.ldV _ _ _
      · cases h
    split at h
    · unfold efSc at h
      split at h
      · split at h
        · injection h with h; rw [← h]; exact .zero
        · injection h with h; rw [← h]; exact .one
      · cases h
    · unfold efAmo at h
      split at h
      · injection h with h; rw [← h]; exact W.ldV _ _ _
      · cases h
  · cases h
end Go.Proofs.YtchllaeembmioaaGreatDoor.Mi
namespace Go.Proofs.YtchllaeembmioaaGreatDoor.Bk
open Mm Hh

def ftC (l : List UInt8) (pc : Int) : Int := if ldOk l 13 pc = true then (if Dc.dop (ldV l 13 pc) = 0 then 2 else 0) else 1
def lastOp (op : Int) : Bool := decide ((3 ≤ op ∧ op ≤ 10) ∨ op = 58 ∨ op = 59)
def at4 (pc : Int) (k : Nat) : Int := Wd.lo (pc + 4 * k)
def blk (l : List UInt8) (pc : Int) : Nat → Nat → List Int
  | 0, _ => []
  | n + 1, k => if ftC l (at4 pc k) = 0 then ldV l 13 (at4 pc k) :: (if lastOp (Dc.dop (ldV l 13 (at4 pc k))) = true then [] else blk l pc n (k + 1)) else []
theorem at4_bd (pc : Int) (k : Nat) : 0 ≤ at4 pc k ∧ at4 pc k < 4294967296 := by unfold at4 Wd.lo; omega
theorem blk_stop {l : List UInt8} {pc : Int} {n k : Nat} (h : ¬ ftC l (at4 pc k) = 0) : blk l pc (n + 1) k = [] := by unfold blk; rw [if_neg h]
theorem blk_last {l : List UInt8} {pc : Int} {n k : Nat} (h : ftC l (at4 pc k) = 0) (hl : lastOp (Dc.dop (ldV l 13 (at4 pc k))) = true) : blk l pc (n + 1) k = [ldV l 13 (at4 pc k)] := by unfold blk; rw [if_pos h, if_pos hl]
theorem blk_on {l : List UInt8} {pc : Int} {n k : Nat} (h : ftC l (at4 pc k) = 0) (hl : lastOp (Dc.dop (ldV l 13 (at4 pc k))) = false) : blk l pc (n + 1) k = ldV l 13 (at4 pc k) :: blk l pc n (k + 1) := by
  rw [blk, if_pos h, if_neg (by simp [hl])]
theorem blk_zero (l : List UInt8) (pc : Int) (k : Nat) : blk l pc (16 - 16) k = [] := rfl
theorem ldV_no {l : List UInt8} {pc : Int} (h : ldOk l 13 pc = false) : ldV l 13 pc = 0 := by unfold ldV; rw [h]; rfl
theorem dop0 : Dc.dop 0 = 0 := by decide
end Go.Proofs.YtchllaeembmioaaGreatDoor.Bk
namespace Go.Proofs.YtchllaeembmioaaGreatDoor.Hh
open Mm Wd

structure Rn (h : Hv) : Prop where
  z : rg h 0 = 0
  hd : h.held = false → h.heldAt = 0
  st : h.state = 0
  cs : h.cause = 0
theorem rn_of {h : Hv} (m : may h = true) (s : h.state = 0) : Rn h := by
  simp only [may, decide_eq_true_eq] at m
  obtain ⟨a, b, c⟩ := m
  exact ⟨a, b, s, by omega⟩
def Good (h : Hv) (l : List UInt8) (s : Sv) : Prop := may s.h = true ∧ s.m.length = l.length ∧ rg s.h 0 = 0 ∧ s.out.length ≤ 1 ∧ (s.h.state ≠ 0 → { s.h with state := h.state, cause := h.cause } = h ∧ s.m = l ∧ s.out = [])
theorem may_run {h : Hv} (z : rg h 0 = 0) (hd : h.held = false → h.heldAt = 0) (s : h.state = 0) (c : h.cause = 0) : may h = true := by
  simp only [may, decide_eq_true_eq]; exact ⟨z, hd, .inl ⟨.inl s, c⟩⟩
theorem good_run {h h' : Hv} {l m : List UInt8} {out : List Int} {sto : List (Int × Int)} (z : rg h' 0 = 0) (hd : h'.held = false → h'.heldAt = 0) (s : h'.state = 0) (c : h'.cause = 0) (hm : m.length = l.length) (ho : out.length ≤ 1) : Good h l ⟨h', m, out, sto⟩ :=
  ⟨may_run z hd s c, hm, z, ho, fun h => absurd s h⟩
theorem good_trap {h : Hv} (r : Rn h) (l : List UInt8) {c : Int} (c0 : 1 ≤ c) (c1 : c ≤ 6) : Good h l ⟨h.trap c, l, [], []⟩ := by
  refine ⟨?_, rfl, r.z, by simp, fun _ => ⟨?_, rfl, rfl⟩⟩
  · simp only [may, decide_eq_true_eq]; exact ⟨r.z, r.hd, .inr ⟨rfl, c0, c1⟩⟩
  · cases h; rfl
theorem good_halt {h : Hv} (r : Rn h) (l : List UInt8) : Good h l ⟨h.halt, l, [], []⟩ := by
  refine ⟨?_, rfl, r.z, by simp, fun _ => ⟨?_, rfl, rfl⟩⟩
  · simp only [may, decide_eq_true_eq]; exact ⟨r.z, r.hd, .inl ⟨.inr rfl, r.cs⟩⟩
  · cases h; rfl
theorem rg0_set {h : Hv} (z : rg h 0 = 0) (r : Nat) (x : Int) : rg (h.set r x) 0 = 0 := by
  unfold Hv.set; split
  · exact z
  · rw [rg_set, if_neg (by omega)]; exact z
theorem set_flds (h : Hv) (r : Nat) (x : Int) : (h.set r x).held = h.held ∧ (h.set r x).heldAt = h.heldAt ∧ (h.set r x).state = h.state ∧ (h.set r x).cause = h.cause := by
  unfold Hv.set; split <;> exact ⟨rfl, rfl, rfl, rfl⟩
theorem good_done {h h' : Hv} {l m : List UInt8} {out : List Int} {sto : List (Int × Int)} (r : Rn h') (res : Option Int) (rd : Nat) (nx : Int) (hm : m.length = l.length) (ho : out.length ≤ 1) : Good h l (done ⟨h', m, out, sto, res⟩ rd nx) := by
  unfold done Hv.put
  cases res with
  | none =>
    simp only
    unfold Hv.on
    rw [if_pos r.st]
    exact good_run r.z r.hd r.st r.cs hm ho
  | some x =>
    obtain ⟨f1, f2, f3, f4⟩ := set_flds h' rd x
    simp only
    unfold Hv.on
    rw [if_pos (f3.trans r.st)]
    exact good_run (h' := (h'.set rd x).go nx) (rg0_set r.z rd x) (by show (h'.set rd x).held = false → (h'.set rd x).heldAt = 0; rw [f1, f2]; exact r.hd) (f3.trans r.st) (f4.trans r.cs) hm ho
theorem good_stop {h : Hv} (r : Rn h) (l : List UInt8) {c : Int} (c0 : 1 ≤ c) (c1 : c ≤ 6) (rd : Nat) (nx : Int) : Good h l (done ⟨h.trap c, l, [], [], none⟩ rd nx) := by
  unfold done Hv.put Hv.on
  simp only
  rw [if_neg (by show ¬ (2 : Int) = 0; omega)]
  exact good_trap r l c0 c1
theorem rn_hold {h : Hv} (r : Rn h) (a : Int) : Rn (h.hold true a) := ⟨r.z, fun e => (by cases e), r.st, r.cs⟩
theorem rn_loose {h : Hv} (r : Rn h) : Rn (h.hold false 0) := ⟨r.z, fun _ => rfl, r.st, r.cs⟩
theorem good_ins {h : Hv} (r : Rn h) (l : List UInt8) (op rd r1 r2 im : Int) : Good h l (ins h l op rd r1 r2 im) := by
  unfold ins eff
  split
  · exact good_done r _ _ _ rfl (by simp)
  split
  · exact good_done r _ _ _ rfl (by simp)
  split
  · exact good_done r _ _ _ rfl (by simp)
  split
  · unfold efLoad; split
    · exact good_done r _ _ _ rfl (by simp)
    · exact good_stop r l (by omega) (by omega) _ _
  split
  · unfold efStore; split
    · exact good_done r _ _ _ (stL_len' (by assumption)) (by simp)
    · exact good_stop r l (by omega) (by omega) _ _
  split
  · exact good_done r _ _ _ rfl (by simp)
  split
  · exact good_done r _ _ _ rfl (by simp)
  split
  · unfold efAtom; split
    · unfold efLr; split
      · exact good_done (rn_hold r _) _ _ _ rfl (by simp)
      · exact good_stop r l (by omega) (by omega) _ _
    · split
      · unfold efSc; split
        · split
          · exact good_done (rn_loose r) _ _ _ (stL_len' (st_of_ld (by assumption))) (by simp)
          · exact good_done (rn_loose r) _ _ _ rfl (by simp)
        · exact good_stop r l (by omega) (by omega) _ _
      · unfold efAmo; split
        · exact good_done r _ _ _ (stL_len' (st_of_ld (by assumption))) (by simp)
        · exact good_stop r l (by omega) (by omega) _ _
  split
  · unfold efCall; split
    · unfold done Hv.put Hv.on
      simp only
      rw [if_neg (by show ¬ (1 : Int) = 0; omega)]
      exact good_halt r l
    · split
      · exact good_done r _ _ _ rfl (by simp)
      · exact good_stop r l (by omega) (by omega) _ _
  split
  · exact good_stop r l (by omega) (by omega) _ _
  · exact good_done r _ _ _ rfl (by simp)
theorem good_stp {h : Hv} (r : Rn h) (l : List UInt8) : Good h l (stp h l) := by
  unfold stp insW
  split
  · split
    · exact good_trap r l (by omega) (by omega)
    · exact good_ins r l _ _ _ _ _
  · exact good_trap r l (by omega) (by omega)
theorem done_ok {e : Ev} {l : List UInt8} (o : e.Ok l) (rd : Nat) {nx : Int} (w : W nx) : (done e rd nx).h.Ok := on_ok (put_ok o.h rd o.res) w
theorem stp_ok {h : Hv} (o : h.Ok) (l : List UInt8) : (stp h l).h.Ok := by
  unfold stp insW ins
  split
  · split
    · exact o.trap 2
    · exact done_ok (eff_ok o l (W.reg o _) (W.reg o _) (W.lo _)) _ .nxt
  · exact o.trap 1
end Go.Proofs.YtchllaeembmioaaGreatDoor.Hh
