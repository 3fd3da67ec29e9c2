/-
  Mz2, Mw, Pa: texts of ours that lie in one file.
-/
import Derived.Test.YtkcgcflpmggjkabDoorK02
/-
  Rows of small steps, as plain data: cut in two, and how much they make.
-/
namespace Go.Proofs.YtkcgcflpmggjkabDoor.Mi
open Mm Wd Hh
set_option linter.unusedVariables false

theorem mrun_over (bf bt steps : Int) {r : Rn} (h : r.over = true) : ∀ l, mrun bf bt steps r l = r
  | [] => rfl
  | i :: is => by unfold mrun; rw [if_pos h]
theorem mrun_append (bf bt steps : Int) : ∀ (l k : List Mv) (r : Rn), mrun bf bt steps r (l ++ k) = mrun bf bt steps (mrun bf bt steps r l) k
  | [], k, r => rfl
  | i :: is, k, r => by
    by_cases h : r.over = true
    · rw [mrun_over _ _ _ h, mrun_over _ _ _ h, mrun_over _ _ _ h]
    · rw [List.cons_append, mrun, if_neg h, mrun_append bf bt steps is k, mrun, if_neg h]
theorem mrun_take (bf bt steps : Int) {r : Rn} {code : List Mv} {j : Nat} {i : Mv} (hi : code[j]? = some i) (ho : (mrun bf bt steps r (code.take j)).over = false) : mrun bf bt steps r (code.take (j + 1)) = mic bf bt steps (mrun bf bt steps r (code.take j)) i := by
  rw [List.take_add_one, hi, mrun_append]
  show mrun bf bt steps _ [i] = _
  rw [mrun, if_neg (by simp [ho]), mrun]
theorem mrun_done (bf bt steps : Int) {r : Rn} {code : List Mv} {j : Nat} (ho : (mrun bf bt steps r (code.take j)).over = true) : mrun bf bt steps r code = mrun bf bt steps r (code.take j) := by
  have e := mrun_append bf bt steps (code.take j) (code.drop j) r
  rw [List.take_append_drop] at e
  rw [e, mrun_over _ _ _ ho]
/-- A small step makes at most one more of each, and leaves the memory as long as it was. -/
structure Bd (r r' : Rn) : Prop where
  m : r'.m.length = r.m.length
  sto : r'.sto.length ≤ r.sto.length + 1
  out : r'.out.length ≤ r.out.length + 1
  n : r'.n ≤ r.n + 1
theorem Bd.refl (r : Rn) : Bd r r := ⟨rfl, by omega, by omega, by omega⟩
theorem bd_put {r r' : Rn} (h : Bd r r') (k x : Int) : Bd r (r'.put k x) := by
  unfold Rn.put
  split
  · exact ⟨h.m, h.sto, h.out, h.n⟩
  · exact ⟨h.m, h.sto, h.out, h.n⟩
theorem stL_length {l : List UInt8} {op a x : Int} (h : stOk l op a = true) : (stL l op a x).length = l.length := by
  unfold stL
  rw [if_pos h, len_put]
theorem bd_trap (r : Rn) (c : Int) : Bd r (r.trap c) := ⟨rfl, by simp [Rn.trap], by simp [Rn.trap], by simp [Rn.trap]⟩
theorem bd_stop (r : Rn) (c : Int) : Bd r (r.stop c) := ⟨rfl, by simp [Rn.stop], by simp [Rn.stop], by simp [Rn.stop]⟩
theorem bd_stored {r : Rn} {h : Hv} {m : List UInt8} (hm : m.length = r.m.length) (bf bt p : Int) (k : Nat) : Bd r ({ r with h := h, m := m }.stored bf bt p k) := ⟨hm, by simp [Rn.stored], by simp [Rn.stored], by simp [Rn.stored]⟩
theorem bd_hart (r : Rn) (h : Hv) : Bd r { r with h := h } := ⟨rfl, by simp, by simp, by simp⟩
theorem bd_mOp (bf bt : Int) (r : Rn) (c op : Int) (i : Mv) : Bd r (mOp bf bt r c op i) := by
  unfold mOp
  split
  · split
    · exact bd_stop r _
    · exact Bd.refl r
  split
  · unfold mLoad
    split
    · exact bd_put (Bd.refl r) _ _
    · exact bd_trap r _
  split
  · unfold mStore
    split
    · rename_i h
      exact bd_stored (h := r.h) (stL_length h) _ _ _ _
    · exact bd_trap r _
  split
  · exact bd_put (Bd.refl r) _ _
  split
  · exact bd_put (Bd.refl r) _ _
  split
  · unfold mAtom
    split
    · unfold mLr
      split
      · exact bd_put (bd_hart r _) _ _
      · exact bd_trap r _
    split
    · unfold mSc
      split
      · rename_i h
        split
        · exact bd_put (bd_stored (stL_length (st_of_ld h)) _ _ _ _) _ _
        · exact bd_put (bd_hart r _) _ _
      · exact bd_trap r _
    · unfold mAmo
      split
      · rename_i h
        exact bd_put (bd_stored (h := r.h) (stL_length (st_of_ld h)) _ _ _ _) _ _
      · exact bd_trap r _
  · exact Bd.refl r
theorem bd_mic (bf bt steps : Int) (r : Rn) (i : Mv) : Bd r (mic bf bt steps r i) := by
  unfold mic
  split
  · unfold mAt
    split
    · exact bd_stop r _
    · exact ⟨rfl, by simp, by simp, by simp⟩
  split
  · exact bd_put (Bd.refl r) _ _
  split
  · exact bd_stop r _
  split
  · exact bd_stop r _
  split
  · unfold mCall
    split
    · exact ⟨rfl, by simp, by simp, by simp⟩
    split
    · exact ⟨rfl, by simp, by simp, by simp⟩
    · exact bd_trap r _
  split
  · exact bd_trap r _
  · exact bd_mOp bf bt r _ _ i
theorem bd_mrun (bf bt steps : Int) (r : Rn) (code : List Mv) : ∀ j, (mrun bf bt steps r (code.take j)).m.length = r.m.length ∧ (mrun bf bt steps r (code.take j)).sto.length ≤ r.sto.length + j ∧ (mrun bf bt steps r (code.take j)).out.length ≤ r.out.length + j ∧ (mrun bf bt steps r (code.take j)).n ≤ r.n + j
  | 0 => ⟨rfl, by simp [mrun], by simp [mrun], by simp [mrun]⟩
  | j + 1 => by
    obtain ⟨h1, h2, h3, h4⟩ := bd_mrun bf bt steps r code j
    cases hi : code[j]? with
    | none =>
      have e : code.take (j + 1) = code.take j := by rw [List.take_add_one, hi]; simp
      rw [e]
      exact ⟨h1, by omega, by omega, by omega⟩
    | some i =>
      cases ho : (mrun bf bt steps r (code.take j)).over with
      | false =>
        rw [mrun_take bf bt steps hi ho]
        have b := bd_mic bf bt steps (mrun bf bt steps r (code.take j)) i
        have b2 := b.sto
        have b3 := b.out
        have b4 := b.n
        exact ⟨b.m.trans h1, by omega, by omega, by omega⟩
      | true =>
        have e : mrun bf bt steps r (code.take (j + 1)) = mrun bf bt steps r (code.take j) := by
          rw [List.take_add_one, hi, mrun_append, mrun_over _ _ _ ho]
        rw [e]
        exact ⟨h1, by omega, by omega, by omega⟩
theorem micOk_named {i : Mv} (h : micOk i = true) : 0 ≤ named i.op ∧ (0 ≤ i.d ∧ i.d < 36) ∧ (0 ≤ i.a ∧ i.a < 36) ∧ 0 ≤ i.b ∧ i.b < 36 := by
  unfold micOk regOk at h
  simp only [Bool.and_eq_true, decide_eq_true_eq] at h
  obtain ⟨h1, _, ⟨_, h2⟩, ⟨_, h3⟩, ⟨_, h4⟩⟩ := h
  exact ⟨h1, h2, h3, h4⟩
end Go.Proofs.YtkcgcflpmggjkabDoor.Mi
/-
  What the program's runner does of one small step, as plain data ('lvB', 'dos', 'gos'), and that it is what the document asks ('mic').
-/
namespace Go.Proofs.YtkcgcflpmggjkabDoor.Mi
open Mm Wd Hh
set_option linter.unusedVariables false
set_option linter.unusedSimpArgs false

/-- Do stored bytes meet the own ones? As the program asks. -/
def meet (bf bt : Int) (p : Int × Int) : Bool := decide (max p.1 bf < min (lo (p.1 + p.2)) bt)
def ownB (bf bt : Int) (ss : List (Int × Int)) : Bool := ss.any (meet bf bt)
theorem hits_iff (bf bt p : Int) : ∀ k, hits bf bt p k = true ↔ ∃ j : Nat, j < k ∧ bf ≤ lo (p + j) ∧ lo (p + j) < bt
  | 0 => ⟨fun h => (by cases h), fun ⟨j, h, _⟩ => absurd h (by omega)⟩
  | k + 1 => by
    unfold hits
    rw [Bool.or_eq_true, hits_iff bf bt p k, decide_eq_true_iff]
    constructor
    · rintro (⟨j, h, q⟩ | q)
      · exact ⟨j, by omega, q⟩
      · exact ⟨k, by omega, q⟩
    · rintro ⟨j, h, q⟩
      by_cases e : j = k
      · subst e; exact .inr q
      · exact .inl ⟨j, by omega, q⟩
theorem hits_meet {bf bt p : Int} {k : Nat} (h0 : 0 ≤ p) (h1 : p + k < 4294967296) (hk : k ≤ 4) : hits bf bt p k = meet bf bt (p, (k : Int)) := by
  have e : ∀ j : Nat, j ≤ k → lo (p + j) = p + j := fun j h => Int.emod_eq_of_lt (by omega) (by omega)
  rw [Bool.eq_iff_iff, hits_iff]
  unfold meet
  rw [decide_eq_true_iff]
  show _ ↔ max p bf < min (lo (p + k)) bt
  rw [e k (by omega)]
  constructor
  · rintro ⟨j, hj, a, b⟩
    rw [e j (by omega)] at a b
    rw [Int.max_def, Int.min_def]
    split <;> split <;> omega
  · intro h
    rw [Int.max_def, Int.min_def] at h
    by_cases c : p ≤ bf
    · refine ⟨(bf - p).toNat, ?_, ?_⟩
      · split at h <;> split at h <;> omega
      · rw [e _ (by split at h <;> split at h <;> omega)]
        split at h <;> split at h <;> omega
    · refine ⟨0, ?_, ?_⟩
      · split at h <;> split at h <;> omega
      · rw [e _ (by omega)]
        split at h <;> split at h <;> omega
/-- What a small step does, but for D. -/
def efR (r : Rn) (i : Mv) : Ev :=
  if i.op = 2 then ⟨r.h, r.m, [], [], some i.n⟩
  else if 211 ≤ i.op ∧ i.op ≤ 215 then efLoad r.h r.m (i.op - 200) (lo (r.get i.a + i.n))
  else if 316 ≤ i.op ∧ i.op ≤ 318 then efStore r.h r.m (i.op - 300) (lo (r.get i.a + i.n)) (r.get i.b)
  else if 428 ≤ i.op ∧ i.op ≤ 445 then ⟨r.h, r.m, [], [], some (alu (i.op - 400) (r.get i.a) (r.get i.b))⟩
  else if 528 ≤ i.op ∧ i.op ≤ 545 then ⟨r.h, r.m, [], [], some (alu (i.op - 500) (r.get i.a) i.n)⟩
  else if 646 ≤ i.op ∧ i.op ≤ 656 then efAtom r.h r.m (i.op - 600) (r.get i.a) (r.get i.b)
  else ⟨r.h, r.m, [], [], none⟩
def Rn.ev (r : Rn) (e : Ev) : Rn := { r with h := e.h, m := e.m, out := r.out ++ e.out, sto := r.sto ++ e.sto }
def Rn.putO (r : Rn) (d : Int) : Option Int → Rn
  | some x => r.put d x
  | none => r
/-- A small step that does not leave. -/
def dos (r : Rn) (i : Mv) : Rn :=
  if i.op = 1 then { r with n := r.n + 1, here := i.n } else if i.op = 5 then r.ev (efCall r.h r.m) else if i.op = 6 then { r with h := r.h.trap 6 }
  else (r.ev (efR r i)).putO i.d (efR r i).res
def lvP (r : Rn) (i : Mv) : Int := if i.op = 4 then lo (r.get i.a + i.n) - lo (r.get i.a + i.n) % 2 else i.n
def lvB (bf bt steps : Int) (r : Rn) (i : Mv) : Bool :=
  if i.op = 1 then decide ((r.n : Int) = steps) || ownB bf bt r.sto else if i.op = 3 then true else if i.op = 4 then true else holds (i.op - 100) (r.get i.a) (r.get i.b)
def gos (bf bt steps : Int) (r : Rn) (i : Mv) : Rn :=
  if lvB bf bt steps r i = true then r.stop (lvP r i) else if (dos r i).h.state = 0 then dos r i else (dos r i).stop (dos r i).here
theorem put_state (r : Rn) (k x : Int) : (r.put k x).h.state = r.h.state := by
  unfold Rn.put
  split
  · rfl
  · unfold Hv.set
    split <;> rfl
theorem ev_nil (r : Rn) (o : Option Int) : r.ev ⟨r.h, r.m, [], [], o⟩ = r := by simp [Rn.ev]
theorem gos_lv {bf bt steps : Int} {r : Rn} {i : Mv} (h : lvB bf bt steps r i = true) : gos bf bt steps r i = r.stop (lvP r i) := if_pos h
theorem gos_go {bf bt steps : Int} {r : Rn} {i : Mv} (h : lvB bf bt steps r i = false) (q : (dos r i).h.state = 0) : gos bf bt steps r i = dos r i := by
  unfold gos; rw [if_neg (by simp [h]), if_pos q]
theorem gos_end {bf bt steps : Int} {r : Rn} {i : Mv} (h : lvB bf bt steps r i = false) (q : ¬ (dos r i).h.state = 0) : gos bf bt steps r i = (dos r i).stop (dos r i).here := by
  unfold gos; rw [if_neg (by simp [h]), if_neg q]
theorem named_cases {op : Int} (h : 0 ≤ named op) : op = 1 ∨ op = 2 ∨ op = 3 ∨ op = 4 ∨ op = 5 ∨ op = 6 ∨ (105 ≤ op ∧ op ≤ 110) ∨ (211 ≤ op ∧ op ≤ 215) ∨ (316 ≤ op ∧ op ≤ 318) ∨ (428 ≤ op ∧ op ≤ 445) ∨ (528 ≤ op ∧ op ≤ 545) ∨ (646 ≤ op ∧ op ≤ 656) := by
  unfold named at h
  split at h
  · omega
  split at h
  · omega
  split at h
  · omega
  split at h
  · omega
  split at h
  · omega
  split at h
  · omega
  split at h
  · omega
  split at h
  · omega
  split at h
  · omega
  split at h
  · omega
  omega
theorem holds_no {op a b : Int} (h : op < 5 ∨ 10 < op) : holds op a b = false := by
  unfold holds
  rw [if_neg (by omega), if_neg (by omega), if_neg (by omega), if_neg (by omega), if_neg (by omega), if_neg (by omega)]
theorem lvB_no {bf bt steps : Int} {r : Rn} {i : Mv} (h : i.op ≠ 1 ∧ i.op ≠ 3 ∧ i.op ≠ 4 ∧ (i.op < 105 ∨ 110 < i.op)) : lvB bf bt steps r i = false := by
  unfold lvB
  rw [if_neg h.1, if_neg h.2.1, if_neg h.2.2.1, holds_no (by omega)]
theorem dos_ef {r : Rn} {i : Mv} (h : i.op ≠ 1 ∧ i.op ≠ 5 ∧ i.op ≠ 6) : dos r i = (r.ev (efR r i)).putO i.d (efR r i).res := by
  unfold dos
  rw [if_neg h.1, if_neg h.2.1, if_neg h.2.2]
theorem mic_op {bf bt steps : Int} {r : Rn} {i : Mv} {c k : Int} (h : 100 ≤ c) (hk : 0 ≤ k ∧ k < 100) (h2 : i.op = c + k) (h3 : c % 100 = 0) : mic bf bt steps r i = mOp bf bt r c k i := by
  unfold mic
  rw [if_neg (by omega), if_neg (by omega), if_neg (by omega), if_neg (by omega), if_neg (by omega), if_neg (by omega), show i.op - i.op % 100 = c by omega, show i.op % 100 = k by omega]
theorem eq_own {r r' : Rn} (h : r = r') : { r with own := r'.own } = r' := by subst h; rfl
theorem eq_put {r r' : Rn} (d x : Int) {o : Bool} (h : { r with own := r'.own } = r') : { r.put d x with own := (r'.put d x).own } = r'.put d x := by
  have e : r' = { r with own := r'.own } := h.symm
  rw [e]
  unfold Rn.put
  split <;> rfl
theorem gos_mic {bf bt steps : Int} {r : Rn} {i : Mv} (hi : 0 ≤ named i.op) (hs : r.h.state = 0) (hw : r.own = ownB bf bt r.sto) : { gos bf bt steps r i with own := (mic bf bt steps r i).own } = mic bf bt steps r i := by
  rcases named_cases hi with h | h | h | h | h | h | h | h | h | h | h | h
  · have e : mic bf bt steps r i = mAt steps r i.n := by unfold mic; rw [if_pos h]
    have e1 : lvB bf bt steps r i = (decide ((r.n : Int) = steps) || r.own) := by unfold lvB; rw [if_pos h, hw]
    have e2 : lvP r i = i.n := by unfold lvP; rw [if_neg (by omega)]
    have e3 : dos r i = { r with n := r.n + 1, here := i.n } := by unfold dos; rw [if_pos h]
    rw [e]
    refine eq_own ?_
    unfold mAt
    split
    · rename_i q
      rw [gos_lv (by rw [e1]; simpa using q), e2]
    · rename_i q
      have q1 : lvB bf bt steps r i = false := by
        rw [e1]
        simp only [not_or, Bool.not_eq_true] at q
        simp [q.1, q.2]
      rw [gos_go q1 (by rw [e3]; exact hs), e3]
  · have e : mic bf bt steps r i = r.put i.d i.n := by unfold mic; rw [if_neg (by omega), if_pos h]
    have e0 : efR r i = ⟨r.h, r.m, [], [], some i.n⟩ := by unfold efR; rw [if_pos h]
    have e3 : dos r i = r.put i.d i.n := by rw [dos_ef (by omega), e0, ev_nil]; rfl
    rw [e]
    refine eq_own ?_
    rw [gos_go (lvB_no (by omega)) (by rw [e3, put_state]; exact hs), e3]
  · have e : mic bf bt steps r i = r.stop i.n := by unfold mic; rw [if_neg (by omega), if_neg (by omega), if_pos h]
    rw [e]
    refine eq_own ?_
    rw [gos_lv (by unfold lvB; rw [if_neg (by omega), if_pos h])]
    unfold lvP
    rw [if_neg (by omega)]
  · have e : mic bf bt steps r i = r.stop (lo (r.get i.a + i.n) - lo (r.get i.a + i.n) % 2) := by unfold mic; rw [if_neg (by omega), if_neg (by omega), if_neg (by omega), if_pos h]
    rw [e]
    refine eq_own ?_
    rw [gos_lv (by unfold lvB; rw [if_neg (by omega), if_neg (by omega), if_pos h])]
    unfold lvP
    rw [if_pos h]
  · have e : mic bf bt steps r i = mCall r := by unfold mic; rw [if_neg (by omega), if_neg (by omega), if_neg (by omega), if_neg (by omega), if_pos h]
    have e3 : dos r i = r.ev (efCall r.h r.m) := by unfold dos; rw [if_neg (by omega), if_pos h]
    have e1 : lvB bf bt steps r i = false := lvB_no (by omega)
    rw [e]
    refine eq_own ?_
    unfold mCall
    unfold efCall at e3
    split
    · rename_i q
      rw [if_pos q] at e3
      rw [gos_end e1 (by rw [e3]; simp [Rn.ev, Hv.halt]), e3]
      simp [Rn.ev, Rn.stop]
    split
    · rename_i q0 q
      rw [if_neg q0, if_pos q] at e3
      rw [gos_go e1 (by rw [e3]; exact hs), e3]
      simp [Rn.ev]
    · rename_i q0 q
      rw [if_neg q0, if_neg q] at e3
      rw [gos_end e1 (by rw [e3]; simp [Rn.ev, Hv.trap]), e3]
      simp [Rn.ev, Rn.stop, Rn.trap]
  · have e : mic bf bt steps r i = r.trap 6 := by unfold mic; rw [if_neg (by omega), if_neg (by omega), if_neg (by omega), if_neg (by omega), if_neg (by omega), if_pos h]
    have e3 : dos r i = { r with h := r.h.trap 6 } := by unfold dos; rw [if_neg (by omega), if_neg (by omega), if_pos h]
    rw [e]
    refine eq_own ?_
    rw [gos_end (lvB_no (by omega)) (by rw [e3]; simp [Hv.trap]), e3]
    rfl
  · rw [mic_op (c := 100) (k := i.op - 100) (by omega) (by omega) (by omega) (by omega)]
    have e1 : lvB bf bt steps r i = holds (i.op - 100) (r.get i.a) (r.get i.b) := by unfold lvB; rw [if_neg (by omega), if_neg (by omega), if_neg (by omega)]
    have e2 : lvP r i = i.n := by unfold lvP; rw [if_neg (by omega)]
    have e0 : efR r i = ⟨r.h, r.m, [], [], none⟩ := by unfold efR; rw [if_neg (by omega), if_neg (by omega), if_neg (by omega), if_neg (by omega), if_neg (by omega), if_neg (by omega)]
    have e3 : dos r i = r := by rw [dos_ef (by omega), e0, ev_nil]; rfl
    refine eq_own ?_
    unfold mOp
    rw [if_pos rfl]
    split
    · rename_i q
      rw [gos_lv (by rw [e1]; exact q), e2]
    · rename_i q
      rw [gos_go (by rw [e1]; simpa using q) (by rw [e3]; exact hs), e3]
  · rw [mic_op (c := 200) (k := i.op - 200) (by omega) (by omega) (by omega) (by omega)]
    have e1 : lvB bf bt steps r i = false := lvB_no (by omega)
    have e0 : efR r i = efLoad r.h r.m (i.op - 200) (lo (r.get i.a + i.n)) := by unfold efR; rw [if_neg (by omega), if_pos h]
    have e3 : dos r i = (r.ev (efR r i)).putO i.d (efR r i).res := dos_ef (by omega)
    refine eq_own ?_
    unfold mOp
    rw [if_neg (by omega), if_pos rfl]
    unfold mLoad
    unfold efLoad at e0
    split
    · rename_i q
      rw [if_pos q] at e0
      rw [e0, ev_nil] at e3
      rw [gos_go e1 (by rw [e3]; exact (put_state _ _ _).trans hs), e3]
      rfl
    · rename_i q
      rw [if_neg q] at e0
      rw [e0] at e3
      rw [gos_end e1 (by rw [e3]; simp [Rn.ev, Rn.putO, Hv.trap]), e3]
      simp [Rn.ev, Rn.stop, Rn.trap, Rn.putO]
  · rw [mic_op (c := 300) (k := i.op - 300) (by omega) (by omega) (by omega) (by omega)]
    have e1 : lvB bf bt steps r i = false := lvB_no (by omega)
    have e0 : efR r i = efStore r.h r.m (i.op - 300) (lo (r.get i.a + i.n)) (r.get i.b) := by unfold efR; rw [if_neg (by omega), if_neg (by omega), if_pos h]
    have e3 : dos r i = (r.ev (efR r i)).putO i.d (efR r i).res := dos_ef (by omega)
    unfold mOp
    rw [if_neg (by omega), if_neg (by omega), if_pos rfl]
    unfold mStore
    unfold efStore at e0
    split
    · rename_i q
      rw [if_pos q] at e0
      rw [e0] at e3
      rw [gos_go e1 (by rw [e3]; exact hs), e3]
      simp [Rn.ev, Rn.putO, Rn.stored]
    · rename_i q
      refine eq_own ?_
      rw [if_neg q] at e0
      rw [e0] at e3
      rw [gos_end e1 (by rw [e3]; simp [Rn.ev, Rn.putO, Hv.trap]), e3]
      simp [Rn.ev, Rn.stop, Rn.trap, Rn.putO]
  · rw [mic_op (c := 400) (k := i.op - 400) (by omega) (by omega) (by omega) (by omega)]
    have e0 : efR r i = ⟨r.h, r.m, [], [], some (alu (i.op - 400) (r.get i.a) (r.get i.b))⟩ := by unfold efR; rw [if_neg (by omega), if_neg (by omega), if_neg (by omega), if_pos h]
    have e3 : dos r i = r.put i.d (alu (i.op - 400) (r.get i.a) (r.get i.b)) := by rw [dos_ef (by omega), e0, ev_nil]; rfl
    refine eq_own ?_
    unfold mOp
    rw [if_neg (by omega), if_neg (by omega), if_neg (by omega), if_pos rfl]
    rw [gos_go (lvB_no (by omega)) (by rw [e3, put_state]; exact hs), e3]
  · rw [mic_op (c := 500) (k := i.op - 500) (by omega) (by omega) (by omega) (by omega)]
    have e0 : efR r i = ⟨r.h, r.m, [], [], some (alu (i.op - 500) (r.get i.a) i.n)⟩ := by unfold efR; rw [if_neg (by omega), if_neg (by omega), if_neg (by omega), if_neg (by omega), if_pos h]
    have e3 : dos r i = r.put i.d (alu (i.op - 500) (r.get i.a) i.n) := by rw [dos_ef (by omega), e0, ev_nil]; rfl
    refine eq_own ?_
    unfold mOp
    rw [if_neg (by omega), if_neg (by omega), if_neg (by omega), if_neg (by omega), if_pos rfl]
    rw [gos_go (lvB_no (by omega)) (by rw [e3, put_state]; exact hs), e3]
  · rw [mic_op (c := 600) (k := i.op - 600) (by omega) (by omega) (by omega) (by omega)]
    have e1 : lvB bf bt steps r i = false := lvB_no (by omega)
    have e0 : efR r i = efAtom r.h r.m (i.op - 600) (r.get i.a) (r.get i.b) := by unfold efR; rw [if_neg (by omega), if_neg (by omega), if_neg (by omega), if_neg (by omega), if_neg (by omega), if_pos h]
    have e3 : dos r i = (r.ev (efR r i)).putO i.d (efR r i).res := dos_ef (by omega)
    unfold mOp
    rw [if_neg (by omega), if_neg (by omega), if_neg (by omega), if_neg (by omega), if_neg (by omega), if_pos rfl]
    unfold mAtom
    unfold efAtom at e0
    by_cases q6 : i.op - 600 = 46
    · rw [if_pos q6] at e0 ⊢
      refine eq_own ?_
      unfold mLr
      unfold efLr at e0
      split
      · rename_i q
        rw [if_pos q] at e0
        rw [e0] at e3
        have e4 : dos r i = { r with h := r.h.hold true (r.get i.a) }.put i.d (ldV r.m 13 (r.get i.a)) := by rw [e3]; simp [Rn.ev, Rn.putO]
        rw [gos_go e1 (by rw [e4, put_state]; exact hs), e4]
      · rename_i q
        rw [if_neg q] at e0
        rw [e0] at e3
        rw [gos_end e1 (by rw [e3]; simp [Rn.ev, Rn.putO, Hv.trap]), e3]
        simp [Rn.ev, Rn.stop, Rn.trap, Rn.putO]
    rw [if_neg q6] at e0 ⊢
    by_cases q7 : i.op - 600 = 47
    · rw [if_pos q7] at e0 ⊢
      unfold mSc
      unfold efSc at e0
      by_cases q : ldOk r.m 13 (r.get i.a) = true
      · rw [if_pos q] at e0 ⊢
        by_cases q2 : r.h.held = true ∧ r.h.heldAt = r.get i.a
        · rw [if_pos q2] at e0 ⊢
          rw [e0] at e3
          have e4 : dos r i = ({ r with h := r.h.hold false 0, m := stL r.m 18 (r.get i.a) (r.get i.b), sto := r.sto ++ [(r.get i.a, 4)] } : Rn).put i.d 0 := by rw [e3]; simp [Rn.ev, Rn.putO]
          rw [gos_go e1 (by rw [e4, put_state]; exact hs), e4]
          refine eq_put (o := true) _ _ ?_
          rfl
        · rw [if_neg q2] at e0 ⊢
          rw [e0] at e3
          have e4 : dos r i = { r with h := r.h.hold false 0 }.put i.d 1 := by rw [e3]; simp [Rn.ev, Rn.putO]
          refine eq_own ?_
          rw [gos_go e1 (by rw [e4, put_state]; exact hs), e4]
      · rw [if_neg q] at e0 ⊢
        rw [e0] at e3
        refine eq_own ?_
        rw [gos_end e1 (by rw [e3]; simp [Rn.ev, Rn.putO, Hv.trap]), e3]
        simp [Rn.ev, Rn.stop, Rn.trap, Rn.putO]
    rw [if_neg q7] at e0 ⊢
    unfold mAmo
    unfold efAmo at e0
    by_cases q : ldOk r.m 13 (r.get i.a) = true
    · rw [if_pos q] at e0 ⊢
      rw [e0] at e3
      have e4 : dos r i = ({ r with m := stL r.m 18 (r.get i.a) (amo (i.op - 600) (ldV r.m 13 (r.get i.a)) (r.get i.b)), sto := r.sto ++ [(r.get i.a, 4)] } : Rn).put i.d (ldV r.m 13 (r.get i.a)) := by rw [e3]; simp [Rn.ev, Rn.putO]
      rw [gos_go e1 (by rw [e4, put_state]; exact hs), e4]
      refine eq_put (o := true) _ _ ?_
      rfl
    · rw [if_neg q] at e0 ⊢
      rw [e0] at e3
      refine eq_own ?_
      rw [gos_end e1 (by rw [e3]; simp [Rn.ev, Rn.putO, Hv.trap]), e3]
      simp [Rn.ev, Rn.stop, Rn.trap, Rn.putO]
/-- What stays true from small step to small step. -/
structure Gd (bf bt : Int) (r : Rn) : Prop where
  ok : r.Ok
  st : r.over = false → r.h.state = 0
  own : r.own = ownB bf bt r.sto
  len : r.m.length ≤ 4096
theorem Gd.put {bf bt : Int} {r : Rn} (g : Gd bf bt r) (k : Int) {x : Int} (hx : W x) : Gd bf bt (r.put k x) := by
  refine ⟨g.ok.put k hx, ?_, ?_, ?_⟩
  · rw [put_state]
    have : (r.put k x).over = r.over := by unfold Rn.put; split <;> rfl
    rw [this]
    exact g.st
  · have : (r.put k x).own = r.own ∧ (r.put k x).sto = r.sto := by unfold Rn.put; split <;> exact ⟨rfl, rfl⟩
    rw [this.1, this.2]
    exact g.own
  · have : (r.put k x).m = r.m := by unfold Rn.put; split <;> rfl
    rw [this]
    exact g.len
theorem Gd.stop {bf bt : Int} {r : Rn} (g : Gd bf bt r) {x : Int} (hx : W x) : Gd bf bt (r.stop x) := ⟨g.ok.stop hx, fun h => (by cases h), g.own, g.len⟩
theorem Gd.trap {bf bt : Int} {r : Rn} (g : Gd bf bt r) (c : Int) : Gd bf bt (r.trap c) := ⟨g.ok.trap c, fun h => (by cases h), g.own, g.len⟩
theorem Gd.hart {bf bt : Int} {r : Rn} (g : Gd bf bt r) {h : Hv} (o : h.Ok) (e : h.state = r.h.state) : Gd bf bt { r with h := h } := ⟨g.ok.hart o, fun q => e.trans (g.st q), g.own, g.len⟩
theorem Gd.stored {bf bt : Int} {r : Rn} (g : Gd bf bt r) {p : Int} {k : Nat} (m : List UInt8) (hm : m.length = r.m.length) (h0 : 0 ≤ p) (h1 : p + k ≤ r.m.length) (hk : k ≤ 4) : Gd bf bt ({ r with m := m }.stored bf bt p k) := by
  have hl := g.len
  refine ⟨(g.ok.mem m).stored _ _ _ _, g.st, ?_, by show m.length ≤ 4096; omega⟩
  show (r.own || hits bf bt p k) = ownB bf bt (r.sto ++ [(p, (k : Int))])
  rw [hits_meet h0 (by omega) hk, g.own]
  unfold ownB
  rw [List.any_append]
  simp
theorem thr_le {l : List UInt8} {n : Nat} {a : Int} (h : thr l.length n a = true) : a + n ≤ l.length := by
  unfold thr at h
  simp only [decide_eq_true_eq] at h
  exact h.2.2
theorem micOk_n {i : Mv} (h : micOk i = true) : 8 ≤ named i.op ∨ i.n = 0 := by
  unfold micOk at h
  simp only [Bool.and_eq_true, decide_eq_true_eq] at h
  exact h.2.1
theorem Gd.mOp {bf bt : Int} {r : Rn} (g : Gd bf bt r) (c op : Int) {i : Mv} (hn : W i.n) : Gd bf bt (mOp bf bt r c op i) := by
  have wa := g.ok.get i.a
  have wb := g.ok.get i.b
  have wl := W.lo (r.get i.a + i.n)
  unfold Mi.mOp
  split
  · split
    · exact g.stop hn
    · exact g
  split
  · unfold mLoad
    split
    · exact g.put _ (W.ldV _ _ _)
    · exact g.trap _
  split
  · unfold mStore
    split
    · rename_i h
      exact g.stored _ (stL_length h) wl.1 (thr_le h) (ssz_le _)
    · exact g.trap _
  split
  · exact g.put _ (W.alu wa wb)
  split
  · exact g.put _ (W.alu wa hn)
  split
  · unfold mAtom
    split
    · unfold mLr
      split
      · exact (g.hart (g.ok.h.hold true wa.1 wa.2) rfl).put _ (W.ldV _ _ _)
      · exact g.trap _
    split
    · unfold mSc
      split
      · rename_i h
        split
        · exact ((g.hart (g.ok.h.hold false (x := 0) (by omega) (by omega)) rfl).stored _ (stL_length (st_of_ld h)) wa.1 (thr_le (st_of_ld h)) (ssz_le 18)).put _ .zero
        · exact (g.hart (g.ok.h.hold false (x := 0) (by omega) (by omega)) rfl).put _ ⟨by omega, by omega⟩
      · exact g.trap _
    · unfold mAmo
      split
      · rename_i h
        exact (g.stored _ (stL_length (st_of_ld h)) wa.1 (thr_le (st_of_ld h)) (ssz_le 18)).put _ (W.ldV _ _ _)
      · exact g.trap _
  · exact g
theorem Gd.mic {bf bt steps : Int} {r : Rn} (g : Gd bf bt r) {i : Mv} (hn : W i.n) (ho : r.over = false) : Gd bf bt (mic bf bt steps r i) := by
  have wl := W.lo (r.get i.a + i.n)
  unfold Mi.mic
  split
  · unfold mAt
    split
    · exact g.stop hn
    · exact ⟨⟨g.ok.h, g.ok.tl, g.ok.tb, hn.1, hn.2⟩, g.st, g.own, g.len⟩
  split
  · exact g.put _ hn
  split
  · exact g.stop hn
  split
  · exact g.stop ⟨by have := wl.1; have := wl.2; omega, by have := wl.1; have := wl.2; omega⟩
  split
  · unfold mCall
    split
    · exact ⟨g.ok.hart (g.ok.h.halt.go g.ok.h0 g.ok.h1) |> fun o => ⟨o.h, o.tl, o.tb, o.h0, o.h1⟩, fun h => (by cases h), g.own, g.len⟩
    split
    · exact ⟨⟨g.ok.h, g.ok.tl, g.ok.tb, g.ok.h0, g.ok.h1⟩, g.st, g.own, g.len⟩
    · exact g.trap _
  split
  · exact g.trap _
  · exact g.mOp _ _ hn
theorem Gd.start {bf bt : Int} {h : Hv} {l : List UInt8} (o : h.Ok) (hs : h.state = 0) (hl : l.length ≤ 4096) : Gd bf bt (mstart h l) :=
  ⟨⟨o, rfl, fun j => by match j with | 0 | 1 | 2 | 3 => exact W.zero | j + 4 => exact W.zero, o.pc0, o.pc1⟩, fun _ => hs, rfl, hl⟩
theorem Gd.mrun {bf bt steps : Int} {r : Rn} (g : Gd bf bt r) {code : List Mv} (hn : ∀ i ∈ code, W i.n) : ∀ j, Gd bf bt (mrun bf bt steps r (code.take j))
  | 0 => g
  | j + 1 => by
    have q := Gd.mrun (steps := steps) g hn j
    cases hi : code[j]? with
    | none =>
      have e : code.take (j + 1) = code.take j := by rw [List.take_add_one, hi]; simp
      rw [e]
      exact q
    | some i =>
      cases ho : (Mi.mrun bf bt steps r (code.take j)).over with
      | false =>
        rw [mrun_take bf bt steps hi ho]
        exact q.mic (hn i (List.mem_of_getElem? hi)) ho
      | true =>
        have e : Mi.mrun bf bt steps r (code.take (j + 1)) = Mi.mrun bf bt steps r (code.take j) := by
          rw [List.take_add_one, hi, mrun_append, mrun_over _ _ _ ho]
        rw [e]
        exact q
theorem efR_res {r : Rn} (o : r.Ok) {i : Mv} (hn : W i.n) {x : Int} (h : (efR r i).res = some x) : W x := by
  have wa := o.get i.a
  have wb := o.get i.b
  unfold efR at h
  split at h
  · injection h with h; rw [← h]; exact hn
  split at h
  · unfold efLoad at h
    split at h
    · injection h with h; rw [← h]; exact W.ldV _ _ _
    · cases h
  split at h
  · unfold efStore at h
    split at h <;> cases h
  split at h
  · injection h with h; rw [← h]; exact W.alu wa wb
  split at h
  · injection h with h; rw [← h]; exact W.alu wa hn
  split at h
  · unfold efAtom at h
    split at h
    · unfold efLr at h
      split at h
      · injection h with h; rw [← h]; exact W.ldV _ _ _
      · cases h
    split at h
    · unfold efSc at h
      split at h
      · split at h
        · injection h with h; rw [← h]; exact .zero
        · injection h with h; rw [← h]; exact .one
      · cases h
    · unfold efAmo at h
      split at h
      · injection h with h; rw [← h]; exact W.ldV _ _ _
      · cases h
  · cases h
end Go.Proofs.YtkcgcflpmggjkabDoor.Mi
/-
  The program's runner of small steps as cells of memory ('Pr'), and its registers: value, become.
-/
namespace Go.Proofs.YtkcgcflpmggjkabDoor.Mp
open Go.ChangeShapes Go.WideShapes Go.ChangeAt Go.RowKit Mm Hh Hc Mi
set_option linter.unusedVariables false
set_option linter.unusedSimpArgs false

/-- The cells behind the core: the registers above 31, the own bytes, the steps, those that are done, here. -/
def rsR (r : Rn) (bf bt steps : Int) : List Value := r.tm.map (Value.int .u32) ++ [.int .u32 bf, .int .u32 bt, .int .i64 steps, .int .i64 r.n, .int .u32 r.here]
/-- A runner at block g. -/
def Pr (w : World) (base g : Nat) (r : Rn) (bf bt steps : Int) : Prop := Gc.In 88 (rsR r bf bt steps) w base g r.h r.m r.out r.sto
theorem rsR_tm {r : Rn} (o : r.Ok) {bf bt steps : Int} {j : Nat} (hj : j < 4) : (rsR r bf bt steps)[j]? = some (.int .u32 (r.tm.getD j 0)) := by
  have := o.tl
  unfold rsR
  rw [List.getElem?_append_left (by simp; omega), List.getElem?_map, List.getElem?_eq_getElem (by omega)]
  simp [List.getD, List.getElem?_eq_getElem (show j < r.tm.length by omega)]
theorem rsR_fld {r : Rn} (o : r.Ok) {bf bt steps : Int} (j : Nat) : (rsR r bf bt steps)[4 + j]? = [Value.int .u32 bf, .int .u32 bt, .int .i64 steps, .int .i64 r.n, .int .u32 r.here][j]? := by
  unfold rsR
  rw [List.getElem?_append_right (by simp [o.tl])]
  simp [o.tl]
theorem rsR_setTm {r : Rn} (o : r.Ok) {bf bt steps : Int} {j : Nat} (hj : j < 4) (x : Int) : (rsR r bf bt steps).set j (.int .u32 x) = rsR { r with tm := r.tm.set j x } bf bt steps := by
  have := o.tl
  unfold rsR
  rw [List.set_append_left _ _ (by simp; omega), List.map_set]
theorem rsR_setF {r r' : Rn} (o : r.Ok) {bf bt steps : Int} {j : Nat} {v : Value} (et : r'.tm = r.tm) (e : [Value.int .u32 bf, .int .u32 bt, .int .i64 steps, .int .i64 r.n, .int .u32 r.here].set j v = [Value.int .u32 bf, .int .u32 bt, .int .i64 steps, .int .i64 r'.n, .int .u32 r'.here]) : (rsR r bf bt steps).set (4 + j) v = rsR r' bf bt steps := by
  unfold rsR
  rw [List.set_append_right _ _ (by simp [o.tl]), et]
  simp only [List.length_map, o.tl]
  rw [show 4 + j - 4 = j by omega, e]
theorem Pr.of {w w' : World} {base g : Nat} {r : Rn} {bf bt steps : Int} (I : Pr w base g r bf bt steps) (q : Gr w w') : Pr w' base g r bf bt steps := Gc.In.of I q
theorem Pr.temp {w : World} {base g : Nat} {r : Rn} {bf bt steps : Int} (I : Pr w base g r bf bt steps) (o : r.Ok) {j : Nat} (hj : j < 4) : w.cell? ⟨g, 40 + j, none⟩ = some (.int .u32 (r.tm.getD j 0)) := by
  obtain ⟨c, e, I⟩ := I
  exact (I.rest j).trans (rsR_tm o hj)
theorem Pr.fld {w : World} {base g : Nat} {r : Rn} {bf bt steps : Int} (I : Pr w base g r bf bt steps) (o : r.Ok) (j : Nat) : w.cell? ⟨g, 44 + j, none⟩ = [Value.int .u32 bf, .int .u32 bt, .int .i64 steps, .int .i64 r.n, .int .u32 r.here][j]? := by
  obtain ⟨c, e, I⟩ := I
  have := (I.rest (4 + j)).trans (rsR_fld o j)
  rwa [show 40 + (4 + j) = 44 + j by omega] at this
theorem Pr.reg {w : World} {base g : Nat} {r : Rn} {bf bt steps : Int} (I : Pr w base g r bf bt steps) {i : Nat} (hi : i < 32) : w.cell? ⟨g, i, none⟩ = some (.int .u32 (rg r.h i)) := by
  obtain ⟨c, e, I⟩ := I
  rw [← e]
  exact I.reg hi
theorem Pr.hart {w : World} {base g : Nat} {r : Rn} {bf bt steps : Int} (I : Pr w base g r bf bt steps) {j : Nat} (hj : j < 5) : w.cell? ⟨g, 32 + j, none⟩ = [Value.int .u32 r.h.pc, .bool r.h.held, .int .u32 r.h.heldAt, .int .i64 r.h.state, .int .i64 r.h.cause][j]? := by
  obtain ⟨c, e, I⟩ := I
  rw [← e]
  exact (I.hcell (by omega)).trans (hL_fld I.ok j)
theorem Pr.fz {w : World} {base g : Nat} {r : Rn} {bf bt steps : Int} (I : Pr w base g r bf bt steps) (j : Nat) : w.frozen? ⟨g, j, none⟩ = false := by
  obtain ⟨c, e, I⟩ := I
  exact I.fz j
theorem Pr.lt {w : World} {base g : Nat} {r : Rn} {bf bt steps : Int} (I : Pr w base g r bf bt steps) : g < w.heap.size := by
  obtain ⟨c, e, I⟩ := I
  exact I.lt
theorem Pr.base_le {w : World} {base g : Nat} {r : Rn} {bf bt steps : Int} (I : Pr w base g r bf bt steps) : base ≤ w.heap.size := by
  obtain ⟨c, e, I⟩ := I
  exact I.base_le
/-- A register of its own set. -/
theorem Pr.setTm {w : World} {base g : Nat} {r : Rn} {bf bt steps : Int} (I : Pr w base g r bf bt steps) (o : r.Ok) {j : Nat} (hj : j < 4) (x : Int) : Pr (w.setCell ⟨g, 40 + j, none⟩ (.int .u32 x)) base g { r with tm := r.tm.set j x } bf bt steps := by
  obtain ⟨c, e, I⟩ := I
  have := I.setR j (.int .u32 x)
  rw [rsR_setTm o hj] at this
  exact ⟨c, e, this⟩
theorem Pr.setF {w : World} {base g : Nat} {r r' : Rn} {bf bt steps : Int} (I : Pr w base g r bf bt steps) (o : r.Ok) (j : Nat) {v : Value} (eh : r'.h = r.h) (em : r'.m = r.m) (eo : r'.out = r.out) (es : r'.sto = r.sto) (et : r'.tm = r.tm) (e : [Value.int .u32 bf, .int .u32 bt, .int .i64 steps, .int .i64 r.n, .int .u32 r.here].set j v = [Value.int .u32 bf, .int .u32 bt, .int .i64 steps, .int .i64 r'.n, .int .u32 r'.here]) : Pr (w.setCell ⟨g, 44 + j, none⟩ v) base g r' bf bt steps := by
  obtain ⟨c, e0, I⟩ := I
  have := I.setR (4 + j) v
  rw [rsR_setF o et e, show 40 + (4 + j) = 44 + j by omega] at this
  unfold Pr
  rw [eh, em, eo, es]
  exact ⟨c, e0, this⟩
/-- PC set. -/
theorem Pr.setPc {w : World} {base g : Nat} {r : Rn} {bf bt steps : Int} (I : Pr w base g r bf bt steps) {x : Int} (hx : Hh.W x) : Pr (w.setCell ⟨g, 32, none⟩ (.int .u32 x)) base g { r with h := r.h.go x } bf bt steps := by
  obtain ⟨c, e, I⟩ := I
  have := I.set (i := 32) (by omega) (set_pc I.ok x) (I.ok.go hx.1 hx.2)
  exact ⟨_, by rw [← e]; rfl, this⟩
theorem Pr.same {w : World} {base g : Nat} {r r' : Rn} {bf bt steps : Int} (I : Pr w base g r bf bt steps) (o : Bool) (v : Bool) : Pr w base g { r with own := o, over := v } bf bt steps := I

theorem value_any {w : World} {base g : Nat} {r : Rn} {bf bt steps : Int} (I : Pr w base g r bf bt steps) (o : r.Ok) (k : Int) (h0 : 0 ≤ k) (h1 : k < 36) :
    Calls Tryd.prog 91 #[.pointer (some ⟨g, 0, none⟩), .int .i64 k] w fun e w' => e = .returned (.int .u32 (r.get k)) ∧ w' = w := by
  obtain ⟨k, rfl⟩ := Int.eq_ofNat_of_zero_le h0
  by_cases h : k < 32
  · have q := I.reg h
    have e : r.get (k : Int) = rg r.h k := if_pos (by omega)
    rw [e]
    clear e I o
    generalize rg r.h k = x at *
    go_enter Tryd.func91, Tryd.ntmps91
    go_wp2
    go_ret
    exact ⟨rfl, rfl⟩
  · obtain ⟨j, rfl⟩ : ∃ j, k = 32 + j := ⟨k - 32, by omega⟩
    have q := I.temp o (j := j) (by omega)
    have e : r.get ((32 + j : Nat) : Int) = r.tm.getD j 0 := by
      unfold Rn.get
      rw [if_neg (by omega), show (((32 + j : Nat) : Int) - 32).toNat = j by omega]
    rw [e]
    clear e I o
    generalize r.tm.getD j 0 = x at *
    go_enter Tryd.func91, Tryd.ntmps91
    go_wp2
    go_ret
    exact ⟨rfl, rfl⟩
theorem become_any {w : World} {base g : Nat} {r : Rn} {bf bt steps : Int} (I : Pr w base g r bf bt steps) (o : r.Ok) (k x : Int) (h0 : 0 ≤ k) (h1 : k < 36) (hx : Hh.W x) :
    Calls Tryd.prog 95 #[.pointer (some ⟨g, 0, none⟩), .int .i64 k, .int .u32 x] w fun e w' => e = .returned (.tuple #[]) ∧ Pr w' base g (r.put k x) bf bt steps ∧ Ch g w w' := by
  obtain ⟨k, rfl⟩ := Int.eq_ofNat_of_zero_le h0
  by_cases h : k < 32
  · have S : Hid (Calls Tryd.prog 84 #[.pointer (some ⟨g, 0, none⟩), .int .i64 k, .int .u32 x] w fun e w' => e = .returned (.tuple #[]) ∧ Pr w' base g (r.put k x) bf bt steps ∧ Ch g w w') := by
      have e : r.put (k : Int) x = { r with h := r.h.set k x } := by
        unfold Rn.put
        rw [if_neg (by omega), Int.toNat_natCast]
      rw [e]
      have := Gc.set_any I k x h0 (by omega) hx.1 hx.2
      rw [Int.toNat_natCast] at this
      exact this
    clear I o
    go_enter Tryd.func95, Tryd.ntmps95
    go_wp2_with fail
    refine S.out.mono ?_
    rintro e w' ⟨rfl, I2, C2⟩
    have HI2 : Hid (Pr w' base g (r.put k x) bf bt steps) := I2
    clear I2 S
    go_wp2
    refine bodyPost_ret (results_none Tryd.results95 _ _ _) rfl ?_
    exact ⟨rfl, HI2.out, C2⟩
  · obtain ⟨j, rfl⟩ : ∃ j, k = 32 + j := ⟨k - 32, by omega⟩
    have q := I.temp o (j := j) (by omega)
    have f := I.fz (40 + j)
    have e : r.put ((32 + j : Nat) : Int) x = { r with tm := r.tm.set j x } := by
      unfold Rn.put
      rw [if_pos (by omega), show (((32 + j : Nat) : Int) - 32).toNat = j by omega]
    have HJ : Hid (Pr (w.setCell ⟨g, 40 + j, none⟩ (.int .u32 x)) base g (r.put ((32 + j : Nat) : Int) x) bf bt steps) := by
      rw [e]
      exact I.setTm o (by omega) x
    clear e I o
    generalize r.tm.getD j 0 = y at *
    go_enter Tryd.func95, Tryd.ntmps95
    go_wp2
    go_end0
    exact ⟨rfl, HJ.out, (Ch.refl g w).setCell _ _⟩
end Go.Proofs.YtkcgcflpmggjkabDoor.Mp
