/-
  Mz2, Mw, Tp: texts of ours that lie in one file.
-/
import Derived.Test.YtbihifipemldhabDoorK01
import Derived.Test.YtbihifipemldhabDoorBp
import Derived.Test.YtbihifipemldhabDoorHz
/-
  Rows of small steps, as plain data: cut in two, and how much they make.
-/
namespace Go.Proofs.YtbihifipemldhabDoor.Mi
open Mm Wd Hh
set_option linter.unusedVariables false

theorem mrun_over (bf bt steps : Int) {r : Rn} (h : r.over = true) : ∀ l, mrun bf bt steps r l = r
  | [] => rfl
  | i :: is => by unfold mrun; rw [if_pos h]
theorem mrun_append (bf bt steps : Int) : ∀ (l k : List Mv) (r : Rn), mrun bf bt steps r (l ++ k) = mrun bf bt steps (mrun bf bt steps r l) k
  | [], k, r => rfl
  | i :: is, k, r => by
    by_cases h : r.over = true
    · rw [mrun_over _ _ _ h, mrun_over _ _ _ h, mrun_over _ _ _ h]
    · rw [List.cons_append, mrun, if_neg h, mrun_append bf bt steps is k, mrun, if_neg h]
theorem mrun_take (bf bt steps : Int) {r : Rn} {code : List Mv} {j : Nat} {i : Mv} (hi : code[j]? = some i) (ho : (mrun bf bt steps r (code.take j)).over = false) : mrun bf bt steps r (code.take (j + 1)) = mic bf bt steps (mrun bf bt steps r (code.take j)) i := by
  rw [List.take_add_one, hi, mrun_append]
  show mrun bf bt steps _ [i] = _
  rw [mrun, if_neg (by simp [ho]), mrun]
theorem mrun_done (bf bt steps : Int) {r : Rn} {code : List Mv} {j : Nat} (ho : (mrun bf bt steps r (code.take j)).over = true) : mrun bf bt steps r code = mrun bf bt steps r (code.take j) := by
  have e := mrun_append bf bt steps (code.take j) (code.drop j) r
  rw [List.take_append_drop] at e
  rw [e, mrun_over _ _ _ ho]
/-- A small step makes at most one more of each, and leaves the memory as long as it was. -/
structure Bd (r r' : Rn) : Prop where
  m : r'.m.length = r.m.length
  sto : r'.sto.length ≤ r.sto.length + 1
  out : r'.out.length ≤ r.out.length + 1
  n : r'.n ≤ r.n + 1
theorem Bd.refl (r : Rn) : Bd r r := ⟨rfl, by omega, by omega, by omega⟩
theorem bd_put {r r' : Rn} (h : Bd r r') (k x : Int) : Bd r (r'.put k x) := by
  unfold Rn.put
  split
  · exact ⟨h.m, h.sto, h.out, h.n⟩
  · exact ⟨h.m, h.sto, h.out, h.n⟩
theorem stL_length {l : List UInt8} {op a x : Int} (h : stOk l op a = true) : (stL l op a x).length = l.length := by
  unfold stL
  rw [if_pos h, len_put]
theorem bd_trap (r : Rn) (c : Int) : Bd r (r.trap c) := ⟨rfl, by simp [Rn.trap], by simp [Rn.trap], by simp [Rn.trap]⟩
theorem bd_stop (r : Rn) (c : Int) : Bd r (r.stop c) := ⟨rfl, by simp [Rn.stop], by simp [Rn.stop], by simp [Rn.stop]⟩
theorem bd_stored {r : Rn} {h : Hv} {m : List UInt8} (hm : m.length = r.m.length) (bf bt p : Int) (k : Nat) : Bd r ({ r with h := h, m := m }.stored bf bt p k) := ⟨hm, by simp [Rn.stored], by simp [Rn.stored], by simp [Rn.stored]⟩
theorem bd_hart (r : Rn) (h : Hv) : Bd r { r with h := h } := ⟨rfl, by simp, by simp, by simp⟩
theorem bd_mOp (bf bt : Int) (r : Rn) (c op : Int) (i : Mv) : Bd r (mOp bf bt r c op i) := by
  unfold mOp
  split
  · split
    · exact bd_stop r _
    · exact Bd.refl r
  split
  · unfold mLoad
    split
    · exact bd_put (Bd.refl r) _ _
    · exact bd_trap r _
  split
  · unfold mStore
    split
    · rename_i h
      exact bd_stored (h := r.h) (stL_length h) _ _ _ _
    · exact bd_trap r _
  split
  · exact bd_put (Bd.refl r) _ _
  split
  · exact bd_put (Bd.refl r) _ _
  split
  · unfold mAtom
    split
    · unfold mLr
      split
      · exact bd_put (bd_hart r _) _ _
      · exact bd_trap r _
    split
    · unfold mSc
      split
      · rename_i h
        split
        · exact bd_put (bd_stored (stL_length (st_of_ld h)) _ _ _ _) _ _
        · exact bd_put (bd_hart r _) _ _
      · exact bd_trap r _
    · unfold mAmo
      split
      · rename_i h
        exact bd_put (bd_stored (h := r.h) (stL_length (st_of_ld h)) _ _ _ _) _ _
      · exact bd_trap r _
  · exact Bd.refl r
theorem bd_mic (bf bt steps : Int) (r : Rn) (i : Mv) : Bd r (mic bf bt steps r i) := by
  unfold mic
  split
  · unfold mAt
    split
    · exact bd_stop r _
    · exact ⟨rfl, by simp, by simp, by simp⟩
  split
  · exact bd_put (Bd.refl r) _ _
  split
  · exact bd_stop r _
  split
  · exact bd_stop r _
  split
  · unfold mCall
    split
    · exact ⟨rfl, by simp, by simp, by simp⟩
    split
    · exact ⟨rfl, by simp, by simp, by simp⟩
    · exact bd_trap r _
  split
  · exact bd_trap r _
  · exact bd_mOp bf bt r _ _ i
theorem bd_mrun (bf bt steps : Int) (r : Rn) (code : List Mv) : ∀ j, (mrun bf bt steps r (code.take j)).m.length = r.m.length ∧ (mrun bf bt steps r (code.take j)).sto.length ≤ r.sto.length + j ∧ (mrun bf bt steps r (code.take j)).out.length ≤ r.out.length + j ∧ (mrun bf bt steps r (code.take j)).n ≤ r.n + j
  | 0 => ⟨rfl, by simp [mrun], by simp [mrun], by simp [mrun]⟩
  | j + 1 => by
    obtain ⟨h1, h2, h3, h4⟩ := bd_mrun bf bt steps r code j
    cases hi : code[j]? with
    | none =>
      have e : code.take (j + 1) = code.take j := by rw [List.take_add_one, hi]; simp
      rw [e]
      exact ⟨h1, by omega, by omega, by omega⟩
    | some i =>
      cases ho : (mrun bf bt steps r (code.take j)).over with
      | false =>
        rw [mrun_take bf bt steps hi ho]
        have b := bd_mic bf bt steps (mrun bf bt steps r (code.take j)) i
        have b2 := b.sto
        have b3 := b.out
        have b4 := b.n
        exact ⟨b.m.trans h1, by omega, by omega, by omega⟩
      | true =>
        have e : mrun bf bt steps r (code.take (j + 1)) = mrun bf bt steps r (code.take j) := by
          rw [List.take_add_one, hi, mrun_append, mrun_over _ _ _ ho]
        rw [e]
        exact ⟨h1, by omega, by omega, by omega⟩
theorem micOk_named {i : Mv} (h : micOk i = true) : 0 ≤ named i.op ∧ (0 ≤ i.d ∧ i.d < 36) ∧ (0 ≤ i.a ∧ i.a < 36) ∧ 0 ≤ i.b ∧ i.b < 36 := by
  unfold micOk regOk at h
  simp only [Bool.and_eq_true, decide_eq_true_eq] at h
  obtain ⟨h1, _, ⟨_, h2⟩, ⟨_, h3⟩, ⟨_, h4⟩⟩ := h
  exact ⟨h1, h2, h3, h4⟩
end Go.Proofs.YtbihifipemldhabDoor.Mi
/-
  What the program's runner does of one small step, as plain data ('lvB', 'dos', 'gos'), and that it is what the document asks ('mic').
-/
namespace Go.Proofs.YtbihifipemldhabDoor.Mi
open Mm Wd Hh
set_option linter.unusedVariables false
set_option linter.unusedSimpArgs false

/-- Do stored bytes meet the own ones? As the program asks. -/
def meet (bf bt : Int) (p : Int × Int) : Bool := decide (max p.1 bf < min (lo (p.1 + p.2)) bt)
def ownB (bf bt : Int) (ss : List (Int × Int)) : Bool := ss.any (meet bf bt)
theorem hits_iff (bf bt p : Int) : ∀ k, hits bf bt p k = true ↔ ∃ j : Nat, j < k ∧ bf ≤ lo (p + j) ∧ lo (p + j) < bt
  | 0 => ⟨fun h => (by cases h), fun ⟨j, h, _⟩ => absurd h (by omega)⟩
  | k + 1 => by
    unfold hits
    rw [Bool.or_eq_true, hits_iff bf bt p k, decide_eq_true_iff]
    constructor
    · rintro (⟨j, h, q⟩ | q)
      · exact ⟨j, by omega, q⟩
      · exact ⟨k, by omega, q⟩
    · rintro ⟨j, h, q⟩
      by_cases e : j = k
      · subst e; exact .inr q
      · exact .inl ⟨j, by omega, q⟩
theorem hits_meet {bf bt p : Int} {k : Nat} (h0 : 0 ≤ p) (h1 : p + k < 4294967296) (hk : k ≤ 4) : hits bf bt p k = meet bf bt (p, (k : Int)) := by
  have e : ∀ j : Nat, j ≤ k → lo (p + j) = p + j := fun j h => Int.emod_eq_of_lt (by omega) (by omega)
  rw [Bool.eq_iff_iff, hits_iff]
  unfold meet
  rw [decide_eq_true_iff]
  show _ ↔ max p bf < min (lo (p + k)) bt
  rw [e k (by omega)]
  constructor
  · rintro ⟨j, hj, a, b⟩
    rw [e j (by omega)] at a b
    rw [Int.max_def, Int.min_def]
    split <;> split <;> omega
  · intro h
    rw [Int.max_def, Int.min_def] at h
    by_cases c : p ≤ bf
    · refine ⟨(bf - p).toNat, ?_, ?_⟩
      · split at h <;> split at h <;> omega
      · rw [e _ (by split at h <;> split at h <;> omega)]
        split at h <;> split at h <;> omega
    · refine ⟨0, ?_, ?_⟩
      · split at h <;> split at h <;> omega
      · rw [e _ (by omega)]
        split at h <;> split at h <;> omega
/-- What a small step does, but for D. -/
def efR (r : Rn) (i : Mv) : Ev :=
  if i.op = 2 then ⟨r.h, r.m, [], [], some i.n⟩
  else if 211 ≤ i.op ∧ i.op ≤ 215 then efLoad r.h r.m (i.op - 200) (lo (r.get i.a + i.n))
  else if 316 ≤ i.op ∧ i.op ≤ 318 then efStore r.h r.m (i.op - 300) (lo (r.get i.a + i.n)) (r.get i.b)
  else if 428 ≤ i.op ∧ i.op ≤ 445 then ⟨r.h, r.m, [], [], some (alu (i.op - 400) (r.get i.a) (r.get i.b))⟩
  else if 528 ≤ i.op ∧ i.op ≤ 545 then ⟨r.h, r.m, [], [], some (alu (i.op - 500) (r.get i.a) i.n)⟩
  else if 646 ≤ i.op ∧ i.op ≤ 656 then efAtom r.h r.m (i.op - 600) (r.get i.a) (r.get i.b)
  else ⟨r.h, r.m, [], [], none⟩
def Rn.ev (r : Rn) (e : Ev) : Rn := { r with h := e.h, m := e.m, out := r.out ++ e.out, sto := r.sto ++ e.sto }
def Rn.putO (r : Rn) (d : Int) : Option Int → Rn
  | some x => r.put d x
  | none => r
/-- A small step that does not leave. -/
def dos (r : Rn) (i : Mv) : Rn :=
  if i.op = 1 then { r with n := r.n + 1, here := i.n } else if i.op = 5 then r.ev (efCall r.h r.m) else if i.op = 6 then { r with h := r.h.trap 6 }
  else (r.ev (efR r i)).putO i.d (efR r i).res
def lvP (r : Rn) (i : Mv) : Int := if i.op = 4 then lo (r.get i.a + i.n) - lo (r.get i.a + i.n) % 2 else i.n
def lvB (bf bt steps : Int) (r : Rn) (i : Mv) : Bool :=
  if i.op = 1 then decide ((r.n : Int) = steps) || ownB bf bt r.sto else if i.op = 3 then true else if i.op = 4 then true else holds (i.op - 100) (r.get i.a) (r.get i.b)
def gos (bf bt steps : Int) (r : Rn) (i : Mv) : Rn :=
  if lvB bf bt steps r i = true then r.stop (lvP r i) else if (dos r i).h.state = 0 then dos r i else (dos r i).stop (dos r i).here
theorem put_state (r : Rn) (k x : Int) : (r.put k x).h.state = r.h.state := by
  unfold Rn.put
  split
  · rfl
  · unfold Hv.set
    split <;> rfl
theorem ev_nil (r : Rn) (o : Option Int) : r.ev ⟨r.h, r.m, [], [], o⟩ = r := by simp [Rn.ev]
theorem gos_lv {bf bt steps : Int} {r : Rn} {i : Mv} (h : lvB bf bt steps r i = true) : gos bf bt steps r i = r.stop (lvP r i) := if_pos h
theorem gos_go {bf bt steps : Int} {r : Rn} {i : Mv} (h : lvB bf bt steps r i = false) (q : (dos r i).h.state = 0) : gos bf bt steps r i = dos r i := by
  unfold gos; rw [if_neg (by simp [h]), if_pos q]
theorem gos_end {bf bt steps : Int} {r : Rn} {i : Mv} (h : lvB bf bt steps r i = false) (q : ¬ (dos r i).h.state = 0) : gos bf bt steps r i = (dos r i).stop (dos r i).here := by
  unfold gos; rw [if_neg (by simp [h]), if_neg q]
theorem named_cases {op : Int} (h : 0 ≤ named op) : op = 1 ∨ op = 2 ∨ op = 3 ∨ op = 4 ∨ op = 5 ∨ op = 6 ∨ (105 ≤ op ∧ op ≤ 110) ∨ (211 ≤ op ∧ op ≤ 215) ∨ (316 ≤ op ∧ op ≤ 318) ∨ (428 ≤ op ∧ op ≤ 445) ∨ (528 ≤ op ∧ op ≤ 545) ∨ (646 ≤ op ∧ op ≤ 656) := by
  unfold named at h
  split at h
  · omega
  split at h
  · omega
  split at h
  · omega
  split at h
  · omega
  split at h
  · omega
  split at h
  · omega
  split at h
  · omega
  split at h
  · omega
  split at h
  · omega
  split at h
  · omega
  omega
theorem holds_no {op a b : Int} (h : op < 5 ∨ 10 < op) : holds op a b = false := by
  unfold holds
  rw [if_neg (by omega), if_neg (by omega), if_neg (by omega), if_neg (by omega), if_neg (by omega), if_neg (by omega)]
theorem lvB_no {bf bt steps : Int} {r : Rn} {i : Mv} (h : i.op ≠ 1 ∧ i.op ≠ 3 ∧ i.op ≠ 4 ∧ (i.op < 105 ∨ 110 < i.op)) : lvB bf bt steps r i = false := by
  unfold lvB
  rw [if_neg h.1, if_neg h.2.1, if_neg h.2.2.1, holds_no (by omega)]
theorem dos_ef {r : Rn} {i : Mv} (h : i.op ≠ 1 ∧ i.op ≠ 5 ∧ i.op ≠ 6) : dos r i = (r.ev (efR r i)).putO i.d (efR r i).res := by
  unfold dos
  rw [if_neg h.1, if_neg h.2.1, if_neg h.2.2]
theorem mic_op {bf bt steps : Int} {r : Rn} {i : Mv} {c k : Int} (h : 100 ≤ c) (hk : 0 ≤ k ∧ k < 100) (h2 : i.op = c + k) (h3 : c % 100 = 0) : mic bf bt steps r i = mOp bf bt r c k i := by
  unfold mic
  rw [if_neg (by omega), if_neg (by omega), if_neg (by omega), if_neg (by omega), if_neg (by omega), if_neg (by omega), show i.op - i.op % 100 = c by omega, show i.op % 100 = k by omega]
theorem eq_own {r r' : Rn} (h : r = r') : { r with own := r'.own } = r' := by subst h; rfl
theorem eq_put {r r' : Rn} (d x : Int) {o : Bool} (h : { r with own := r'.own } = r') : { r.put d x with own := (r'.put d x).own } = r'.put d x := by
  have e : r' = { r with own := r'.own } := h.symm
  rw [e]
  unfold Rn.put
  split <;> rfl
theorem gos_mic {bf bt steps : Int} {r : Rn} {i : Mv} (hi : 0 ≤ named i.op) (hs : r.h.state = 0) (hw : r.own = ownB bf bt r.sto) : { gos bf bt steps r i with own := (mic bf bt steps r i).own } = mic bf bt steps r i := by
  rcases named_cases hi with h | h | h | h | h | h | h | h | h | h | h | h
  · have e : mic bf bt steps r i = mAt steps r i.n := by unfold mic; rw [if_pos h]
    have e1 : lvB bf bt steps r i = (decide ((r.n : Int) = steps) || r.own) := by unfold lvB; rw [if_pos h, hw]
    have e2 : lvP r i = i.n := by unfold lvP; rw [if_neg (by omega)]
    have e3 : dos r i = { r with n := r.n + 1, here := i.n } := by unfold dos; rw [if_pos h]
    rw [e]
    refine eq_own ?_
    unfold mAt
    split
    · rename_i q
      rw [gos_lv (by rw [e1]; simpa using q), e2]
    · rename_i q
      have q1 : lvB bf bt steps r i = false := by
        rw [e1]
        simp only [not_or, Bool.not_eq_true] at q
        simp [q.1, q.2]
      rw [gos_go q1 (by rw [e3]; exact hs), e3]
  · have e : mic bf bt steps r i = r.put i.d i.n := by unfold mic; rw [if_neg (by omega), if_pos h]
    have e0 : efR r i = ⟨r.h, r.m, [], [], some i.n⟩ := by unfold efR; rw [if_pos h]
    have e3 : dos r i = r.put i.d i.n := by rw [dos_ef (by omega), e0, ev_nil]; rfl
    rw [e]
    refine eq_own ?_
    rw [gos_go (lvB_no (by omega)) (by rw [e3, put_state]; exact hs), e3]
  · have e : mic bf bt steps r i = r.stop i.n := by unfold mic; rw [if_neg (by omega), if_neg (by omega), if_pos h]
    rw [e]
    refine eq_own ?_
    rw [gos_lv (by unfold lvB; rw [if_neg (by omega), if_pos h])]
    unfold lvP
    rw [if_neg (by omega)]
  · have e : mic bf bt steps r i = r.stop (lo (r.get i.a + i.n) - lo (r.get i.a + i.n) % 2) := by unfold mic; rw [if_neg (by omega), if_neg (by omega), if_neg (by omega), if_pos h]
    rw [e]
    refine eq_own ?_
    rw [gos_lv (by unfold lvB; rw [if_neg (by omega), if_neg (by omega), if_pos h])]
    unfold lvP
    rw [if_pos h]
  · have e : mic bf bt steps r i = mCall r := by unfold mic; rw [if_neg (by omega), if_neg (by omega), if_neg (by omega), if_neg (by omega), if_pos h]
    have e3 : dos r i = r.ev (efCall r.h r.m) := by unfold dos; rw [if_neg (by omega), if_pos h]
    have e1 : lvB bf bt steps r i = false := lvB_no (by omega)
    rw [e]
    refine eq_own ?_
    unfold mCall
    unfold efCall at e3
    split
    · rename_i q
      rw [if_pos q] at e3
      rw [gos_end e1 (by rw [e3]; simp [Rn.ev, Hv.halt]), e3]
      simp [Rn.ev, Rn.stop]
    split
    · rename_i q0 q
      rw [if_neg q0, if_pos q] at e3
      rw [gos_go e1 (by rw [e3]; exact hs), e3]
      simp [Rn.ev]
    · rename_i q0 q
      rw [if_neg q0, if_neg q] at e3
      rw [gos_end e1 (by rw [e3]; simp [Rn.ev, Hv.trap]), e3]
      simp [Rn.ev, Rn.stop, Rn.trap]
  · have e : mic bf bt steps r i = r.trap 6 := by unfold mic; rw [if_neg (by omega), if_neg (by omega), if_neg (by omega), if_neg (by omega), if_neg (by omega), if_pos h]
    have e3 : dos r i = { r with h := r.h.trap 6 } := by unfold dos; rw [if_neg (by omega), if_neg (by omega), if_pos h]
    rw [e]
    refine eq_own ?_
    rw [gos_end (lvB_no (by omega)) (by rw [e3]; simp [Hv.trap]), e3]
    rfl
  · rw [mic_op (c := 100) (k := i.op - 100) (by omega) (by omega) (by omega) (by omega)]
    have e1 : lvB bf bt steps r i = holds (i.op - 100) (r.get i.a) (r.get i.b) := by unfold lvB; rw [if_neg (by omega), if_neg (by omega), if_neg (by omega)]
    have e2 : lvP r i = i.n := by unfold lvP; rw [if_neg (by omega)]
    have e0 : efR r i = ⟨r.h, r.m, [], [], none⟩ := by unfold efR; rw [if_neg (by omega), if_neg (by omega), if_neg (by omega), if_neg (by omega), if_neg (by omega), if_neg (by omega)]
    have e3 : dos r i = r := by rw [dos_ef (by omega), e0, ev_nil]; rfl
    refine eq_own ?_
    unfold mOp
    rw [if_pos rfl]
    split
    · rename_i q
      rw [gos_lv (by rw [e1]; exact q), e2]
    · rename_i q
      rw [gos_go (by rw [e1]; simpa using q) (by rw [e3]; exact hs), e3]
  · rw [mic_op (c := 200) (k := i.op - 200) (by omega) (by omega) (by omega) (by omega)]
    have e1 : lvB bf bt steps r i = false := lvB_no (by omega)
    have e0 : efR r i = efLoad r.h r.m (i.op - 200) (lo (r.get i.a + i.n)) := by unfold efR; rw [if_neg (by omega), if_pos h]
    have e3 : dos r i = (r.ev (efR r i)).putO i.d (efR r i).res := dos_ef (by omega)
    refine eq_own ?_
    unfold mOp
    rw [if_neg (by omega), if_pos rfl]
    unfold mLoad
    unfold efLoad at e0
    split
    · rename_i q
      rw [if_pos q] at e0
      rw [e0, ev_nil] at e3
      rw [gos_go e1 (by rw [e3]; exact (put_state _ _ _).trans hs), e3]
      rfl
    · rename_i q
      rw [if_neg q] at e0
      rw [e0] at e3
      rw [gos_end e1 (by rw [e3]; simp [Rn.ev, Rn.putO, Hv.trap]), e3]
      simp [Rn.ev, Rn.stop, Rn.trap, Rn.putO]
  · rw [mic_op (c := 300) (k := i.op - 300) (by omega) (by omega) (by omega) (by omega)]
    have e1 : lvB bf bt steps r i = false := lvB_no (by omega)
    have e0 : efR r i = efStore r.h r.m (i.op - 300) (lo (r.get i.a + i.n)) (r.get i.b) := by unfold efR; rw [if_neg (by omega), if_neg (by omega), if_pos h]
    have e3 : dos r i = (r.ev (efR r i)).putO i.d (efR r i).res := dos_ef (by omega)
    unfold mOp
    rw [if_neg (by omega), if_neg (by omega), if_pos rfl]
    unfold mStore
    unfold efStore at e0
    split
    · rename_i q
      rw [if_pos q] at e0
      rw [e0] at e3
      rw [gos_go e1 (by rw [e3]; exact hs), e3]
      simp [Rn.ev, Rn.putO, Rn.stored]
    · rename_i q
      refine eq_own ?_
      rw [if_neg q] at e0
      rw [e0] at e3
      rw [gos_end e1 (by rw [e3]; simp [Rn.ev, Rn.putO, Hv.trap]), e3]
      simp [Rn.ev, Rn.stop, Rn.trap, Rn.putO]
  · rw [mic_op (c := 400) (k := i.op - 400) (by omega) (by omega) (by omega) (by omega)]
    have e0 : efR r i = ⟨r.h, r.m, [], [], some (alu (i.op - 400) (r.get i.a) (r.get i.b))⟩ := by unfold efR; rw [if_neg (by omega), if_neg (by omega), if_neg (by omega), if_pos h]
    have e3 : dos r i = r.put i.d (alu (i.op - 400) (r.get i.a) (r.get i.b)) := by rw [dos_ef (by omega), e0, ev_nil]; rfl
    refine eq_own ?_
    unfold mOp
    rw [if_neg (by omega), if_neg (by omega), if_neg (by omega), if_pos rfl]
    rw [gos_go (lvB_no (by omega)) (by rw [e3, put_state]; exact hs), e3]
  · rw [mic_op (c := 500) (k := i.op - 500) (by omega) (by omega) (by omega) (by omega)]
    have e0 : efR r i = ⟨r.h, r.m, [], [], some (alu (i.op - 500) (r.get i.a) i.n)⟩ := by unfold efR; rw [if_neg (by omega), if_neg (by omega), if_neg (by omega), if_neg (by omega), if_pos h]
    have e3 : dos r i = r.put i.d (alu (i.op - 500) (r.get i.a) i.n) := by rw [dos_ef (by omega), e0, ev_nil]; rfl
    refine eq_own ?_
    unfold mOp
    rw [if_neg (by omega), if_neg (by omega), if_neg (by omega), if_neg (by omega), if_pos rfl]
    rw [gos_go (lvB_no (by omega)) (by rw [e3, put_state]; exact hs), e3]
  · rw [mic_op (c := 600) (k := i.op - 600) (by omega) (by omega) (by omega) (by omega)]
    have e1 : lvB bf bt steps r i = false := lvB_no (by omega)
    have e0 : efR r i = efAtom r.h r.m (i.op - 600) (r.get i.a) (r.get i.b) := by unfold efR; rw [if_neg (by omega), if_neg (by omega), if_neg (by omega), if_neg (by omega), if_neg (by omega), if_pos h]
    have e3 : dos r i = (r.ev (efR r i)).putO i.d (efR r i).res := dos_ef (by omega)
    unfold mOp
    rw [if_neg (by omega), if_neg (by omega), if_neg (by omega), if_neg (by omega), if_neg (by omega), if_pos rfl]
    unfold mAtom
    unfold efAtom at e0
    by_cases q6 : i.op - 600 = 46
    · rw [if_pos q6] at e0 ⊢
      refine eq_own ?_
      unfold mLr
      unfold efLr at e0
      split
      · rename_i q
        rw [if_pos q] at e0
        rw [e0] at e3
        have e4 : dos r i = { r with h := r.h.hold true (r.get i.a) }.put i.d (ldV r.m 13 (r.get i.a)) := by rw [e3]; simp [Rn.ev, Rn.putO]
        rw [gos_go e1 (by rw [e4, put_state]; exact hs), e4]
      · rename_i q
        rw [if_neg q] at e0
        rw [e0] at e3
        rw [gos_end e1 (by rw [e3]; simp [Rn.ev, Rn.putO, Hv.trap]), e3]
        simp [Rn.ev, Rn.stop, Rn.trap, Rn.putO]
    rw [if_neg q6] at e0 ⊢
    by_cases q7 : i.op - 600 = 47
    · rw [if_pos q7] at e0 ⊢
      unfold mSc
      unfold efSc at e0
      by_cases q : ldOk r.m 13 (r.get i.a) = true
      · rw [if_pos q] at e0 ⊢
        by_cases q2 : r.h.held = true ∧ r.h.heldAt = r.get i.a
        · rw [if_pos q2] at e0 ⊢
          rw [e0] at e3
          have e4 : dos r i = ({ r with h := r.h.hold false 0, m := stL r.m 18 (r.get i.a) (r.get i.b), sto := r.sto ++ [(r.get i.a, 4)] } : Rn).put i.d 0 := by rw [e3]; simp [Rn.ev, Rn.putO]
          rw [gos_go e1 (by rw [e4, put_state]; exact hs), e4]
          refine eq_put (o := true) _ _ ?_
          rfl
        · rw [if_neg q2] at e0 ⊢
          rw [e0] at e3
          have e4 : dos r i = { r with h := r.h.hold false 0 }.put i.d 1 := by rw [e3]; simp [Rn.ev, Rn.putO]
          refine eq_own ?_
          rw [gos_go e1 (by rw [e4, put_state]; exact hs), e4]
      · rw [if_neg q] at e0 ⊢
        rw [e0] at e3
        refine eq_own ?_
        rw [gos_end e1 (by rw [e3]; simp [Rn.ev, Rn.putO, Hv.trap]), e3]
        simp [Rn.ev, Rn.stop, Rn.trap, Rn.putO]
    rw [if_neg q7] at e0 ⊢
    unfold mAmo
    unfold efAmo at e0
    by_cases q : ldOk r.m 13 (r.get i.a) = true
    · rw [if_pos q] at e0 ⊢
      rw [e0] at e3
      have e4 : dos r i = ({ r with m := stL r.m 18 (r.get i.a) (amo (i.op - 600) (ldV r.m 13 (r.get i.a)) (r.get i.b)), sto := r.sto ++ [(r.get i.a, 4)] } : Rn).put i.d (ldV r.m 13 (r.get i.a)) := by rw [e3]; simp [Rn.ev, Rn.putO]
      rw [gos_go e1 (by rw [e4, put_state]; exact hs), e4]
      refine eq_put (o := true) _ _ ?_
      rfl
    · rw [if_neg q] at e0 ⊢
      rw [e0] at e3
      refine eq_own ?_
      rw [gos_end e1 (by rw [e3]; simp [Rn.ev, Rn.putO, Hv.trap]), e3]
      simp [Rn.ev, Rn.stop, Rn.trap, Rn.putO]
/-- What stays true from small step to small step. -/
structure Gd (bf bt : Int) (r : Rn) : Prop where
  ok : r.Ok
  st : r.over = false → r.h.state = 0
  own : r.own = ownB bf bt r.sto
  len : r.m.length ≤ 4096
theorem Gd.put {bf bt : Int} {r : Rn} (g : Gd bf bt r) (k : Int) {x : Int} (hx : W x) : Gd bf bt (r.put k x) := by
  refine ⟨g.ok.put k hx, ?_, ?_, ?_⟩
  · rw [put_state]
    have : (r.put k x).over = r.over := by unfold Rn.put; split <;> rfl
    rw [this]
    exact g.st
  · have : (r.put k x).own = r.own ∧ (r.put k x).sto = r.sto := by unfold Rn.put; split <;> exact ⟨rfl, rfl⟩
    rw [this.1, this.2]
    exact g.own
  · have : (r.put k x).m = r.m := by unfold Rn.put; split <;> rfl
    rw [this]
    exact g.len
theorem Gd.stop {bf bt : Int} {r : Rn} (g : Gd bf bt r) {x : Int} (hx : W x) : Gd bf bt (r.stop x) := ⟨g.ok.stop hx, fun h => (by cases h), g.own, g.len⟩
theorem Gd.trap {bf bt : Int} {r : Rn} (g : Gd bf bt r) (c : Int) : Gd bf bt (r.trap c) := ⟨g.ok.trap c, fun h => (by cases h), g.own, g.len⟩
theorem Gd.hart {bf bt : Int} {r : Rn} (g : Gd bf bt r) {h : Hv} (o : h.Ok) (e : h.state = r.h.state) : Gd bf bt { r with h := h } := ⟨g.ok.hart o, fun q => e.trans (g.st q), g.own, g.len⟩
theorem Gd.stored {bf bt : Int} {r : Rn} (g : Gd bf bt r) {p : Int} {k : Nat} (m : List UInt8) (hm : m.length = r.m.length) (h0 : 0 ≤ p) (h1 : p + k ≤ r.m.length) (hk : k ≤ 4) : Gd bf bt ({ r with m := m }.stored bf bt p k) := by
  have hl := g.len
  refine ⟨(g.ok.mem m).stored _ _ _ _, g.st, ?_, by show m.length ≤ 4096; omega⟩
  show (r.own || hits bf bt p k) = ownB bf bt (r.sto ++ [(p, (k : Int))])
  rw [hits_meet h0 (by omega) hk, g.own]
  unfold ownB
  rw [List.any_append]
  simp
theorem thr_le {l : List UInt8} {n : Nat} {a : Int} (h : thr l.length n a = true) : a + n ≤ l.length := by
  unfold thr at h
  simp only [decide_eq_true_eq] at h
  exact h.2.2
theorem micOk_n {i : Mv} (h : micOk i = true) : 8 ≤ named i.op ∨ i.n = 0 := by
  unfold micOk at h
  simp only [Bool.and_eq_true, decide_eq_true_eq] at h
  exact h.2.1
theorem Gd.mOp {bf bt : Int} {r : Rn} (g : Gd bf bt r) (c op : Int) {i : Mv} (hn : W i.n) : Gd bf bt (mOp bf bt r c op i) := by
  have wa := g.ok.get i.a
  have wb := g.ok.get i.b
  have wl := W.lo (r.get i.a + i.n)
  unfold Mi.mOp
  split
  · split
    · exact g.stop hn
    · exact g
  split
  · unfold mLoad
    split
    · exact g.put _ (W.ldV _ _ _)
    · exact g.trap _
  split
  · unfold mStore
    split
    · rename_i h
      exact g.stored _ (stL_length h) wl.1 (thr_le h) (ssz_le _)
    · exact g.trap _
  split
  · exact g.put _ (W.alu wa wb)
  split
  · exact g.put _ (W.alu wa hn)
  split
  · unfold mAtom
    split
    · unfold mLr
      split
      · exact (g.hart (g.ok.h.hold true wa.1 wa.2) rfl).put _ (W.ldV _ _ _)
      · exact g.trap _
    split
    · unfold mSc
      split
      · rename_i h
        split
        · exact ((g.hart (g.ok.h.hold false (x := 0) (by omega) (by omega)) rfl).stored _ (stL_length (st_of_ld h)) wa.1 (thr_le (st_of_ld h)) (ssz_le 18)).put _ .zero
        · exact (g.hart (g.ok.h.hold false (x := 0) (by omega) (by omega)) rfl).put _ ⟨by omega, by omega⟩
      · exact g.trap _
    · unfold mAmo
      split
      · rename_i h
        exact (g.stored _ (stL_length (st_of_ld h)) wa.1 (thr_le (st_of_ld h)) (ssz_le 18)).put _ (W.ldV _ _ _)
      · exact g.trap _
  · exact g
theorem Gd.mic {bf bt steps : Int} {r : Rn} (g : Gd bf bt r) {i : Mv} (hn : W i.n) (ho : r.over = false) : Gd bf bt (mic bf bt steps r i) := by
  have wl := W.lo (r.get i.a + i.n)
  unfold Mi.mic
  split
  · unfold mAt
    split
    · exact g.stop hn
    · exact ⟨⟨g.ok.h, g.ok.tl, g.ok.tb, hn.1, hn.2⟩, g.st, g.own, g.len⟩
  split
  · exact g.put _ hn
  split
  · exact g.stop hn
  split
  · exact g.stop ⟨by have := wl.1; have := wl.2; omega, by have := wl.1; have := wl.2; omega⟩
  split
  · unfold mCall
    split
    · exact ⟨g.ok.hart (g.ok.h.halt.go g.ok.h0 g.ok.h1) |> fun o => ⟨o.h, o.tl, o.tb, o.h0, o.h1⟩, fun h => (by cases h), g.own, g.len⟩
    split
    · exact ⟨⟨g.ok.h, g.ok.tl, g.ok.tb, g.ok.h0, g.ok.h1⟩, g.st, g.own, g.len⟩
    · exact g.trap _
  split
  · exact g.trap _
  · exact g.mOp _ _ hn
theorem Gd.start {bf bt : Int} {h : Hv} {l : List UInt8} (o : h.Ok) (hs : h.state = 0) (hl : l.length ≤ 4096) : Gd bf bt (mstart h l) :=
  ⟨⟨o, rfl, fun j => by match j with | 0 | 1 | 2 | 3 => exact W.zero | j + 4 => exact W.zero, o.pc0, o.pc1⟩, fun _ => hs, rfl, hl⟩
theorem Gd.mrun {bf bt steps : Int} {r : Rn} (g : Gd bf bt r) {code : List Mv} (hn : ∀ i ∈ code, W i.n) : ∀ j, Gd bf bt (mrun bf bt steps r (code.take j))
  | 0 => g
  | j + 1 => by
    have q := Gd.mrun (steps := steps) g hn j
    cases hi : code[j]? with
    | none =>
      have e : code.take (j + 1) = code.take j := by rw [List.take_add_one, hi]; simp
      rw [e]
      exact q
    | some i =>
      cases ho : (Mi.mrun bf bt steps r (code.take j)).over with
      | false =>
        rw [mrun_take bf bt steps hi ho]
        exact q.mic (hn i (List.mem_of_getElem? hi)) ho
      | true =>
        have e : Mi.mrun bf bt steps r (code.take (j + 1)) = Mi.mrun bf bt steps r (code.take j) := by
          rw [List.take_add_one, hi, mrun_append, mrun_over _ _ _ ho]
        rw [e]
        exact q
theorem efR_res {r : Rn} (o : r.Ok) {i : Mv} (hn : W i.n) {x : Int} (h : (efR r i).res = some x) : W x := by
  have wa := o.get i.a
  have wb := o.get i.b
  unfold efR at h
  split at h
  · injection h with h; rw [← h]; exact hn
  split at h
  · unfold efLoad at h
    split at h
    · injection h with h; rw [← h]; exact W.ldV _ _ _
    · cases h
  split at h
  · unfold efStore at h
    split at h <;> cases h
  split at h
  · injection h with h; rw [← h]; exact W.alu wa wb
  split at h
  · injection h with h; rw [← h]; exact W.alu wa hn
  split at h
  · unfold efAtom at h
    split at h
    · unfold efLr at h
      split at h
      · injection h with h; rw [← h]; exact W.ldV _ _ _
      · cases h
    split at h
    · unfold efSc at h
      split at h
      · split at h
        · injection h with h; rw [← h]; exact .zero
        · injection h with h; rw [← h]; exact .one
      · cases h
    · unfold efAmo at h
      split at h
      · injection h with h; rw [← h]; exact W.ldV _ _ _
      · cases h
  · cases h
end Go.Proofs.YtbihifipemldhabDoor.Mi
/-
  Small steps that are made of a block do what the block's instructions do, as plain data, if those of each instruction do ('BodyOk').
-/
namespace Go.Proofs.YtbihifipemldhabDoor.Ts
open Mm Wd Mi Bk
open Hh hiding Rn
set_option linter.unusedVariables false
set_option linter.unusedSimpArgs false

theorem raw_congr {l l' : List UInt8} {a : Nat} : ∀ n, (∀ i, a ≤ i → i < a + n → bv l i = bv l' i) → raw l a n = raw l' a n
  | 0, _ => rfl
  | n + 1, h => by
    unfold raw
    rw [raw_congr n fun i h1 h2 => h i h1 (by omega), h (a + n) (by omega) (by omega)]
/-- A store elsewhere leaves a word as it was. -/
theorem ld_keep {l : List UInt8} {op p x a : Int} (h : stOk l op p = true) (hp : 0 ≤ p) (ha : 0 ≤ a) (d : p + (ssz op : Int) ≤ a ∨ a + 4 ≤ p) : ldV (stL l op p x) 13 a = ldV l 13 a := by
  have hl := Mi.stL_length (x := x) h
  unfold ldV
  have e : ldOk (stL l op p x) 13 a = ldOk l 13 a := by unfold ldOk; rw [hl]
  rw [e]
  split
  · rename_i q
    congr 1
    have hq : a + 4 ≤ l.length := by
      unfold ldOk thr at q
      simp only [decide_eq_true_eq] at q
      exact q.2.2
    show raw _ _ 4 = raw _ _ 4
    refine raw_congr 4 fun i h1 h2 => ?_
    unfold stL
    rw [if_pos h, bv_put _ _ _ _ _ (by omega), if_neg (by omega)]
  · rfl
/-- What a step stores: nothing, or in one place. -/
def MemS (l : List UInt8) (S : Sv) : Prop := (S.m = l ∧ S.sto = []) ∨ ∃ op p x, 0 ≤ p ∧ stOk l op p = true ∧ S.m = stL l op p x ∧ S.sto = [(p, ((ssz op : Nat) : Int))]
def EvM (l : List UInt8) (e : Ev) : Prop := (e.m = l ∧ e.sto = []) ∨ ∃ op p x, 0 ≤ p ∧ stOk l op p = true ∧ e.m = stL l op p x ∧ e.sto = [(p, ((ssz op : Nat) : Int))]
theorem evm {l : List UInt8} {h : Hv} {o : List Int} {r : Option Int} : EvM l ⟨h, l, o, [], r⟩ := .inl ⟨rfl, rfl⟩
theorem ef_mem {h : Hv} (o : h.Ok) (l : List UInt8) {op a b n : Int} (ha : W a) : EvM l (eff h l op a b n) := by
  unfold eff
  split
  · exact evm
  split
  · exact evm
  split
  · exact evm
  split
  · unfold efLoad
    split <;> exact evm
  split
  · unfold efStore
    split
    · rename_i q
      exact .inr ⟨_, _, _, (W.lo _).1, q, rfl, rfl⟩
    · exact evm
  split
  · exact evm
  split
  · exact evm
  split
  · unfold efAtom
    split
    · unfold efLr
      split <;> exact evm
    split
    · unfold efSc
      split
      · rename_i q
        split
        · exact .inr ⟨18, a, b, ha.1, st_of_ld q, rfl, rfl⟩
        · exact evm
      · exact evm
    · unfold efAmo
      split
      · rename_i q
        exact .inr ⟨18, a, _, ha.1, st_of_ld q, rfl, rfl⟩
      · exact evm
  split
  · unfold efCall
    split
    · exact evm
    split <;> exact evm
  split <;> exact evm
theorem stp_mem {h : Hv} (o : h.Ok) (l : List UInt8) : MemS l (stp h l) := by
  unfold stp insW
  split
  · split
    · exact .inl ⟨rfl, rfl⟩
    · exact ef_mem (op := Dc.dop (ldV l 13 h.pc)) o l (W.reg o _)
  · exact .inl ⟨rfl, rfl⟩
/-- Two runs that a Did does not tell apart. -/
structure Eqv (r s : Mi.Rn) : Prop where
  h : r.h = s.h
  m : r.m = s.m
  out : r.out = s.out
  n : r.n = s.n
  sto : r.sto = s.sto
/-- What the small steps of an instruction leave, against what a step of it does. -/
structure Fit (bf bt a : Int) (q : Mi.Rn) (S : Sv) (q' : Mi.Rn) : Prop where
  ok : q'.Ok
  m : q'.m = S.m
  out : q'.out = q.out ++ S.out
  sto : q'.sto = q.sto ++ S.sto
  n : q'.n = q.n
  own : q'.own = (q.own || S.sto.any (meet bf bt))
  here : q'.over = false → q'.here = a
  go : (q'.over = true ∧ q'.h = S.h) ∨ (q'.over = false ∧ S.h.state = 0 ∧ S.h.pc = lo (a + 4) ∧ q'.h = S.h.go q.h.pc)
/-- The small steps 'body' do what the instruction x at place a does. -/
def BodyOk (bf bt steps a x : Int) (body : List Mv) : Prop := ∀ q : Mi.Rn, q.over = false → q.Ok → q.h.state = 0 → rg q.h 0 = 0 → q.here = a → q.m.length ≤ 4096 →
  Fit bf bt a q (insW (q.h.go a) q.m x) (mrun bf bt steps q body) ∧ ((mrun bf bt steps q body).over = true → lastOp (Dc.dop x) = true ∨ ¬ (insW (q.h.go a) q.m x).h.state = 0)
/-- What lies behind the last instruction's. -/
def TailOk (bf bt steps a : Int) (tail : List Mv) : Prop := ∀ q : Mi.Rn, q.over = false → 0 < q.n → lo (q.here + 4) = a → Eqv (mend (mrun bf bt steps q tail)) { q with h := q.h.go a }
/-- The small steps of n instructions, from the k-th one on. -/
def codeK (bpc : Int) (bd : Nat → List Mv) : Nat → Nat → List Mv
  | 0, _ => []
  | n + 1, k => ⟨1, 0, 0, 0, at4 bpc k⟩ :: (bd k ++ codeK bpc bd n (k + 1))
theorem mend_over {r : Mi.Rn} (h : r.over = true) : mend r = r := by unfold mend; rw [if_neg (by simp [h])]
theorem mic_at (bf bt steps : Int) (q : Mi.Rn) (a : Int) : mic bf bt steps q ⟨1, 0, 0, 0, a⟩ = mAt steps q a := by unfold mic; rw [if_pos rfl]
theorem go_go (h : Hv) (x y : Int) : (h.go x).go y = h.go y := rfl
theorem go_pc (h : Hv) : h.go h.pc = h := rfl
/-- Stores of a step: the document's test of a block's bytes is the small steps' one. -/
theorem hit_meet {l : List UInt8} {S : Sv} (hS : MemS l S) {bpc last : Int} (hb : bpc < last) (hl : l.length ≤ 4096) : S.sto.any (hitB bpc last) = S.sto.any (meet bpc last) := by
  rcases hS with ⟨_, e⟩ | ⟨op, p, x, hp, ho, _, e⟩
  · rw [e]; rfl
  · rw [e]
    simp only [List.any_cons, List.any_nil, Bool.or_false]
    have hz : 0 < ssz op ∧ p + (ssz op : Int) ≤ l.length := by
      unfold stOk thr at ho
      simp only [decide_eq_true_eq] at ho
      exact ⟨ho.1, ho.2.2⟩
    have hlo : lo (p + ((ssz op : Nat) : Int)) = p + (ssz op : Int) := Int.emod_eq_of_lt (by omega) (by omega)
    unfold hitB meet
    simp only [hlo]
    rw [decide_eq_decide, Int.max_def, Int.min_def]
    constructor
    · intro h; (repeat' split) <;> omega
    · intro h; (repeat' split at h) <;> omega
/-- What a store that misses the block leaves of its words. -/
theorem words_keep {l : List UInt8} {S : Sv} (hS : MemS l S) {bpc last : Int} (hl : l.length ≤ 4096) (hno : S.sto.any (hitB bpc last) = false) {a : Int} (h0 : 0 ≤ a) (h1 : bpc ≤ a) (h2 : a + 4 ≤ last) : ldV S.m 13 a = ldV l 13 a := by
  rcases hS with ⟨e, _⟩ | ⟨op, p, x, hp, ho, e, es⟩
  · rw [e]
  · rw [e]
    refine ld_keep ho hp h0 ?_
    rw [es] at hno
    simp only [List.any_cons, List.any_nil, Bool.or_false] at hno
    have hz : 0 < ssz op ∧ p + (ssz op : Int) ≤ l.length := by
      unfold stOk thr at ho
      simp only [decide_eq_true_eq] at ho
      exact ⟨ho.1, ho.2.2⟩
    have hlo : lo (p + ((ssz op : Nat) : Int)) = p + (ssz op : Int) := Int.emod_eq_of_lt (by omega) (by omega)
    unfold hitB at hno
    simp only [hlo, decide_eq_false_iff_not] at hno
    omega
/-- A block of a memory: its words, where they stand, and that only the last one may be a jump, a branch or a call. -/
structure Blkd (l : List UInt8) (bpc last : Int) (cnt : Nat) (xs : Nat → Int) : Prop where
  pos : 0 < cnt
  low : 0 ≤ bpc
  top : bpc + 4 * cnt = last
  len : l.length ≤ 4096
  fit : last ≤ l.length
  at_ : ∀ j, j ≤ cnt → at4 bpc j = bpc + 4 * j
  ok : ∀ j, j < cnt → ldOk l 13 (at4 bpc j) = true
  op : ∀ j, j < cnt → ¬ Dc.dop (xs j) = 0
  fin : ∀ j, j < cnt → lastOp (Dc.dop (xs j)) = true → j + 1 = cnt
structure Rel (bpc steps : Int) (k : Nat) (q r : Mi.Rn) : Prop where
  over : q.over = false
  ok : q.Ok
  may : may r.h = true
  st : r.h.state = 0
  h : r.h = q.h.go (at4 bpc k)
  m : r.m = q.m
  out : r.out = q.out
  n : r.n = q.n
  sto : r.sto = q.sto
  own : q.own = false
  le : (q.n : Int) ≤ steps
  beg : k = 0 ∨ (0 < q.n ∧ lo (q.here + 4) = at4 bpc k)
theorem segs_run {l : List UInt8} {bpc last steps : Int} {cnt : Nat} {xs : Nat → Int} {bd : Nat → List Mv} {tail : List Mv} (B : Blkd l bpc last cnt xs) (hb : ∀ j, j < cnt → BodyOk bpc last steps (at4 bpc j) (xs j) (bd j)) (ht : TailOk bpc last steps (at4 bpc cnt) tail) :
    ∀ (n k : Nat) (q r : Mi.Rn), k + n = cnt → Rel bpc steps k q r → (∀ j, k ≤ j → j < cnt → ldV r.m 13 (at4 bpc j) = xs j) → r.m.length = l.length → Eqv (mend (mrun bpc last steps q (codeK bpc bd n k ++ tail))) (bst bpc last steps n k r)
  | 0, k, q, r, hk, R, _, _ => by
    have hkc : k = cnt := by omega
    have hp := B.pos
    rcases R.beg with h0 | ⟨h1, h2⟩
    · omega
    · have e := ht q R.over h1 (by rw [h2, hkc])
      show Eqv (mend (mrun bpc last steps q tail)) r
      refine ⟨?_, ?_, ?_, ?_, ?_⟩
      · rw [e.h, R.h, hkc]
      · rw [e.m, R.m]
      · rw [e.out, R.out]
      · rw [e.n, R.n]
      · rw [e.sto, R.sto]
  | n + 1, k, q, r, hk, R, hw, hlen => by
    have hkc : k < cnt := by omega
    have ha := B.at_ k (by omega)
    have ha1 := B.at_ (k + 1) (by omega)
    have hlow := B.low
    have htop := B.top
    have hfit := B.fit
    have hll := B.len
    have e0 : mrun bpc last steps q (codeK bpc bd (n + 1) k ++ tail) = mrun bpc last steps (mAt steps q (at4 bpc k)) (bd k ++ (codeK bpc bd n (k + 1) ++ tail)) := by
      show mrun bpc last steps q (⟨1, 0, 0, 0, at4 bpc k⟩ :: ((bd k ++ codeK bpc bd n (k + 1)) ++ tail)) = _
      rw [mrun, if_neg (by simp [R.over]), mic_at, List.append_assoc]
    rw [e0]
    by_cases hn : (q.n : Int) = steps
    · have e1 : mAt steps q (at4 bpc k) = q.stop (at4 bpc k) := by unfold mAt; rw [if_pos (.inl hn)]
      have e2 : bst bpc last steps (n + 1) k r = r := by unfold bst; rw [if_neg (by rw [R.n]; omega)]
      rw [e1, mrun_over _ _ _ rfl, mend_over rfl, e2]
      exact ⟨R.h.symm, R.m.symm, R.out.symm, R.n.symm, R.sto.symm⟩
    · have e1 : mAt steps q (at4 bpc k) = { q with n := q.n + 1, here := at4 bpc k } := by unfold mAt; rw [if_neg (by simp [hn, R.own])]
      rw [e1, mrun_append]
      have hbd := at4_bd bpc k
      have okq : Mi.Rn.Ok { q with n := q.n + 1, here := at4 bpc k } := ⟨R.ok.h, R.ok.tl, R.ok.tb, hbd.1, hbd.2⟩
      have hst : q.h.state = 0 := by have := R.st; rw [R.h] at this; exact this
      have hrn : Hh.Rn r.h := rn_of R.may R.st
      have hz : rg q.h 0 = 0 := by have := hrn.z; rw [R.h] at this; exact this
      have okr : r.h.Ok := by rw [R.h]; exact R.ok.h.go hbd.1 hbd.2
      obtain ⟨F, FL⟩ := hb k hkc { q with n := q.n + 1, here := at4 bpc k } R.over okq hst hz rfl (by show q.m.length ≤ 4096; rw [← R.m, hlen]; exact hll)
      have hpc : r.h.pc = at4 bpc k := by rw [R.h]; rfl
      have eS : stp r.h r.m = insW (q.h.go (at4 bpc k)) q.m (xs k) := by
        unfold stp
        have hok : ldOk r.m 13 r.h.pc = true := by
          rw [hpc]
          have := B.ok k hkc
          unfold ldOk at this ⊢
          rw [hlen]
          exact this
        rw [if_pos hok, hpc, hw k (Nat.le_refl _) hkc, R.h, R.m]
      have gS := good_stp hrn r.m
      have mS := stp_mem okr r.m
      rw [← show stp r.h r.m = insW (({ q with n := q.n + 1, here := at4 bpc k } : Mi.Rn).h.go (at4 bpc k)) ({ q with n := q.n + 1, here := at4 bpc k } : Mi.Rn).m (xs k) from eS] at F FL
      have ebst : bst bpc last steps (n + 1) k r = if bstop bpc last k (stp r.h r.m) = true then b1 r else bst bpc last steps n (k + 1) (b1 r) := by
        rw [bst, if_pos]
        have := R.le
        rw [R.n]
        omega
      rw [ebst]
      have hpc4 : lo (at4 bpc k + 4) = at4 bpc (k + 1) := by
        rw [ha, ha1]
        have : lo (bpc + 4 * (k : Int) + 4) = bpc + 4 * (k : Int) + 4 := Int.emod_eq_of_lt (by omega) (by omega)
        rw [this]
        omega
      have hpc5 : Wd.lo (bpc + (4 * (k : Int) + 4)) = at4 bpc (k + 1) := by
        rw [← hpc4, ha]
        congr 1
        omega
      have hmeet := hit_meet mS (bpc := bpc) (last := last) (by omega) (by rw [hlen]; exact hll)
      generalize hq' : mrun bpc last steps { q with n := q.n + 1, here := at4 bpc k } (bd k) = q' at *
      have eqb : q'.h = (stp r.h r.m).h → Eqv q' (b1 r) := fun e => ⟨e, F.m, by rw [F.out]; show q.out ++ _ = r.out ++ _; rw [R.out], by rw [F.n]; show q.n + 1 = r.n + 1; rw [R.n], by rw [F.sto]; show q.sto ++ _ = r.sto ++ _; rw [R.sto]⟩
      rcases F.go with ⟨g1, g2⟩ | ⟨g1, g2, g3, g4⟩
      · rw [mrun_over _ _ _ g1, mend_over g1]
        have hE := eqb g2
        split
        · exact hE
        · rename_i hbs
          have hs0 : (stp r.h r.m).h.state = 0 := by
            unfold bstop at hbs
            simp only [Bool.or_eq_true, decide_eq_true_eq, not_or, Classical.not_not] at hbs
            exact hbs.1
          have hfin : k + 1 = cnt := by
            rcases FL g1 with h | h
            · exact B.fin k hkc h
            · exact absurd hs0 h
          have hn0 : n = 0 := by omega
          subst hn0
          exact hE
      · have hS4 : q'.h.go (at4 bpc (k + 1)) = (stp r.h r.m).h := by
          rw [g4, go_go, ← hpc4, ← g3, go_pc]
        have hbs : bstop bpc last k (stp r.h r.m) = (stp r.h r.m).sto.any (hitB bpc last) := by
          unfold bstop
          rw [decide_eq_false (by simp [g2]), decide_eq_false (by rw [hpc5, ← hpc4]; simp [g3])]
          simp
        have hher := F.here g1
        have hnn : 0 < q'.n := by rw [F.n]; exact Nat.succ_pos _
        have hEg : ∀ s : Mi.Rn, Eqv s { q' with h := q'.h.go (at4 bpc (k + 1)) } → Eqv s (b1 r) := fun s e => by
          refine ⟨?_, ?_, ?_, ?_, ?_⟩
          · rw [e.h]; exact hS4
          · rw [e.m]; exact F.m
          · rw [e.out]; show q'.out = _; rw [F.out]; show q.out ++ _ = r.out ++ _; rw [R.out]
          · rw [e.n]; show q'.n = _; rw [F.n]; show q.n + 1 = r.n + 1; rw [R.n]
          · rw [e.sto]; show q'.sto = _; rw [F.sto]; show q.sto ++ _ = r.sto ++ _; rw [R.sto]
        rw [hbs]
        split
        · rename_i hh
          have hown : q'.own = true := by rw [F.own, ← hmeet, hh]; simp
          cases n with
          | zero =>
            have hc1 : k + 1 = cnt := by omega
            refine hEg _ ?_
            rw [hc1]
            exact ht q' g1 hnn (by rw [hher, hpc4, hc1])
          | succ n' =>
            refine hEg _ ?_
            show Eqv (mend (mrun bpc last steps q' (⟨1, 0, 0, 0, at4 bpc (k + 1)⟩ :: ((bd (k + 1) ++ codeK bpc bd n' (k + 1 + 1)) ++ tail)))) _
            rw [mrun, if_neg (by simp [g1]), mic_at]
            have e3 : mAt steps q' (at4 bpc (k + 1)) = q'.stop (at4 bpc (k + 1)) := by unfold mAt; rw [if_pos (.inr hown)]
            rw [e3, mrun_over _ _ _ rfl, mend_over rfl]
            exact ⟨rfl, rfl, rfl, rfl, rfl⟩
        · rename_i hh
          have hno : (stp r.h r.m).sto.any (hitB bpc last) = false := by simpa using hh
          have hown : q'.own = false := by rw [F.own, ← hmeet, hno]; show (q.own || false) = false; rw [R.own]; rfl
          refine segs_run B hb ht n (k + 1) q' (b1 r) (by omega) ⟨g1, F.ok, gS.1, g2, hS4.symm, F.m.symm, by rw [F.out]; show r.out ++ _ = q.out ++ _; rw [R.out], by rw [F.n]; show r.n + 1 = q.n + 1; rw [R.n], by rw [F.sto]; show r.sto ++ _ = q.sto ++ _; rw [R.sto], hown, ?_, .inr ⟨hnn, by rw [hher]; exact hpc4⟩⟩ ?_ ?_
          · rw [F.n]
            have := R.le
            show ((q.n + 1 : Nat) : Int) ≤ steps
            omega
          · intro j hj1 hj2
            have haj := B.at_ j (by omega)
            show ldV (stp r.h r.m).m 13 (at4 bpc j) = xs j
            rw [words_keep mS (bpc := bpc) (last := last) (by rw [hlen]; exact hll) hno (by omega) (by omega) (by omega)]
            exact hw j (by omega) hj2
          · show (stp r.h r.m).m.length = l.length
            rw [gS.2.1, hlen]
/-- All of it, from the beginning. -/
theorem trans_run {l : List UInt8} {bpc last steps : Int} {cnt : Nat} {xs : Nat → Int} {bd : Nat → List Mv} {tail : List Mv} (B : Blkd l bpc last cnt xs) (hb : ∀ j, j < cnt → BodyOk bpc last steps (at4 bpc j) (xs j) (bd j)) (ht : TailOk bpc last steps (at4 bpc cnt) tail)
    {h : Hv} (o : h.Ok) (hm : may h = true) (hs : h.state = 0) (hp : h.pc = bpc) (h0 : 0 ≤ steps) (hx : ∀ j, j < cnt → ldV l 13 (at4 bpc j) = xs j) : Eqv (mplay bpc last steps h l (codeK bpc bd cnt 0 ++ tail)) (bst bpc last steps cnt 0 (mstart h l)) := by
  have e : at4 bpc 0 = bpc := by have := B.at_ 0 (Nat.zero_le _); simpa using this
  refine segs_run B hb ht cnt 0 (mstart h l) (mstart h l) (Nat.zero_add _) ⟨rfl, (Gd.start (bf := bpc) (bt := last) o hs B.len).ok, hm, hs, ?_, rfl, rfl, rfl, rfl, rfl, by simpa [mstart] using h0, .inl rfl⟩ (fun j _ hj => hx j hj) rfl
  rw [e, ← hp]
  rfl
theorem tail_nil (bf bt steps a : Int) : TailOk bf bt steps a [] := fun q ho hn hh => by
  show Eqv (mend q) _
  unfold mend
  rw [if_pos ⟨ho, hn⟩, hh]
  exact ⟨rfl, rfl, rfl, rfl, rfl⟩
theorem tail_go (bf bt steps a : Int) : TailOk bf bt steps a [⟨3, 0, 0, 0, a⟩] := fun q ho hn hh => by
  have e : mrun bf bt steps q [⟨3, 0, 0, 0, a⟩] = q.stop a := by
    rw [mrun, if_neg (by simp [ho]), mrun]
    unfold mic
    rw [if_neg (by simp), if_neg (by simp), if_pos rfl]
  rw [e, mend_over rfl]
  exact ⟨rfl, rfl, rfl, rfl, rfl⟩
end Go.Proofs.YtbihifipemldhabDoor.Ts
