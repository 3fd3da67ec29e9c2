/-
  What is true of a step, as plain data: a hart that may be stays one; register 0 stays 0; the memory is as long as it was; one that traps or halts leaves all else.
-/
import Derived.Test.YtdiofidmlgliiaaDoorHb
namespace Go.Proofs.YtdiofidmlgliiaaDoor.Hh
open Mm Wd
set_option linter.unusedVariables false

variable {h h' : Hv} {l m : List UInt8} {out : List Int} {sto : List (Int × Int)} {c : Int}
/-- A hart that may be and runs. -/
structure Rn (h : Hv) : Prop where
  z : rg h 0 = 0
  hd : h.held = false → h.heldAt = 0
  st : h.state = 0
  cs : h.cause = 0
theorem rn_of (m : may h = true) (s : h.state = 0) : Rn h := by
  simp only [may, decide_eq_true_eq] at m
  obtain ⟨a, b, c⟩ := m
  exact ⟨a, b, s, by omega⟩
/-- What a step leaves of a hart: it runs on, or all but State and Cause is as it was. -/
def Good (h : Hv) (l : List UInt8) (s : Sv) : Prop := may s.h = true ∧ s.m.length = l.length ∧ rg s.h 0 = 0 ∧ s.out.length ≤ 1 ∧ (s.h.state ≠ 0 → { s.h with state := h.state, cause := h.cause } = h ∧ s.m = l ∧ s.out = [])
theorem may_run (z : rg h 0 = 0) (hd : h.held = false → h.heldAt = 0) (s : h.state = 0) (c : h.cause = 0) : may h = true := by
  simp only [may, decide_eq_true_eq]; exact ⟨z, hd, .inl ⟨.inl s, c⟩⟩
theorem good_run (z : rg h' 0 = 0) (hd : h'.held = false → h'.heldAt = 0) (s : h'.state = 0) (c : h'.cause = 0) (hm : m.length = l.length) (ho : out.length ≤ 1) : Good h l ⟨h', m, out, sto⟩ :=
  ⟨may_run z hd s c, hm, z, ho, fun h => absurd s h⟩
theorem good_trap (r : Rn h) (l : List UInt8) (c0 : 1 ≤ c) (c1 : c ≤ 6) : Good h l ⟨h.trap c, l, [], []⟩ := by
  refine ⟨?_, rfl, r.z, by simp, fun _ => ⟨?_, rfl, rfl⟩⟩
  · simp only [may, decide_eq_true_eq]; exact ⟨r.z, r.hd, .inr ⟨rfl, c0, c1⟩⟩
  · cases h; rfl
theorem good_halt (r : Rn h) (l : List UInt8) : Good h l ⟨h.halt, l, [], []⟩ := by
  refine ⟨?_, rfl, r.z, by simp, fun _ => ⟨?_, rfl, rfl⟩⟩
  · simp only [may, decide_eq_true_eq]; exact ⟨r.z, r.hd, .inl ⟨.inr rfl, r.cs⟩⟩
  · cases h; rfl
theorem rg0_set (z : rg h 0 = 0) (r : Nat) (x : Int) : rg (h.set r x) 0 = 0 := by
  unfold Hv.set; split
  · exact z
  · rw [rg_set, if_neg (by omega)]; exact z
theorem set_flds (h : Hv) (r : Nat) (x : Int) : (h.set r x).held = h.held ∧ (h.set r x).heldAt = h.heldAt ∧ (h.set r x).state = h.state ∧ (h.set r x).cause = h.cause := by
  unfold Hv.set; split <;> exact ⟨rfl, rfl, rfl, rfl⟩
/-- An instruction that runs on: Rd set or not, and on at nx. -/
theorem good_done (r : Rn h') (res : Option Int) (rd : Nat) (nx : Int) (hm : m.length = l.length) (ho : out.length ≤ 1) : Good h l (done ⟨h', m, out, sto, res⟩ rd nx) := by
  unfold done Hv.put
  cases res with
  | none =>
    simp only
    unfold Hv.on
    rw [if_pos r.st]
    exact good_run r.z r.hd r.st r.cs hm ho
  | some x =>
    obtain ⟨f1, f2, f3, f4⟩ := set_flds h' rd x
    simp only
    unfold Hv.on
    rw [if_pos (f3.trans r.st)]
    exact good_run (h' := (h'.set rd x).go nx) (rg0_set r.z rd x) (by show (h'.set rd x).held = false → (h'.set rd x).heldAt = 0; rw [f1, f2]; exact r.hd) (f3.trans r.st) (f4.trans r.cs) hm ho
theorem good_stop (r : Rn h) (l : List UInt8) (c0 : 1 ≤ c) (c1 : c ≤ 6) (rd : Nat) (nx : Int) : Good h l (done ⟨h.trap c, l, [], [], none⟩ rd nx) := by
  unfold done Hv.put Hv.on
  simp only
  rw [if_neg (by show ¬ (2 : Int) = 0; omega)]
  exact good_trap r l c0 c1
theorem rn_hold (r : Rn h) (a : Int) : Rn (h.hold true a) := ⟨r.z, fun e => (by cases e), r.st, r.cs⟩
theorem rn_loose (r : Rn h) : Rn (h.hold false 0) := ⟨r.z, fun _ => rfl, r.st, r.cs⟩
theorem good_ins (r : Rn h) (l : List UInt8) (op rd r1 r2 im : Int) : Good h l (ins h l op rd r1 r2 im) := by
  unfold ins eff
  split
  · exact good_done r _ _ _ rfl (by simp)
  split
  · exact good_done r _ _ _ rfl (by simp)
  split
  · exact good_done r _ _ _ rfl (by simp)
  split
  · unfold efLoad; split
    · exact good_done r _ _ _ rfl (by simp)
    · exact good_stop r l (by omega) (by omega) _ _
  split
  · unfold efStore; split
    · exact good_done r _ _ _ (stL_len' (by assumption)) (by simp)
    · exact good_stop r l (by omega) (by omega) _ _
  split
  · exact good_done r _ _ _ rfl (by simp)
  split
  · exact good_done r _ _ _ rfl (by simp)
  split
  · unfold efAtom; split
    · unfold efLr; split
      · exact good_done (rn_hold r _) _ _ _ rfl (by simp)
      · exact good_stop r l (by omega) (by omega) _ _
    · split
      · unfold efSc; split
        · split
          · exact good_done (rn_loose r) _ _ _ (stL_len' (st_of_ld (by assumption))) (by simp)
          · exact good_done (rn_loose r) _ _ _ rfl (by simp)
        · exact good_stop r l (by omega) (by omega) _ _
      · unfold efAmo; split
        · exact good_done r _ _ _ (stL_len' (st_of_ld (by assumption))) (by simp)
        · exact good_stop r l (by omega) (by omega) _ _
  split
  · unfold efCall; split
    · unfold done Hv.put Hv.on
      simp only
      rw [if_neg (by show ¬ (1 : Int) = 0; omega)]
      exact good_halt r l
    · split
      · exact good_done r _ _ _ rfl (by simp)
      · exact good_stop r l (by omega) (by omega) _ _
  split
  · exact good_stop r l (by omega) (by omega) _ _
  · exact good_done r _ _ _ rfl (by simp)
theorem good_stp (r : Rn h) (l : List UInt8) : Good h l (stp h l) := by
  unfold stp insW
  split
  · split
    · exact good_trap r l (by omega) (by omega)
    · exact good_ins r l _ _ _ _ _
  · exact good_trap r l (by omega) (by omega)
theorem done_ok {e : Ev} (o : e.Ok l) (rd : Nat) {nx : Int} (w : W nx) : (done e rd nx).h.Ok := on_ok (put_ok o.h rd o.res) w
theorem stp_ok (o : h.Ok) (l : List UInt8) : (stp h l).h.Ok := by
  unfold stp insW ins
  split
  · split
    · exact o.trap 2
    · exact done_ok (eff_ok o l (W.reg o _) (W.reg o _) (W.lo _)) _ .nxt
  · exact o.trap 1
end Go.Proofs.YtdiofidmlgliiaaDoor.Hh
