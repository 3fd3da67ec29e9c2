/-
  Harts that take turns, as plain data: no program in sight. What is proved here: a pick of so many steps is two of as many together; a script behind another does what it does behind the other; harts that may be stay such, the memory is as long as it was, and what comes out is no more than the steps.
-/
import Derived.Test.YtfolphjampklpabDoorHz
namespace Go.Proofs.YtfolphjampklpabDoor.Mc
open Mm Hh
set_option linter.unusedVariables false

/-- What a run shows: the harts, the memory, what came out, how many steps. -/
structure Sh where
  hs : List Hv
  m : List UInt8
  out : List Int
  steps : Nat
/-- No hart: it does not run. -/
def hN : Hv := ⟨[], 0, false, 0, 1, 0⟩
/-- Is a byte of the word at x among those from f on, k of them? -/
def near (x f k : Int) : Bool := decide (0 < k ∧ f < x + 4 ∧ x < f + k)
def nearS (x : Int) (ss : List (Int × Int)) : Bool := ss.any fun p => near x p.1 p.2
/-- A hart loses what it has reserved. -/
def lose1 (ss : List (Int × Int)) (h : Hv) : Hv := if h.held = true ∧ nearS h.heldAt ss = true then h.hold false 0 else h
/-- All but hart k. -/
def lose (k : Nat) (ss : List (Int × Int)) (hs : List Hv) : List Hv := hs.mapIdx fun j h => if j = k then h else lose1 ss h
def at' (s : Sh) (k : Nat) : Hv := s.hs.getD k hN
def stepS (s : Sh) (k : Nat) : Sh := ⟨lose k (stp (at' s k) s.m).sto (s.hs.set k (stp (at' s k) s.m).h), (stp (at' s k) s.m).m, s.out ++ (stp (at' s k) s.m).out, s.steps + 1⟩
def runs (s : Sh) (k : Nat) : Nat → Sh
  | 0 => s
  | n + 1 => if (at' s k).state = 0 then runs (stepS s k) k n else s
def play (s : Sh) (sc : List (Nat × Nat)) : Sh := sc.foldl (fun s p => runs s p.1 p.2) s

theorem runs_stop {s : Sh} {k : Nat} (h : ¬ (at' s k).state = 0) : ∀ n, runs s k n = s
  | 0 => rfl
  | n + 1 => if_neg h
/-- A pick of so many steps is two of as many together. -/
theorem runs_add (k b : Nat) : ∀ (a : Nat) (s : Sh), runs s k (a + b) = runs (runs s k a) k b
  | 0, s => by rw [Nat.zero_add]; rfl
  | a + 1, s => by
    have e1 : ∀ t, runs s k (t + 1) = if (at' s k).state = 0 then runs (stepS s k) k t else s := fun t => rfl
    rw [Nat.succ_add, e1, e1]
    split
    · rw [runs_add k b a]
    · rename_i h
      exact (runs_stop h b).symm
theorem play_app (s : Sh) (a b : List (Nat × Nat)) : play s (a ++ b) = play (play s a) b := List.foldl_append
theorem play_cons (s : Sh) (p : Nat × Nat) (r : List (Nat × Nat)) : play s (p :: r) = play (runs s p.1 p.2) r := rfl
/-- What was shown before is shown ahead. -/
def ahead (o : List Int) (n : Nat) (s : Sh) : Sh := ⟨s.hs, s.m, o ++ s.out, n + s.steps⟩
theorem step_ahead (o : List Int) (n : Nat) (s : Sh) (k : Nat) : stepS (ahead o n s) k = ahead o n (stepS s k) := by
  unfold stepS ahead at'
  simp only [List.append_assoc, Nat.add_assoc]
theorem runs_ahead (o : List Int) (n k : Nat) : ∀ (c : Nat) (s : Sh), runs (ahead o n s) k c = ahead o n (runs s k c)
  | 0, s => rfl
  | c + 1, s => by
    unfold runs
    have e : (at' (ahead o n s) k).state = (at' s k).state := rfl
    rw [e]
    split
    · rw [step_ahead, runs_ahead o n k c]
    · rfl
theorem play_ahead (o : List Int) (n : Nat) : ∀ (sc : List (Nat × Nat)) (s : Sh), play (ahead o n s) sc = ahead o n (play s sc)
  | [], s => rfl
  | p :: r, s => by rw [play_cons, play_cons, runs_ahead, play_ahead o n r]

/-- Harts that may be, each one; the memory is of n bytes. -/
structure Fit (s : Sh) (c n : Nat) : Prop where
  len : s.hs.length = c
  mem : s.m.length = n
  ok : ∀ h ∈ s.hs, h.Ok ∧ may h = true
theorem lose1_fit (ss : List (Int × Int)) {h : Hv} (o : h.Ok) (m : may h = true) : (lose1 ss h).Ok ∧ may (lose1 ss h) = true := by
  unfold lose1
  split
  · refine ⟨o.hold false (x := 0) (by omega) (by omega), ?_⟩
    simp only [may, decide_eq_true_eq] at m ⊢
    exact ⟨m.1, fun _ => rfl, m.2.2⟩
  · exact ⟨o, m⟩
theorem lose_len (k : Nat) (ss : List (Int × Int)) (hs : List Hv) : (lose k ss hs).length = hs.length := by simp [lose]
theorem lose_get (k : Nat) (ss : List (Int × Int)) (hs : List Hv) (j : Nat) : (lose k ss hs)[j]? = hs[j]?.map fun h => if j = k then h else lose1 ss h := by
  simp [lose, List.getElem?_mapIdx]
theorem mem_of_get {l : List Hv} {j : Nat} {h : Hv} (e : l[j]? = some h) : h ∈ l := List.mem_of_getElem? e
theorem step_fit {s : Sh} {c n k : Nat} (f : Fit s c n) (hk : k < c) (hr : (at' s k).state = 0) : Fit (stepS s k) c n := by
  have hl : k < s.hs.length := by rw [f.len]; exact hk
  have eh : s.hs[k]? = some (at' s k) := by unfold at'; rw [List.getElem?_eq_getElem hl]; simp [List.getD, hl]
  obtain ⟨ok, mk⟩ := f.ok _ (mem_of_get eh)
  have g := good_stp (rn_of mk hr) s.m
  have so := stp_ok ok s.m
  refine ⟨by simp [stepS, lose_len, f.len], by simp only [stepS]; rw [g.2.1, f.mem], fun h hm => ?_⟩
  obtain ⟨j, hj⟩ := List.getElem?_of_mem hm
  simp only [stepS] at hj
  rw [lose_get, List.getElem?_set] at hj
  by_cases e : k = j
  · subst e
    simp only [if_true, hl, Option.map_some] at hj
    obtain rfl := Option.some.inj hj
    exact ⟨so, g.1⟩
  · simp only [e, if_false] at hj
    cases hq : s.hs[j]? with
    | none => rw [hq] at hj; cases hj
    | some q =>
      rw [hq] at hj
      obtain ⟨a, b⟩ := f.ok q (mem_of_get hq)
      have e2 : ¬ j = k := fun x => e x.symm
      simp only [Option.map_some, e2, if_false] at hj
      obtain rfl := Option.some.inj hj
      exact lose1_fit _ a b
theorem runs_fit {c n k : Nat} (hk : k < c) : ∀ (t : Nat) {s : Sh}, Fit s c n → Fit (runs s k t) c n
  | 0, s, f => f
  | t + 1, s, f => by
    unfold runs
    split
    · exact runs_fit hk t (step_fit f hk (by assumption))
    · exact f
theorem play_fit {c n : Nat} : ∀ (sc : List (Nat × Nat)) {s : Sh}, (∀ p ∈ sc, p.1 < c) → Fit s c n → Fit (play s sc) c n
  | [], s, _, f => f
  | p :: r, s, h, f => by
    rw [play_cons]
    exact play_fit r (fun q hq => h q (by simp [hq])) (runs_fit (h p (by simp)) p.2 f)
end Go.Proofs.YtfolphjampklpabDoor.Mc
