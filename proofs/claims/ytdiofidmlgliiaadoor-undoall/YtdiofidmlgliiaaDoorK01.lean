/-
  Mp, Mq, Up, Mh, Mr, Ref5a: texts of ours that lie in one file.
-/
import Derived.Test.YtdiofidmlgliiaaDoorHz
/-
  Harts that take turns, as plain data: no program in sight. What is proved here: a pick of so many steps is two of as many together; a script behind another does what it does behind the other; harts that may be stay such, the memory is as long as it was, and what comes out is no more than the steps.
-/
namespace Go.Proofs.YtdiofidmlgliiaaDoor.Mc
open Mm Hh
set_option linter.unusedVariables false

/-- What a run shows: the harts, the memory, what came out, how many steps. -/
structure Sh where
  hs : List Hv
  m : List UInt8
  out : List Int
  steps : Nat
/-- No hart: it does not run. -/
def hN : Hv := ⟨[], 0, false, 0, 1, 0⟩
/-- Is a byte of the word at x among those from f on, k of them? -/
def near (x f k : Int) : Bool := decide (0 < k ∧ f < x + 4 ∧ x < f + k)
def nearS (x : Int) (ss : List (Int × Int)) : Bool := ss.any fun p => near x p.1 p.2
/-- A hart loses what it has reserved. -/
def lose1 (ss : List (Int × Int)) (h : Hv) : Hv := if h.held = true ∧ nearS h.heldAt ss = true then h.hold false 0 else h
/-- All but hart k. -/
def lose (k : Nat) (ss : List (Int × Int)) (hs : List Hv) : List Hv := hs.mapIdx fun j h => if j = k then h else lose1 ss h
def at' (s : Sh) (k : Nat) : Hv := s.hs.getD k hN
def stepS (s : Sh) (k : Nat) : Sh := ⟨lose k (stp (at' s k) s.m).sto (s.hs.set k (stp (at' s k) s.m).h), (stp (at' s k) s.m).m, s.out ++ (stp (at' s k) s.m).out, s.steps + 1⟩
def runs (s : Sh) (k : Nat) : Nat → Sh
  | 0 => s
  | n + 1 => if (at' s k).state = 0 then runs (stepS s k) k n else s
def play (s : Sh) (sc : List (Nat × Nat)) : Sh := sc.foldl (fun s p => runs s p.1 p.2) s

theorem runs_stop {s : Sh} {k : Nat} (h : ¬ (at' s k).state = 0) : ∀ n, runs s k n = s
  | 0 => rfl
  | n + 1 => if_neg h
/-- A pick of so many steps is two of as many together. -/
theorem runs_add (k b : Nat) : ∀ (a : Nat) (s : Sh), runs s k (a + b) = runs (runs s k a) k b
  | 0, s => by rw [Nat.zero_add]; rfl
  | a + 1, s => by
    have e1 : ∀ t, runs s k (t + 1) = if (at' s k).state = 0 then runs (stepS s k) k t else s := fun t => rfl
    rw [Nat.succ_add, e1, e1]
    split
    · rw [runs_add k b a]
    · rename_i h
      exact (runs_stop h b).symm
theorem play_app (s : Sh) (a b : List (Nat × Nat)) : play s (a ++ b) = play (play s a) b := List.foldl_append
theorem play_cons (s : Sh) (p : Nat × Nat) (r : List (Nat × Nat)) : play s (p :: r) = play (runs s p.1 p.2) r := rfl
/-- What was shown before is shown ahead. -/
def ahead (o : List Int) (n : Nat) (s : Sh) : Sh := ⟨s.hs, s.m, o ++ s.out, n + s.steps⟩
theorem step_ahead (o : List Int) (n : Nat) (s : Sh) (k : Nat) : stepS (ahead o n s) k = ahead o n (stepS s k) := by
  unfold stepS ahead at'
  simp only [List.append_assoc, Nat.add_assoc]
theorem runs_ahead (o : List Int) (n k : Nat) : ∀ (c : Nat) (s : Sh), runs (ahead o n s) k c = ahead o n (runs s k c)
  | 0, s => rfl
  | c + 1, s => by
    unfold runs
    have e : (at' (ahead o n s) k).state = (at' s k).state := rfl
    rw [e]
    split
    · rw [step_ahead, runs_ahead o n k c]
    · rfl
theorem play_ahead (o : List Int) (n : Nat) : ∀ (sc : List (Nat × Nat)) (s : Sh), play (ahead o n s) sc = ahead o n (play s sc)
  | [], s => rfl
  | p :: r, s => by rw [play_cons, play_cons, runs_ahead, play_ahead o n r]

/-- Harts that may be, each one; the memory is of n bytes. -/
structure Fit (s : Sh) (c n : Nat) : Prop where
  len : s.hs.length = c
  mem : s.m.length = n
  ok : ∀ h ∈ s.hs, h.Ok ∧ may h = true
theorem lose1_fit (ss : List (Int × Int)) {h : Hv} (o : h.Ok) (m : may h = true) : (lose1 ss h).Ok ∧ may (lose1 ss h) = true := by
  unfold lose1
  split
  · refine ⟨o.hold false (x := 0) (by omega) (by omega), ?_⟩
    simp only [may, decide_eq_true_eq] at m ⊢
    exact ⟨m.1, fun _ => rfl, m.2.2⟩
  · exact ⟨o, m⟩
theorem lose_len (k : Nat) (ss : List (Int × Int)) (hs : List Hv) : (lose k ss hs).length = hs.length := by simp [lose]
theorem lose_get (k : Nat) (ss : List (Int × Int)) (hs : List Hv) (j : Nat) : (lose k ss hs)[j]? = hs[j]?.map fun h => if j = k then h else lose1 ss h := by
  simp [lose, List.getElem?_mapIdx]
theorem mem_of_get {l : List Hv} {j : Nat} {h : Hv} (e : l[j]? = some h) : h ∈ l := List.mem_of_getElem? e
theorem step_fit {s : Sh} {c n k : Nat} (f : Fit s c n) (hk : k < c) (hr : (at' s k).state = 0) : Fit (stepS s k) c n := by
  have hl : k < s.hs.length := by rw [f.len]; exact hk
  have eh : s.hs[k]? = some (at' s k) := by unfold at'; rw [List.getElem?_eq_getElem hl]; simp [List.getD, hl]
  obtain ⟨ok, mk⟩ := f.ok _ (mem_of_get eh)
  have g := good_stp (rn_of mk hr) s.m
  have so := stp_ok ok s.m
  refine ⟨by simp [stepS, lose_len, f.len], by simp only [stepS]; rw [g.2.1, f.mem], fun h hm => ?_⟩
  obtain ⟨j, hj⟩ := List.getElem?_of_mem hm
  simp only [stepS] at hj
  rw [lose_get, List.getElem?_set] at hj
  by_cases e : k = j
  · subst e
    simp only [if_true, hl, Option.map_some] at hj
    obtain rfl := Option.some.inj hj
    exact ⟨so, g.1⟩
  · simp only [e, if_false] at hj
    cases hq : s.hs[j]? with
    | none => rw [hq] at hj; cases hj
    | some q =>
      rw [hq] at hj
      obtain ⟨a, b⟩ := f.ok q (mem_of_get hq)
      have e2 : ¬ j = k := fun x => e x.symm
      simp only [Option.map_some, e2, if_false] at hj
      obtain rfl := Option.some.inj hj
      exact lose1_fit _ a b
theorem runs_fit {c n k : Nat} (hk : k < c) : ∀ (t : Nat) {s : Sh}, Fit s c n → Fit (runs s k t) c n
  | 0, s, f => f
  | t + 1, s, f => by
    unfold runs
    split
    · exact runs_fit hk t (step_fit f hk (by assumption))
    · exact f
theorem play_fit {c n : Nat} : ∀ (sc : List (Nat × Nat)) {s : Sh}, (∀ p ∈ sc, p.1 < c) → Fit s c n → Fit (play s sc) c n
  | [], s, _, f => f
  | p :: r, s, h, f => by
    rw [play_cons]
    exact play_fit r (fun q hq => h q (by simp [hq])) (runs_fit (h p (by simp)) p.2 f)
end Go.Proofs.YtdiofidmlgliiaaDoor.Mc
/-
  A hart at its work over many steps, and what the others lose behind it, as plain data: so many steps done by one hart alone, and what it stored told to the others at their end, is the same as step by step.
-/
namespace Go.Proofs.YtdiofidmlgliiaaDoor.Mc
open Mm Hh Wd
set_option linter.unusedVariables false
set_option linter.unusedSimpArgs false

/-- A hart at its work: the hart, the bytes, what came out, where was stored, how many steps were done. -/
structure Wk where
  h : Hv
  m : List UInt8
  out : List Int
  sto : List (Int × Int)
  n : Nat
def wk1 (x : Wk) : Wk := ⟨(stp x.h x.m).h, (stp x.h x.m).m, x.out ++ (stp x.h x.m).out, x.sto ++ (stp x.h x.m).sto, x.n + 1⟩
def wk (x : Wk) : Nat → Wk
  | 0 => x
  | n + 1 => if x.h.state = 0 then wk (wk1 x) n else x
theorem wk_stop {x : Wk} (h : ¬ x.h.state = 0) : ∀ n, wk x n = x
  | 0 => rfl
  | n + 1 => if_neg h
theorem wk_go {x : Wk} (h : x.h.state = 0) (n : Nat) : wk x (n + 1) = wk (wk1 x) n := if_pos h
/-- What it did is made true. -/
def tk (s : Sh) (k : Nat) (x : Wk) : Sh := ⟨(lose k x.sto s.hs).set k x.h, x.m, s.out ++ x.out, s.steps + x.n⟩
def w0 (s : Sh) (k : Nat) : Wk := ⟨at' s k, s.m, [], [], 0⟩
theorem lose1_nil (h : Hv) : lose1 [] h = h := by unfold lose1; rw [if_neg]; simp [nearS]
theorem lose1_app (a b : List (Int × Int)) (h : Hv) : lose1 (a ++ b) h = lose1 b (lose1 a h) := by
  unfold lose1
  have e : nearS h.heldAt (a ++ b) = (nearS h.heldAt a || nearS h.heldAt b) := by unfold nearS; rw [List.any_append]
  rw [e]
  by_cases hh : h.held = true
  · cases ha : nearS h.heldAt a with
    | true => simp [hh, Hv.hold]
    | false => simp [hh, ha]
  · simp [hh]
theorem lose_nil (k : Nat) (hs : List Hv) : lose k [] hs = hs := by
  apply List.ext_getElem?
  intro j
  rw [lose_get]
  cases hs[j]? with
  | none => rfl
  | some h => simp [lose1_nil]
theorem set_at (hs : List Hv) (k : Nat) : hs.set k (hs.getD k hN) = hs := by
  apply List.ext_getElem?
  intro j
  rw [List.getElem?_set]
  split
  · rename_i e
    subst e
    split
    · rename_i h
      simp [List.getD, List.getElem?_eq_getElem h]
    · rename_i h
      rw [List.getElem?_eq_none (by omega)]
  · rfl
theorem tk_w0 (s : Sh) (k : Nat) : tk s k (w0 s k) = s := by
  unfold tk w0 at'
  simp only [lose_nil, set_at, List.append_nil, Nat.add_zero]
theorem step_tk {s : Sh} {k : Nat} (hk : k < s.hs.length) (x : Wk) : stepS (tk s k x) k = tk s k (wk1 x) := by
  have e : at' (tk s k x) k = x.h := by
    unfold at' tk
    simp [List.getD, List.getElem?_set, lose_len, hk]
  unfold stepS
  rw [e]
  unfold tk wk1
  simp only [List.append_assoc, Nat.add_assoc]
  congr 1
  apply List.ext_getElem?
  intro j
  rw [lose_get, List.getElem?_set, List.getElem?_set, List.getElem?_set, lose_get, lose_get]
  by_cases e : k = j
  · subst e
    simp [lose_len, hk]
  · have e2 : ¬ j = k := fun q => e q.symm
    simp only [e, e2, if_false]
    cases s.hs[j]? with
    | none => rfl
    | some h => simp [lose1_app]
theorem runs_tk {s : Sh} {k : Nat} (hk : k < s.hs.length) : ∀ (n : Nat) (x : Wk), runs (tk s k x) k n = tk s k (wk x n)
  | 0, x => rfl
  | n + 1, x => by
    have e : at' (tk s k x) k = x.h := by
      unfold at' tk
      simp [List.getD, List.getElem?_set, lose_len, hk]
    unfold runs wk
    rw [e]
    split
    · rw [step_tk hk, runs_tk hk n]
    · rfl
theorem runs_wk {s : Sh} {k : Nat} (hk : k < s.hs.length) (n : Nat) : runs s k n = tk s k (wk (w0 s k) n) := by
  have := runs_tk hk n (w0 s k)
  rwa [tk_w0] at this

/-- Where a step stores: within the memory. -/
def StOk (l : List UInt8) (p : Int × Int) : Prop := 0 ≤ p.1 ∧ 0 < p.2 ∧ p.1 + p.2 ≤ l.length
theorem sto_st {l : List UInt8} {op a : Int} (ha : 0 ≤ a) (h : stOk l op a = true) : StOk l (a, (ssz op : Nat)) := by
  unfold stOk thr at h
  rw [decide_eq_true_eq] at h
  exact ⟨ha, by simpa using h.1, h.2.2⟩
theorem eff_sto {h : Hv} (o : h.Ok) (l : List UInt8) {op a b n : Int} (ha : W a) : ∀ p ∈ (eff h l op a b n).sto, StOk l p := by
  unfold eff
  intro p hp
  split at hp
  · simp at hp
  split at hp
  · simp at hp
  split at hp
  · simp at hp
  split at hp
  · unfold efLoad at hp; split at hp <;> simp at hp
  split at hp
  · unfold efStore at hp
    split at hp
    · simp at hp
      subst hp
      exact sto_st (W.lo _).1 (by assumption)
    · simp at hp
  split at hp
  · simp at hp
  split at hp
  · simp at hp
  split at hp
  · unfold efAtom at hp
    split at hp
    · unfold efLr at hp; split at hp <;> simp at hp
    split at hp
    · unfold efSc at hp
      split at hp
      · split at hp
        · simp at hp
          subst hp
          exact sto_st (op := 18) ha.1 (st_of_ld (by assumption))
        · simp at hp
      · simp at hp
    · unfold efAmo at hp
      split at hp
      · simp at hp
        subst hp
        exact sto_st (op := 18) ha.1 (st_of_ld (by assumption))
      · simp at hp
  split at hp
  · unfold efCall at hp
    split at hp
    · simp at hp
    · split at hp <;> simp at hp
  split at hp <;> simp at hp
theorem stp_sto {h : Hv} (o : h.Ok) (l : List UInt8) : (∀ p ∈ (stp h l).sto, StOk l p) ∧ (stp h l).sto.length ≤ 1 := by
  unfold stp insW ins
  split
  · split
    · exact ⟨fun p hp => by simp at hp, by simp⟩
    · exact ⟨eff_sto o l (W.reg o _), (eff_ok o l (W.reg o _) (W.reg o _) (W.lo _)).sto⟩
  · exact ⟨fun p hp => by simp at hp, by simp⟩

/-- What is true of a hart at its work: it may be, its memory is of n bytes, no more came out and no more was stored than steps were done, and what was stored lies in the memory. -/
structure WOk (x : Wk) (n : Nat) : Prop where
  ok : x.h.Ok
  may : may x.h = true
  mem : x.m.length = n
  out : x.out.length ≤ x.n
  sto : x.sto.length ≤ x.n
  bd : ∀ p ∈ x.sto, 0 ≤ p.1 ∧ 0 < p.2 ∧ p.1 + p.2 ≤ n
theorem wk1_ok {x : Wk} {n : Nat} (o : WOk x n) (hr : x.h.state = 0) : WOk (wk1 x) n := by
  have g := good_stp (rn_of o.may hr) x.m
  have s := stp_sto o.ok x.m
  refine ⟨stp_ok o.ok x.m, g.1, g.2.1.trans o.mem, ?_, ?_, fun p hp => ?_⟩
  · have := g.2.2.2.1; have := o.out; simp only [wk1, List.length_append]; omega
  · have := s.2; have := o.sto; simp only [wk1, List.length_append]; omega
  · rcases List.mem_append.1 hp with h | h
    · exact o.bd p h
    · have := s.1 p h
      unfold StOk at this
      rwa [o.mem] at this
theorem w0_ok {s : Sh} {c n k : Nat} (f : Fit s c n) (hk : k < c) : WOk (w0 s k) n := by
  have hl : k < s.hs.length := by rw [f.len]; exact hk
  have eh : s.hs[k]? = some (at' s k) := by unfold at'; rw [List.getElem?_eq_getElem hl]; simp [List.getD, hl]
  obtain ⟨ok, mk⟩ := f.ok _ (mem_of_get eh)
  exact ⟨ok, mk, f.mem, Nat.le_refl _, Nat.le_refl _, fun p hp => by simp [w0] at hp⟩

/-- The harts, of the first j, that lose by a store of hart k. -/
def loses (k : Nat) (p : Int × Int) (j : Nat) (h : Hv) : Bool := decide (j ≠ k) && (h.held && near h.heldAt p.1 p.2)
def lostU (k : Nat) (p : Int × Int) (hs : List Hv) : Nat → List (Nat × Int)
  | 0 => []
  | j + 1 => lostU k p hs j ++ (if loses k p j (hs.getD j hN) = true then [(j, (hs.getD j hN).heldAt)] else [])
theorem lostU_len (k : Nat) (p : Int × Int) (hs : List Hv) : ∀ j, (lostU k p hs j).length ≤ j
  | 0 => Nat.le_refl _
  | j + 1 => by
    have := lostU_len k p hs j
    unfold lostU
    rw [List.length_append]
    split
    · simp; omega
    · simp; omega
theorem lostU_lt (k : Nat) (p : Int × Int) (hs : List Hv) : ∀ j, ∀ q ∈ lostU k p hs j, q.1 < j
  | 0, q, h => by simp [lostU] at h
  | j + 1, q, h => by
    unfold lostU at h
    rcases List.mem_append.1 h with h | h
    · have := lostU_lt k p hs j q h; omega
    · split at h
      · simp at h; subst h; simp
      · simp at h
/-- They lose what they had reserved. -/
def drops (hs : List Hv) (ls : List (Nat × Int)) : List Hv := ls.foldl (fun hs l => hs.set l.1 ((hs.getD l.1 hN).hold false 0)) hs
theorem drops_app (hs : List Hv) (a b : List (Nat × Int)) : drops hs (a ++ b) = drops (drops hs a) b := List.foldl_append
theorem drops_len : ∀ (ls : List (Nat × Int)) (hs : List Hv), (drops hs ls).length = hs.length
  | [], hs => rfl
  | l :: r, hs => by
    show (drops (hs.set l.1 _) r).length = _
    rw [drops_len r]; simp
theorem drops_lost (k : Nat) (p : Int × Int) (hs : List Hv) : ∀ j, j ≤ hs.length → ∀ i, (drops hs (lostU k p hs j))[i]? = if i < j then (lose k [p] hs)[i]? else hs[i]?
  | 0, _, i => by simp [lostU, drops]
  | j + 1, hj, i => by
    have ih := drops_lost k p hs j (by omega)
    have ej : (drops hs (lostU k p hs j)).getD j hN = hs.getD j hN := by
      simp only [List.getD]
      rw [ih j, if_neg (by omega)]
    have hjl : j < hs.length := by omega
    have eg : hs[j]? = some (hs.getD j hN) := by rw [List.getElem?_eq_getElem hjl]; simp [List.getD, hjl]
    have el : (lose k [p] hs)[j]? = some (if loses k p j (hs.getD j hN) = true then (hs.getD j hN).hold false 0 else hs.getD j hN) := by
      rw [lose_get, eg, Option.map_some]
      congr 1
      generalize hs.getD j hN = h
      unfold lose1 loses nearS
      by_cases e : j = k
      · simp [e]
      · simp [e]
    unfold lostU
    rw [drops_app]
    by_cases hl : loses k p j (hs.getD j hN) = true
    · rw [if_pos hl] at el ⊢
      show ((drops hs (lostU k p hs j)).set j (((drops hs (lostU k p hs j)).getD j hN).hold false 0))[i]? = _
      rw [ej, List.getElem?_set]
      by_cases e : j = i
      · subst e
        rw [if_pos rfl, if_pos (by rw [drops_len]; exact hjl), if_pos (by omega), el]
      · rw [if_neg e, ih i]
        by_cases h2 : i < j
        · rw [if_pos h2, if_pos (by omega)]
        · rw [if_neg h2, if_neg (by omega)]
    · rw [if_neg hl] at el ⊢
      show (drops hs (lostU k p hs j))[i]? = _
      rw [ih i]
      by_cases e : i = j
      · subst e
        rw [if_neg (by omega), if_pos (by omega), el, eg]
      · by_cases h2 : i < j
        · rw [if_pos h2, if_pos (by omega)]
        · rw [if_neg h2, if_neg (by omega)]
theorem drops_all (k : Nat) (p : Int × Int) (hs : List Hv) : drops hs (lostU k p hs hs.length) = lose k [p] hs := by
  apply List.ext_getElem?
  intro i
  rw [drops_lost k p hs _ (Nat.le_refl _) i]
  split
  · rfl
  · rename_i h
    rw [List.getElem?_eq_none (by omega), List.getElem?_eq_none (by rw [lose_len]; omega)]
theorem lose_app (k : Nat) (a b : List (Int × Int)) (hs : List Hv) : lose k (a ++ b) hs = lose k b (lose k a hs) := by
  apply List.ext_getElem?
  intro j
  rw [lose_get, lose_get, lose_get]
  cases hs[j]? with
  | none => rfl
  | some h =>
    simp only [Option.map_some]
    split
    · rfl
    · rw [lose1_app]
theorem lose_ok {k : Nat} {ss : List (Int × Int)} {hs : List Hv} (o : ∀ h ∈ hs, h.Ok) : ∀ h ∈ lose k ss hs, h.Ok := by
  intro h hm
  obtain ⟨j, hj⟩ := List.getElem?_of_mem hm
  rw [lose_get] at hj
  cases hq : hs[j]? with
  | none => rw [hq] at hj; cases hj
  | some q =>
    rw [hq] at hj
    have oq := o q (List.mem_of_getElem? hq)
    simp only [Option.map_some] at hj
    obtain rfl := Option.some.inj hj
    split
    · exact oq
    · unfold lose1
      split
      · exact oq.hold false (x := 0) (by omega) (by omega)
      · exact oq
/-- The program's test: it adds in 64 bits. -/
theorem meets_near {x f k n : Int} (hx0 : 0 ≤ x) (hx : x < 4294967296) (h0 : 0 ≤ f) (hk : 0 < k) (hf : f + k ≤ n) (hn : n ≤ 4096) : near x f k = (decide (x < f + k) && decide (f < x + 4)) := by
  unfold near
  by_cases a : x < f + k <;> by_cases b : f < x + 4 <;> simp [a, b, hk]
end Go.Proofs.YtdiofidmlgliiaaDoor.Mc
/-
  Steps that are taken back, as plain data: no program in sight. What is proved here: a step changes its hart, the bytes that it stores in, and what other harts have reserved, and nothing else; so that a run whose last steps are taken back is the run without them.
-/
namespace Go.Proofs.YtdiofidmlgliiaaDoor.Ud
open Mm Hh Wd Mc
set_option linter.unusedVariables false
set_option linter.unusedSimpArgs false

/-- What a step has changed: the hart that did it, as it was; the bytes from fr on; which harts lost what they had reserved. -/
structure Uv where
  k : Int
  was : Hv
  fr : Int
  bs : List UInt8
  lost : List (Int × Int)
/-- Bytes laid over others. -/
def lay (m : List UInt8) (f : Nat) (bs : List UInt8) : List UInt8 := m.take f ++ bs ++ m.drop (f + bs.length)
/-- Harts that have reserved again. -/
def gives (hs : List Hv) (ls : List (Int × Int)) : List Hv := ls.foldl (fun hs l => hs.set l.1.toNat ((hs.getD l.1.toNat hN).hold true l.2)) hs
/-- A step taken back. -/
def back1 (s : List Hv × List UInt8) (u : Uv) : List Hv × List UInt8 := (gives (s.1.set u.k.toNat u.was) u.lost, lay s.2 u.fr.toNat u.bs)
/-- All of them, the last one first. -/
def backs (s : List Hv × List UInt8) (l : List Uv) : List Hv × List UInt8 := l.foldr (fun u s => back1 s u) s
theorem backs_snoc (s : List Hv × List UInt8) (l : List Uv) (u : Uv) : backs s (l ++ [u]) = backs (back1 s u) l := by simp [backs]
def lostI (l : List (Nat × Int)) : List (Int × Int) := l.map fun q => ((q.1 : Int), q.2)
/-- What the next step of hart k changes. -/
def undoOf (s : Sh) (k : Nat) : List (Int × Int) → Uv
  | [] => ⟨k, at' s k, 0, [], []⟩
  | p :: _ => ⟨k, at' s k, p.1, (s.m.drop p.1.toNat).take p.2.toNat, lostI (lostU k p s.hs s.hs.length)⟩
def undoS (s : Sh) (k : Nat) : Uv := undoOf s k (stp (at' s k) s.m).sto
/-- Steps, a hart's number each. -/
def dos (s : Sh) (t : List Nat) : Sh := t.foldl stepS s
def trR (s : Sh) (k : Nat) : Nat → List Nat
  | 0 => []
  | n + 1 => if (at' s k).state = 0 then k :: trR (stepS s k) k n else []
def trP (s : Sh) : List (Nat × Nat) → List Nat
  | [] => []
  | p :: r => trR s p.1 p.2 ++ trP (runs s p.1 p.2) r
/-- What each has changed. -/
def uns (s : Sh) : List Nat → List Uv
  | [] => []
  | k :: t => undoS s k :: uns (stepS s k) t
theorem dos_app (s : Sh) (a b : List Nat) : dos s (a ++ b) = dos (dos s a) b := List.foldl_append
theorem uns_app : ∀ (a : List Nat) (s : Sh) (b : List Nat), uns s (a ++ b) = uns s a ++ uns (dos s a) b
  | [], s, b => rfl
  | k :: t, s, b => by
    show undoS s k :: uns (stepS s k) (t ++ b) = _
    rw [uns_app t]
    rfl
theorem uns_len : ∀ (t : List Nat) (s : Sh), (uns s t).length = t.length
  | [], s => rfl
  | k :: t, s => by simp [uns, uns_len t]
theorem dos_steps : ∀ (t : List Nat) (s : Sh), (dos s t).steps = s.steps + t.length
  | [], s => rfl
  | k :: t, s => by
    show (dos (stepS s k) t).steps = _
    rw [dos_steps t]
    show s.steps + 1 + t.length = s.steps + (t.length + 1)
    omega
theorem runs_dos (k : Nat) : ∀ (n : Nat) (s : Sh), runs s k n = dos s (trR s k n)
  | 0, s => rfl
  | n + 1, s => by
    unfold runs trR
    split
    · rw [runs_dos k n]; rfl
    · rfl
theorem play_dos : ∀ (sc : List (Nat × Nat)) (s : Sh), play s sc = dos s (trP s sc)
  | [], s => rfl
  | p :: r, s => by rw [play_cons, play_dos r, trP, dos_app, ← runs_dos]
theorem trR_len (k : Nat) : ∀ (n : Nat) (s : Sh), (trR s k n).length ≤ n
  | 0, s => Nat.le_refl _
  | n + 1, s => by
    unfold trR
    split
    · have := trR_len k n (stepS s k); simp; omega
    · simp
theorem trP_app : ∀ (a : List (Nat × Nat)) (s : Sh) (b : List (Nat × Nat)), trP s (a ++ b) = trP s a ++ trP (play s a) b
  | [], s, b => rfl
  | p :: r, s, b => by
    show trR s p.1 p.2 ++ trP (runs s p.1 p.2) (r ++ b) = _
    rw [trP_app r, ← List.append_assoc, play_cons]
    rfl
/-- Of a pick the first steps: fewer of them. -/
theorem trR_take (k : Nat) : ∀ (a b : Nat) (s : Sh), a ≤ b → trR s k a = (trR s k b).take a
  | 0, b, s, _ => by simp [trR]
  | a + 1, 0, s, h => by omega
  | a + 1, b + 1, s, h => by
    unfold trR
    split
    · rw [List.take_succ_cons, trR_take k a b _ (by omega)]
    · rfl
/-- Each step is one of a hart that runs. -/
def Live : Sh → List Nat → Prop
  | _, [] => True
  | s, k :: t => k < s.hs.length ∧ (at' s k).state = 0 ∧ Live (stepS s k) t
theorem step_len (s : Sh) (k : Nat) : (stepS s k).hs.length = s.hs.length := by simp [stepS, lose_len]
theorem runs_len (k : Nat) : ∀ (n : Nat) (s : Sh), (runs s k n).hs.length = s.hs.length
  | 0, s => rfl
  | n + 1, s => by
    unfold runs
    split
    · rw [runs_len k n, step_len]
    · rfl
theorem trR_live {k : Nat} : ∀ (n : Nat) (s : Sh), k < s.hs.length → Live s (trR s k n)
  | 0, s, _ => trivial
  | n + 1, s, h => by
    unfold trR
    split
    · exact ⟨h, by assumption, trR_live n _ (by rw [step_len]; exact h)⟩
    · trivial
theorem live_app : ∀ {a : List Nat} {s : Sh} {b : List Nat}, Live s a → Live (dos s a) b → Live s (a ++ b)
  | [], s, b, _, h => h
  | k :: t, s, b, h, g => ⟨h.1, h.2.1, live_app h.2.2 g⟩
theorem live_cut : ∀ {a : List Nat} {s : Sh} {b : List Nat}, Live s (a ++ b) → Live (dos s a) b
  | [], s, b, h => h
  | k :: t, s, b, h => live_cut (a := t) (s := stepS s k) h.2.2
theorem trP_live : ∀ (sc : List (Nat × Nat)) (s : Sh), (∀ p ∈ sc, p.1 < s.hs.length) → Live s (trP s sc)
  | [], s, _ => trivial
  | p :: r, s, h => by
    refine live_app (trR_live _ _ (h p (by simp))) ?_
    rw [← runs_dos]
    exact trP_live r _ (fun q hq => by rw [runs_len]; exact h q (by simp [hq]))
theorem live_head {a b : List Nat} {s : Sh} (h : Live s (a ++ b)) : Live s a := by
  induction a generalizing s with
  | nil => trivial
  | cons k t ih => exact ⟨h.1, h.2.1, ih h.2.2⟩
theorem dos_fit {c n : Nat} : ∀ {t : List Nat} {s : Sh}, Live s t → Fit s c n → Fit (dos s t) c n
  | [], s, _, f => f
  | k :: t, s, h, f => dos_fit (t := t) h.2.2 (step_fit f (by rw [← f.len]; exact h.1) h.2.1)

/-- What a store leaves. -/
theorem put_off (l : List UInt8) (a : Nat) (w : Int) : ∀ (n i : Nat), i < a ∨ a + n ≤ i → (put l a w n)[i]? = l[i]?
  | 0, i, _ => rfl
  | n + 1, i, h => by
    unfold put
    rw [List.getElem?_set_ne (by omega), put_off l a w n i (by omega)]
/-- A step's memory: as it was, but where it stored. -/
def Off (l m' : List UInt8) (sto : List (Int × Int)) : Prop := (sto = [] ∧ m' = l) ∨ ∃ p, sto = [p] ∧ m'.length = l.length ∧ ∀ i : Nat, i < p.1.toNat ∨ p.1.toNat + p.2.toNat ≤ i → m'[i]? = l[i]?
theorem off_st {l : List UInt8} {op a b : Int} (h : stOk l op a = true) : Off l (stL l op a b) [(a, (ssz op : Nat))] := by
  refine .inr ⟨_, rfl, ?_, fun i hi => ?_⟩
  · unfold stL; rw [if_pos h, len_put]
  · unfold stL; rw [if_pos h, put_off _ _ _ _ _ (by simpa using hi)]
theorem eff_off (h : Hv) (l : List UInt8) (op a b n : Int) : Off l (eff h l op a b n).m (eff h l op a b n).sto := by
  have z : ∀ {m : List UInt8}, m = l → Off l m [] := fun e => .inl ⟨rfl, e⟩
  unfold eff
  split
  · exact z rfl
  split
  · exact z rfl
  split
  · exact z rfl
  split
  · unfold efLoad; split <;> exact z rfl
  split
  · unfold efStore; split
    · exact off_st (by assumption)
    · exact z rfl
  split
  · exact z rfl
  split
  · exact z rfl
  split
  · unfold efAtom; split
    · unfold efLr; split <;> exact z rfl
    · split
      · unfold efSc; split
        · split
          · exact off_st (op := 18) (st_of_ld (by assumption))
          · exact z rfl
        · exact z rfl
      · unfold efAmo; split
        · exact off_st (op := 18) (st_of_ld (by assumption))
        · exact z rfl
  split
  · unfold efCall; split
    · exact z rfl
    · split <;> exact z rfl
  split <;> exact z rfl
theorem stp_off (h : Hv) (l : List UInt8) : Off l (stp h l).m (stp h l).sto := by
  unfold stp insW ins
  split
  · split
    · exact .inl ⟨rfl, rfl⟩
    · exact eff_off _ _ _ _ _ _
  · exact .inl ⟨rfl, rfl⟩
theorem lay_nil (m : List UInt8) : lay m 0 [] = m := by simp [lay]
theorem lay_back {l m' : List UInt8} {f n : Nat} (hl : m'.length = l.length) (hf : f + n ≤ l.length) (h : ∀ i : Nat, i < f ∨ f + n ≤ i → m'[i]? = l[i]?) : lay m' f ((l.drop f).take n) = l := by
  have e1 : m'.take f = l.take f := by
    apply List.ext_getElem?
    intro i
    rw [List.getElem?_take, List.getElem?_take]
    split
    · exact h i (.inl (by assumption))
    · rfl
  have e2 : ((l.drop f).take n).length = n := by simp; omega
  have e3 : m'.drop (f + n) = l.drop (f + n) := by
    apply List.ext_getElem?
    intro i
    rw [List.getElem?_drop, List.getElem?_drop]
    exact h _ (.inr (by omega))
  unfold lay
  rw [e1, e2, e3, List.append_assoc, ← List.drop_drop, List.take_append_drop, List.take_append_drop]
theorem gives_app (hs : List Hv) (a b : List (Int × Int)) : gives hs (a ++ b) = gives (gives hs a) b := List.foldl_append
theorem gives_len : ∀ (ls : List (Int × Int)) (hs : List Hv), (gives hs ls).length = hs.length
  | [], hs => rfl
  | l :: r, hs => by
    show (gives (hs.set l.1.toNat _) r).length = _
    rw [gives_len r]; simp
theorem hold_back {h : Hv} (e : h.held = true) : (h.hold false 0).hold true h.heldAt = h := by
  cases h
  simp only at e
  subst e
  rfl
theorem gives_lost (k : Nat) (p : Int × Int) (hs : List Hv) : ∀ j, j ≤ hs.length → ∀ i, (gives (lose k [p] hs) (lostI (lostU k p hs j)))[i]? = if i < j then hs[i]? else (lose k [p] hs)[i]?
  | 0, _, i => by simp [lostU, lostI, gives]
  | j + 1, hj, i => by
    have ih := gives_lost k p hs j (by omega)
    have hjl : j < hs.length := by omega
    have eg : hs[j]? = some (hs.getD j hN) := by rw [List.getElem?_eq_getElem hjl]; simp [List.getD, hjl]
    have el : (lose k [p] hs)[j]? = some (if loses k p j (hs.getD j hN) = true then (hs.getD j hN).hold false 0 else hs.getD j hN) := by
      rw [lose_get, eg, Option.map_some]
      congr 1
      generalize hs.getD j hN = h
      unfold lose1 loses nearS
      by_cases e : j = k
      · simp [e]
      · simp [e]
    have ej : (gives (lose k [p] hs) (lostI (lostU k p hs j))).getD j hN = (if loses k p j (hs.getD j hN) = true then (hs.getD j hN).hold false 0 else hs.getD j hN) := by
      simp only [List.getD]
      rw [ih j, if_neg (by omega), el]
      rfl
    have ea : lostI (lostU k p hs (j + 1)) = lostI (lostU k p hs j) ++ (if loses k p j (hs.getD j hN) = true then [((j : Int), (hs.getD j hN).heldAt)] else []) := by
      rw [lostU]
      unfold lostI
      rw [List.map_append]
      split <;> rfl
    rw [ea, gives_app]
    by_cases hl : loses k p j (hs.getD j hN) = true
    · have hh : (hs.getD j hN).held = true := by
        unfold loses at hl
        simp only [Bool.and_eq_true] at hl
        exact hl.2.1
      rw [if_pos hl] at el ej ⊢
      show ((gives (lose k [p] hs) (lostI (lostU k p hs j))).set (j : Int).toNat (((gives (lose k [p] hs) (lostI (lostU k p hs j))).getD (j : Int).toNat hN).hold true (hs.getD j hN).heldAt))[i]? = _
      rw [Int.toNat_natCast, ej, hold_back hh, List.getElem?_set]
      by_cases e : j = i
      · subst e
        rw [if_pos rfl, if_pos (by rw [gives_len, lose_len]; exact hjl), if_pos (by omega), eg]
      · rw [if_neg e, ih i]
        by_cases h2 : i < j
        · rw [if_pos h2, if_pos (by omega)]
        · rw [if_neg h2, if_neg (by omega)]
    · rw [if_neg hl] at el ej ⊢
      show (gives (lose k [p] hs) (lostI (lostU k p hs j)))[i]? = _
      rw [ih i]
      by_cases e : i = j
      · subst e
        rw [if_neg (by omega), if_pos (by omega), el, eg]
      · by_cases h2 : i < j
        · rw [if_pos h2, if_pos (by omega)]
        · rw [if_neg h2, if_neg (by omega)]
theorem gives_all (k : Nat) (p : Int × Int) (hs : List Hv) : gives (lose k [p] hs) (lostI (lostU k p hs hs.length)) = hs := by
  apply List.ext_getElem?
  intro i
  rw [gives_lost k p hs _ (Nat.le_refl _) i]
  split
  · rfl
  · rename_i h
    rw [List.getElem?_eq_none (by rw [lose_len]; omega), List.getElem?_eq_none (by omega)]
theorem set_lose (s : Sh) (k : Nat) (hk : k < s.hs.length) (ss : List (Int × Int)) (h' : Hv) : (lose k ss (s.hs.set k h')).set k (at' s k) = lose k ss s.hs := by
  apply List.ext_getElem?
  intro i
  rw [List.getElem?_set, lose_get, lose_get, lose_len, List.getElem?_set]
  by_cases e : k = i
  · subst e
    simp only [if_true, List.length_set, hk]
    unfold at'
    simp [List.getD, hk]
  · simp only [e, if_false]
/-- A step, taken back. -/
theorem back_step {s : Sh} {c n k : Nat} (F : Fit s c n) (hk : k < c) : back1 ((stepS s k).hs, (stepS s k).m) (undoS s k) = (s.hs, s.m) := by
  have hl : k < s.hs.length := by rw [F.len]; exact hk
  have eh : s.hs[k]? = some (at' s k) := by unfold at'; rw [List.getElem?_eq_getElem hl]; simp [List.getD, hl]
  have ok := (F.ok _ (mem_of_get eh)).1
  have O := stp_off (at' s k) s.m
  have S := (stp_sto ok s.m).1
  unfold undoS stepS
  generalize stp (at' s k) s.m = x at *
  obtain ⟨xh, xm, xo, xs⟩ := x
  simp only at *
  rcases O with ⟨rfl, rfl⟩ | ⟨p, rfl, hm, ho⟩
  · unfold back1 undoOf
    have z := set_lose s k hl [] xh
    rw [lose_nil, lose_nil] at z
    simp only [Int.toNat_natCast, lose_nil, lay_nil, Int.toNat_zero]
    rw [z]
    rfl
  · obtain ⟨p0, p1, p2⟩ := S p (by simp)
    unfold back1 undoOf
    simp only [Int.toNat_natCast, set_lose s k hl]
    rw [gives_all, lay_back hm (by omega) ho]
theorem backs_dos {c n : Nat} : ∀ (t : List Nat) (s : Sh), Fit s c n → Live s t → backs ((dos s t).hs, (dos s t).m) (uns s t) = (s.hs, s.m)
  | [], s, _, _ => rfl
  | k :: t, s, F, L => by
    have hk : k < c := by rw [← F.len]; exact L.1
    have ih := backs_dos t (stepS s k) (step_fit F hk L.2.1) L.2.2
    show back1 (backs ((dos (stepS s k) t).hs, (dos (stepS s k) t).m) (uns (stepS s k) t)) (undoS s k) = _
    rw [ih, back_step F hk]
/-- The last steps taken back: the run without them. -/
theorem backs_cut {c n : Nat} {t : List Nat} {s : Sh} (F : Fit s c n) (L : Live s t) (j : Nat) (hj : j ≤ t.length) : backs ((dos s t).hs, (dos s t).m) ((uns s t).drop j) = ((dos s (t.take j)).hs, (dos s (t.take j)).m) := by
  have e : t = t.take j ++ t.drop j := (List.take_append_drop j t).symm
  have e1 : dos s t = dos (dos s (t.take j)) (t.drop j) := by rw [← dos_app, List.take_append_drop]
  have e2 : (uns s t).drop j = uns (dos s (t.take j)) (t.drop j) := by
    have := uns_app (t.take j) s (t.drop j)
    rw [List.take_append_drop] at this
    rw [this, List.drop_append_of_le_length (by rw [uns_len]; simp; omega), List.drop_of_length_le (by rw [uns_len]; simp; omega), List.nil_append]
  rw [e] at L
  rw [e1, e2]
  exact backs_dos _ _ (dos_fit (live_head L) F) (live_cut L)

/-- An Undo can be one of a machine of c harts and mn bytes. -/
def fitU (c mn : Nat) (u : Uv) : Bool := decide (0 ≤ u.k ∧ u.k < c) && (may u.was && (decide (u.fr + u.bs.length ≤ mn) && u.lost.all fun q => decide (0 ≤ q.1 ∧ q.1 < c)))
/-- Its numbers are such as cells hold. -/
structure Uv.Ok (u : Uv) : Prop where
  was : u.was.Ok
  f0 : 0 ≤ u.fr
  f1 : u.fr < 4294967296
  lost : ∀ q ∈ u.lost, 0 ≤ q.2 ∧ q.2 < 4294967296
theorem lostU_mem (k : Nat) (p : Int × Int) (hs : List Hv) : ∀ j, ∀ q ∈ lostU k p hs j, q.1 < j ∧ q.2 = (hs.getD q.1 hN).heldAt
  | 0, q, h => by simp [lostU] at h
  | j + 1, q, h => by
    unfold lostU at h
    rcases List.mem_append.1 h with h | h
    · have := lostU_mem k p hs j q h; exact ⟨by omega, this.2⟩
    · split at h
      · simp at h; subst h; exact ⟨by simp, rfl⟩
      · simp at h
theorem undo_fit {s : Sh} {c n k : Nat} (F : Fit s c n) (hk : k < c) (hn : n ≤ 4096) : fitU c n (undoS s k) = true ∧ (undoS s k).Ok ∧ (undoS s k).bs.length ≤ 4096 ∧ (undoS s k).lost.length ≤ c := by
  have hl : k < s.hs.length := by rw [F.len]; exact hk
  have eh : s.hs[k]? = some (at' s k) := by unfold at'; rw [List.getElem?_eq_getElem hl]; simp [List.getD, hl]
  obtain ⟨ok, my⟩ := F.ok _ (mem_of_get eh)
  have O := stp_off (at' s k) s.m
  have S := (stp_sto ok s.m).1
  unfold undoS
  generalize (stp (at' s k) s.m).m = x1 at *
  generalize (stp (at' s k) s.m).sto = x2 at *
  rcases O with ⟨rfl, _⟩ | ⟨p, rfl, _, _⟩
  · unfold undoOf fitU
    refine ⟨by simp [my]; omega, ⟨ok, by simp, by simp, fun q hq => by simp at hq⟩, by simp, by simp⟩
  · obtain ⟨p0, p1, p2⟩ := S p (by simp)
    have hm := F.mem
    have hb : ((s.m.drop p.1.toNat).take p.2.toNat).length = p.2.toNat := by simp; omega
    have hu := lostU_mem k p s.hs s.hs.length
    have hul := lostU_len k p s.hs s.hs.length
    have hc := F.len
    unfold undoOf fitU
    refine ⟨?_, ⟨ok, p0, by show p.1 < _; omega, fun q hq => ?_⟩, by show ((s.m.drop p.1.toNat).take p.2.toNat).length ≤ _; rw [hb]; omega, by show (lostI _).length ≤ _; unfold lostI; rw [List.length_map]; omega⟩
    · simp only [my, Bool.true_and, Bool.and_eq_true, decide_eq_true_eq, List.all_eq_true, hb]
      refine ⟨by omega, by omega, fun q hq => ?_⟩
      obtain ⟨r, hr, rfl⟩ := List.mem_map.1 hq
      have := (hu r hr).1
      simp only
      omega
    · obtain ⟨r, hr, rfl⟩ := List.mem_map.1 hq
      have h1 := hu r hr
      have h2 : s.hs[r.1]? = some (s.hs.getD r.1 hN) := by rw [List.getElem?_eq_getElem h1.1]; simp [List.getD, h1.1]
      have o2 := (F.ok _ (mem_of_get h2)).1
      simp only
      rw [h1.2]
      exact ⟨o2.at0, o2.at1⟩
theorem uns_fit {c n : Nat} (hn : n ≤ 4096) : ∀ (t : List Nat) (s : Sh), Fit s c n → Live s t → ∀ u ∈ uns s t, fitU c n u = true ∧ u.Ok ∧ u.bs.length ≤ 4096 ∧ u.lost.length ≤ c
  | [], s, _, _, u, h => by simp [uns] at h
  | k :: t, s, F, L, u, h => by
    have hk : k < c := by rw [← F.len]; exact L.1
    rcases List.mem_cons.1 h with rfl | h
    · exact undo_fit F hk hn
    · exact uns_fit hn t _ (step_fit F hk L.2.1) L.2.2 u h
end Go.Proofs.YtdiofidmlgliiaaDoor.Ud
/-
  Harts and picks as slices; whether a script may be, as plain data.
-/
namespace Go.Proofs.YtdiofidmlgliiaaDoor.Mc
open Go.ChangeShapes Go.WideShapes Go.ChangeAt Go.RowKit Mm Hh
set_option linter.unusedVariables false

variable {w w' : World} {ao : Option Addr} {n : Nat} {α : Type}
/-- In world w, the slice at ao of n elements reads as the harts hs. -/
structure Hs (w : World) (ao : Option Addr) (n : Nat) (hs : List Hv) : Prop where
  len : hs.length = n
  ok : ∀ h ∈ hs, h.Ok
  spot : 0 < n → ∃ b o, ao = some ⟨b, o, none⟩ ∧ b < w.heap.size ∧ ∀ i h, hs[i]? = some h → w.rangeAt b (o + i * 37) (hL h)
/-- .. as the picks ps. -/
structure Ps (w : World) (ao : Option Addr) (n : Nat) (ps : List (Int × Int)) : Prop where
  len : ps.length = n
  spot : 0 < n → ∃ b o, ao = some ⟨b, o, none⟩ ∧ b < w.heap.size ∧ ∀ i p, ps[i]? = some p → w.cell? ⟨b, o + i * 2, none⟩ = some (.int .i64 p.1) ∧ w.cell? ⟨b, o + i * 2 + 1, none⟩ = some (.int .i64 p.2)
theorem Hs.of {hs : List Hv} (h : Hs w ao n hs) (g : Gr w w') : Hs w' ao n hs :=
  ⟨h.len, h.ok, fun hn => by
    obtain ⟨b, o, e, hb, hc⟩ := h.spot hn
    exact ⟨b, o, e, Nat.lt_of_lt_of_le hb g.size, fun i q hq j v hv => (g.cell _ (by exact hb)).trans (hc i q hq j v hv)⟩⟩
theorem Ps.of {ps : List (Int × Int)} (h : Ps w ao n ps) (g : Gr w w') : Ps w' ao n ps :=
  ⟨h.len, fun hn => by
    obtain ⟨b, o, e, hb, hc⟩ := h.spot hn
    exact ⟨b, o, e, Nat.lt_of_lt_of_le hb g.size, fun i q hq => ⟨(g.cell _ (by exact hb)).trans (hc i q hq).1, (g.cell _ (by exact hb)).trans (hc i q hq).2⟩⟩⟩
/-- A pick may be, of c harts. -/
def pickOk (c : Nat) (p : Int × Int) : Bool := decide (0 ≤ p.1 ∧ p.1 < c ∧ 0 ≤ p.2 ∧ p.2 ≤ 400)
/-- What is wrong (an Errno). -/
def wrong (m : List UInt8) (hs : List Hv) (ps : List (Int × Int)) : Int :=
  if 4096 < m.length ∨ hs.length < 1 ∨ 4 < hs.length then 2 else if hs.all may = false then 2 else if 300 < ps.length then 1 else if ps.all (pickOk hs.length) = false then 3 else 0
theorem all_take (f : α → Bool) (l : List α) (k : Nat) (x : α) (h : l[k]? = some x) : (l.take (k + 1)).all f = ((l.take k).all f && f x) := by
  rw [List.take_add_one, h]
  simp
theorem all_false {f : α → Bool} {l : List α} {k : Nat} {x : α} (h : l[k]? = some x) (hx : f x = false) : l.all f = false := by
  rw [List.all_eq_false]
  exact ⟨x, List.mem_of_getElem? h, by simp [hx]⟩
end Go.Proofs.YtdiofidmlgliiaaDoor.Mc
/-
  Harts in a row of the program's own: read, and written over, hart by hart and field by field.
-/
namespace Go.Proofs.YtdiofidmlgliiaaDoor.Mc
open Go.ChangeShapes Go.WideShapes Go.ChangeAt Go.RowKit Mm Hh
set_option linter.unusedVariables false
set_option linter.unusedSimpArgs false

variable {w : World} {g i j n : Nat} {hs : List Hv} {h h' : Hv}
/-- The cells of harts. -/
def hC (hs : List Hv) : List Value := hs.flatMap hL
theorem hC_len : ∀ {hs : List Hv}, (∀ h ∈ hs, h.Ok) → (hC hs).length = hs.length * 37
  | [], _ => rfl
  | h :: r, o => by
    have ih := hC_len (hs := r) (fun q hq => o q (by simp [hq]))
    unfold hC at ih ⊢
    simp only [List.flatMap_cons, List.length_append, List.length_cons, hL_len (o h (by simp)), ih]
    omega
theorem hC_get : ∀ {hs : List Hv}, (∀ h ∈ hs, h.Ok) → ∀ {i j : Nat} {h : Hv}, hs[i]? = some h → j < 37 → (hC hs)[i * 37 + j]? = (hL h)[j]?
  | [], _, i, j, h, hi, _ => by simp at hi
  | q :: r, o, 0, j, h, hi, hj => by
    simp at hi
    subst hi
    unfold hC
    rw [List.flatMap_cons, Nat.zero_mul, Nat.zero_add, List.getElem?_append_left (by rw [hL_len (o q (by simp))]; exact hj)]
  | q :: r, o, i + 1, j, h, hi, hj => by
    have ih := hC_get (hs := r) (fun q hq => o q (by simp [hq])) (i := i) (j := j) (h := h) (by simpa using hi) hj
    have lq := hL_len (o q (by simp))
    unfold hC at ih ⊢
    rw [List.flatMap_cons, List.getElem?_append_right (by omega), lq, ← ih]
    congr 1
    omega
theorem hC_set : ∀ {hs : List Hv}, (∀ h ∈ hs, h.Ok) → ∀ {i j : Nat} {h h' : Hv} {v : Value}, hs[i]? = some h → j < 37 → (hL h).set j v = hL h' → (hC hs).set (i * 37 + j) v = hC (hs.set i h')
  | [], _, i, j, h, h', v, hi, _, _ => by simp at hi
  | q :: r, o, 0, j, h, h', v, hi, hj, e => by
    simp at hi
    subst hi
    unfold hC
    rw [List.flatMap_cons, Nat.zero_mul, Nat.zero_add, List.set_append_left _ _ (by rw [hL_len (o q (by simp))]; exact hj), e]
    rfl
  | q :: r, o, i + 1, j, h, h', v, hi, hj, e => by
    have ih := hC_set (hs := r) (fun q hq => o q (by simp [hq])) (i := i) (j := j) (h := h) (h' := h') (v := v) (by simpa using hi) hj e
    have lq := hL_len (o q (by simp))
    unfold hC at ih ⊢
    rw [List.flatMap_cons, List.set_append_right _ _ (by omega), lq, show (i + 1) * 37 + j - 37 = i * 37 + j by omega, ih]
    rfl
/-- Block g is a row of the program's own that begins with the harts hs. -/
structure HRow (w : World) (g : Nat) (hs : List Hv) : Prop where
  ok : ∀ h ∈ hs, h.Ok
  row : ∃ rest : List Value, w.heap[g]? = some (.cells (hC hs ++ rest).toArray 70 (0, 0))
theorem HRow.cell (r : HRow w g hs) (hi : hs[i]? = some h) (hj : j < 37) : w.cell? ⟨g, i * 37 + j, none⟩ = (hL h)[j]? := by
  obtain ⟨rest, e⟩ := r.row
  have li : i < hs.length := (List.getElem?_eq_some_iff.1 hi).1
  rw [cr e, List.getElem?_toArray, List.getElem?_append_left (by rw [hC_len r.ok]; omega), hC_get r.ok hi hj]
theorem HRow.range (r : HRow w g hs) (hi : hs[i]? = some h) : w.rangeAt g (i * 37) (hL h) := fun j v hv => by
  have hj : j < 37 := by have := (List.getElem?_eq_some_iff.1 hv).1; rwa [hL_len (r.ok h (List.mem_of_getElem? hi))] at this
  rw [r.cell hi hj]
  exact hv
theorem HRow.fz (r : HRow w g hs) (j : Nat) : w.frozen? ⟨g, j, none⟩ = false := by
  obtain ⟨rest, e⟩ := r.row
  exact frozen_of_row _ _ j _ _ e
theorem HRow.there (r : HRow w g hs) (hi : hs[i]? = some h) : w.there g (i * 37) 37 := fun j hj => by
  refine ⟨?_, r.fz _⟩
  rw [r.cell hi hj, List.getElem?_eq_getElem (by rw [hL_len (r.ok h (List.mem_of_getElem? hi))]; exact hj)]
  rfl
theorem ok_set (o : ∀ h ∈ hs, h.Ok) (i : Nat) (o' : h'.Ok) : ∀ h ∈ hs.set i h', h.Ok := fun h hm => by
  rcases List.mem_or_eq_of_mem_set hm with h1 | rfl
  · exact o h h1
  · exact o'
/-- A field of hart i set. -/
theorem HRow.set (r : HRow w g hs) {v : Value} (hi : hs[i]? = some h) (hj : j < 37) (e : (hL h).set j v = hL h') (o' : h'.Ok) : HRow (w.setCell ⟨g, i * 37 + j, none⟩ v) g (hs.set i h') := by
  obtain ⟨rest, q⟩ := r.row
  have li : i < hs.length := (List.getElem?_eq_some_iff.1 hi).1
  refine ⟨ok_set r.ok i o', rest, ?_⟩
  rw [hss q]
  simp only [List.setIfInBounds_toArray]
  rw [List.set_append_left _ _ (by rw [hC_len r.ok]; omega), hC_set r.ok hi hj e]
/-- Many cells set, one behind the other: what the block holds. -/
theorem heap_setCells {t : Nat} (g : Nat) : ∀ (vs : List Value) (o : Nat) (w : World) (cs : List Value), w.heap[g]? = some (.cells cs.toArray t (0, 0)) → o + vs.length ≤ cs.length → (w.setCells g o vs).heap[g]? = some (.cells (cs.take o ++ vs ++ cs.drop (o + vs.length)).toArray t (0, 0))
  | [], o, w, cs, h, _ => by simp [World.setCells, h]
  | v :: r, o, w, cs, h, hl => by
    rw [World.setCells]
    have h1 := heap_setCell_same w g o _ _ v h
    simp only [List.setIfInBounds_toArray] at h1
    simp only [List.length_cons] at hl
    rw [heap_setCells g r (o + 1) _ (cs.set o v) h1 (by simp; omega)]
    have e1 : (cs.set o v).take (o + 1) = cs.take o ++ [v] := by
      rw [List.take_add_one, List.take_set, List.set_eq_of_length_le (by simp; omega)]
      simp [show o < cs.length by omega]
    have e2 : (cs.set o v).drop (o + 1 + r.length) = cs.drop (o + (r.length + 1)) := by
      rw [List.drop_set_of_lt (by omega)]
      congr 1
      omega
    rw [e1, e2]
    simp only [List.length_cons, List.append_assoc, List.cons_append, List.nil_append]
theorem hC_put : ∀ {hs : List Hv}, (∀ h ∈ hs, h.Ok) → ∀ {i : Nat} {h' : Hv}, i < hs.length → h'.Ok → (hC hs).take (i * 37) ++ hL h' ++ (hC hs).drop (i * 37 + 37) = hC (hs.set i h')
  | [], _, i, h', hi, _ => by simp at hi
  | q :: r, o, 0, h', hi, o' => by
    have lq := hL_len (o q (by simp))
    unfold hC
    rw [List.flatMap_cons, Nat.zero_mul, List.take_zero, List.nil_append, Nat.zero_add, List.drop_append, lq, List.drop_eq_nil_of_le (by omega)]
    simp [List.set_cons_zero]
  | q :: r, o, i + 1, h', hi, o' => by
    have ih := hC_put (hs := r) (fun q hq => o q (by simp [hq])) (i := i) (h' := h') (by simpa using hi) o'
    have lq := hL_len (o q (by simp))
    unfold hC at ih ⊢
    rw [List.flatMap_cons, List.take_append, List.drop_append, lq, List.take_of_length_le (by omega), List.drop_eq_nil_of_le (by omega), List.nil_append, show (i + 1) * 37 - 37 = i * 37 by omega, show (i + 1) * 37 + 37 - 37 = i * 37 + 37 by omega, List.set_cons_succ, List.flatMap_cons, ← ih]
    simp only [List.append_assoc]
/-- Hart i written over. -/
theorem HRow.put (r : HRow w g hs) (hi : i < hs.length) (o' : h'.Ok) : HRow (w.setCells g (i * 37) (hL h')) g (hs.set i h') := by
  obtain ⟨rest, q⟩ := r.row
  have lc := hC_len r.ok
  have l' := hL_len o'
  refine ⟨ok_set r.ok i o', rest, ?_⟩
  rw [heap_setCells g (hL h') (i * 37) w _ q (by rw [List.length_append, lc, l']; omega), l', List.take_append_of_le_length (by rw [lc]; omega), List.drop_append_of_le_length (by rw [lc]; omega), ← hC_put r.ok hi o']
  simp only [List.append_assoc]
/-- Behind append. -/
theorem HRow.own {base cap : Nat} (o : ∀ h ∈ hs, h.Ok) (h : w.ownsRow base 70 37 (.slice (some ⟨g, 0, none⟩) n cap) n (hC hs)) : HRow w g hs := by
  obtain ⟨_, hc⟩ := h
  rcases hc with ⟨h0, _⟩ | ⟨g', cap', cur, hv, hb, hg, hn, hm, hs', htake⟩
  · cases h0
  · simp only [Value.slice.injEq, Option.some.injEq, Addr.mk.injEq, true_and, and_true] at hv
    obtain ⟨rfl, rfl⟩ := hv
    refine ⟨o, cur.toList.drop (n * 37), ?_⟩
    rw [← htake, List.take_append_drop]
    exact hg
theorem hC_one (hs : List Hv) : ∀ u ∈ hC hs, u.oneCell' = true := by
  intro u hu
  obtain ⟨h, _, hm⟩ := List.mem_flatMap.1 hu
  have := Array.all_eq_true_iff_forall_mem.1 (one_hA h) u (by simpa [hA] using hm)
  exact this
/-- Harts that are appended: where they lie. -/
theorem Hs.src {ad : Addr} (h : Hs w (some ad) n hs) : ∀ j u, (hC hs)[j]? = some u → w.cell? (ad.add j) = some u := by
  intro j u hj
  have hl := hC_len h.ok
  have hjl : j < hs.length * 37 := by rw [← hl]; exact (List.getElem?_eq_some_iff.1 hj).1
  have hlen := h.len
  obtain ⟨b, o, e, _, hc⟩ := h.spot (by omega)
  obtain rfl := Option.some.inj e
  have hi : j / 37 < hs.length := by omega
  have e1 : hs[j / 37]? = some hs[j / 37] := List.getElem?_eq_getElem hi
  have g := hC_get h.ok (j := j % 37) e1 (by omega)
  rw [show j / 37 * 37 + j % 37 = j by omega, hj] at g
  have := hc _ _ e1 (j % 37) u g.symm
  rw [add_at]
  rwa [show o + j / 37 * 37 + j % 37 = o + j by omega] at this
end Go.Proofs.YtdiofidmlgliiaaDoor.Mc
/-
  What ferrybridgeref5.Wrong answers, of every machine and script.
-/
namespace Go.Proofs.YtdiofidmlgliiaaDoor.Mc
open Go.ChangeShapes Go.WideShapes Go.ChangeAt Go.RowKit Mm Hh
set_option linter.unusedVariables false
set_option linter.unusedSimpArgs false

theorem iH : (Tryd.prog.info? 70).map (·.size) = some 37 := by kernel_rfl
set_option maxHeartbeats 1000000 in
theorem Wrong_any (hmay : ∀ (h : Hv), h.Ok → ∀ W : World, Calls Tryd.prog 27 #[.agg (hA h)] W fun e w' => e = .returned (.bool (may h)) ∧ Gr W w')
    {ma ha pa : Option Addr} {hn pn : Nat} (mc hc pc : Nat) {m : List UInt8} {hs : List Hv} {ps : List (Int × Int)} {w : World} (mn : Nat) (hmn : m.length = mn) (H : Hs w ha hn hs) (P : Ps w pa pn ps) (b1 : mn ≤ 140737488351232) (b2 : hn ≤ 140737488351232) (b3 : pn ≤ 140737488351232) :
    Calls Tryd.prog 10 #[.agg #[.slice ma mn mc, .slice ha hn hc], .slice pa pn pc] w fun e w' => e = .returned (.int .i64 (wrong m hs ps)) ∧ Gr w w' := by
  have hl := H.len
  have pl := P.len
  by_cases c1 : 4096 < mn ∨ hn < 1 ∨ 4 < hn
  · have HE : Hid (wrong m hs ps = 2) := by unfold Hid wrong; rw [if_pos (by omega)]
    clear H P hmay
    have c2 : 4096 < mn ∨ (¬ 4096 < mn ∧ hn < 1) ∨ (¬ 4096 < mn ∧ ¬ hn < 1 ∧ 4 < hn) := by omega
    clear c1
    rcases c2 with c | ⟨c, d⟩ | ⟨c, d, e⟩
    all_goals
      go_enter Tryd.func10, Tryd.ntmps10
      go_wp2
      go_ret
      exact ⟨ret_int HE.out.symm, (Gr.refl _).alloc _⟩
  · have n1 : ¬ 4096 < mn := by omega
    have n2 : ¬ hn < 1 := by omega
    have n3 : ¬ 4 < hn := by omega
    obtain ⟨b, o, rfl, hb, hcell⟩ := H.spot (by omega)
    have HW : Hid (wrong m hs ps = if hs.all may = false then 2 else if 300 < ps.length then 1 else if ps.all (pickOk hs.length) = false then 3 else 0) := by unfold Hid wrong; rw [if_neg (by omega)]
    have HK : Hid (∀ i h, hs[i]? = some h → w.rangeAt b (o + i * 37) (hL h)) := hcell
    have HO : Hid (∀ h ∈ hs, h.Ok) := H.ok
    have HP : Hid (Ps w pa pn ps) := P
    have HM : Hid (∀ (h : Hv), h.Ok → ∀ W : World, Calls Tryd.prog 27 #[.agg (hA h)] W fun e w' => e = .returned (.bool (may h)) ∧ Gr W w') := hmay
    have HL : Hid (hs.length = hn) := hl
    have PL : Hid (ps.length = pn) := pl
    clear hcell H P hmay c1 hl pl hmn
    go_enter Tryd.func10, Tryd.ntmps10
    go_wp2
    go_loopw [5] (fun i wr => ∃ k : Nat, k ≤ hn ∧ i = .int .i64 k ∧ (hs.take k).all may = true ∧ Gr (w.alloc (.cells #[.slice ma mn mc, .slice (some ⟨b, o, none⟩) hn hc] 34)) wr) (fun i _ => hn - (intOf i).toNat)
    case atStart => exact ⟨0, Nat.zero_le _, rfl, rfl, Gr.refl _⟩
    case round =>
      obtain ⟨k, hk, rfl, hall, G⟩ := hrel
      have HB : Hid (wr.heap[w.heap.size]? = some (.cells #[.slice ma mn mc, .slice (some ⟨b, o, none⟩) hn hc] 34 (0, 0))) := (G.block _ (by simp)).trans (heap_alloc_new w _)
      have k1 : wr.cell? ⟨w.heap.size, 1, none⟩ = some (.slice (some ⟨b, o, none⟩) hn hc) := cell_of_row _ _ _ _ _ _ HB.out
      have HG : Hid (Gr (w.alloc (.cells #[.slice ma mn mc, .slice (some ⟨b, o, none⟩) hn hc] 34)) wr) := G
      have HA : Hid ((hs.take k).all may = true) := hall
      clear G hall
      by_cases hlt : k < hn
      · obtain ⟨h, hh⟩ : ∃ h, hs[k]? = some h := ⟨_, List.getElem?_eq_getElem (by rw [HL.out]; exact hlt)⟩
        have HH : Hid (hs[k]? = some h) := hh
        have okh := HO.out h (List.mem_of_getElem? hh)
        have RG : Hid (wr.rangeAt b (o + k * 37) (hL h)) := fun j v hv => (HG.out.cell _ (by simp; omega)).trans (((Gr.refl w).alloc _).cell _ (by exact hb) |>.trans (HK.out k h hh j v hv))
        have HLL : Hid ((hL h).length = 37) := hL_len okh
        have M1 : Hid (∀ W : World, Calls Tryd.prog 27 #[.agg (hL h).toArray] W fun e w' => e = .returned (.bool (may h)) ∧ Gr W w') := fun W => HM.out h okh W
        clear hh okh
        cases hmb : may h with
        | true =>
          have M2 : Hid (∀ W : World, Calls Tryd.prog 27 #[.agg (hL h).toArray] W fun e w' => e = .returned (.bool true) ∧ Gr W w') := fun W => by have := M1.out W; rwa [hmb] at this
          have HN : Hid ((hs.take (k + 1)).all may = true) := by unfold Hid; rw [all_take may hs k h HH.out, HA.out, hmb]; rfl
          clear M1 hmb
          go_wp2_with (refine wpList_load_mid rfl 70 _ rfl b (o + k * 37) rfl (hL h) _ ?r1 Tryd.underlying70 rfl (by rw [HLL.out]; exact iH) ?_; (case r1 => exact RG.out))
          refine (M2.out _).mono ?_
          rintro e w1 ⟨rfl, G1⟩
          have HG1 : Hid (Gr (w.alloc (.cells #[.slice ma mn mc, .slice (some ⟨b, o, none⟩) hn hc] 34)) w1) := HG.out.trans G1
          clear G1 M2 k1 HG HB RG
          go_wp2_with fail
          go_roundw
          case rel => exact ⟨k + 1, by omega, by go_num, HN.out, HG1.out⟩
          case measure => simp [intOf]; omega
        | false =>
          have M2 : Hid (∀ W : World, Calls Tryd.prog 27 #[.agg (hL h).toArray] W fun e w' => e = .returned (.bool false) ∧ Gr W w') := fun W => by have := M1.out W; rwa [hmb] at this
          have HE : Hid (wrong m hs ps = 2) := by unfold Hid; rw [HW.out, if_pos (all_false HH.out hmb)]
          clear M1 hmb
          go_wp2_with (refine wpList_load_mid rfl 70 _ rfl b (o + k * 37) rfl (hL h) _ ?r1 Tryd.underlying70 rfl (by rw [HLL.out]; exact iH) ?_; (case r1 => exact RG.out))
          refine (M2.out _).mono ?_
          rintro e w1 ⟨rfl, G1⟩
          have HG1 : Hid (Gr w w1) := ((Gr.refl _).alloc _).trans (HG.out.trans G1)
          clear G1 M2 k1 HG HB RG
          go_wp2_with fail
          go_ret
          exact ⟨ret_int HE.out.symm, HG1.out⟩
      · have ek : k = hn := by omega
        have HAll : Hid (hs.all may = true) := by have := HA.out; rw [ek, ← HL.out, List.take_length] at this; exact this
        have HW2 : Hid (wrong m hs ps = if 300 < ps.length then 1 else if ps.all (pickOk hs.length) = false then 3 else 0) := by unfold Hid; rw [HW.out, HAll.out, if_neg (by simp)]
        have HG1 : Hid (Gr w wr) := ((Gr.refl _).alloc _).trans HG.out
        clear ek HA HW HAll
        by_cases c3 : 300 < pn
        · have HE : Hid (wrong m hs ps = 1) := by unfold Hid; rw [HW2.out, PL.out, if_pos c3]
          go_wp2_with fail
          go_ret
          exact ⟨ret_int HE.out.symm, HG1.out⟩
        · have HW3 : Hid (wrong m hs ps = if ps.all (pickOk hn) = false then 3 else 0) := by unfold Hid; rw [HW2.out, PL.out, HL.out, if_neg c3]
          clear HW2
          by_cases p0 : pn = 0
          · subst p0
            have HE : Hid (wrong m hs ps = 0) := by
              have : ps = [] := List.eq_nil_of_length_eq_zero PL.out
              unfold Hid; rw [HW3.out, this]; rfl
            go_wp2_with fail
            go_loopw [6] (fun i wq => i = .int .i64 0 ∧ wq = wr) (fun _ _ => 0)
            case atStart => exact ⟨rfl, rfl⟩
            case round =>
              obtain ⟨rfl, rfl⟩ := hrel
              go_wp2
              go_ret
              exact ⟨ret_int HE.out.symm, HG1.out⟩
          · obtain ⟨b', o', rfl, hb', hcell'⟩ := HP.out.spot (by omega)
            have HC : Hid (∀ i p, ps[i]? = some p → wr.cell? ⟨b', o' + i * 2, none⟩ = some (.int .i64 p.1) ∧ wr.cell? ⟨b', o' + i * 2 + 1, none⟩ = some (.int .i64 p.2)) := fun i p hp => ⟨(HG1.out.cell _ (by exact hb')).trans (hcell' i p hp).1, (HG1.out.cell _ (by exact hb')).trans (hcell' i p hp).2⟩
            clear hcell'
            go_wp2_with fail
            go_loopw [6] (fun i wq => ∃ j : Nat, j ≤ pn ∧ i = .int .i64 j ∧ (ps.take j).all (pickOk hn) = true ∧ ∃ q, wq = wr.drewN q) (fun i _ => pn - (intOf i).toNat)
            case atStart => exact ⟨0, Nat.zero_le _, rfl, rfl, 0, rfl⟩
            case round =>
              obtain ⟨j, hj, rfl, hall, q, rfl⟩ := hrel
              have HA : Hid ((ps.take j).all (pickOk hn) = true) := hall
              clear hall
              by_cases hlt2 : j < pn
              · obtain ⟨p, hp⟩ : ∃ p, ps[j]? = some p := ⟨_, List.getElem?_eq_getElem (by rw [PL.out]; exact hlt2)⟩
                obtain ⟨q0, q1⟩ := HC.out j p hp
                have HE : Hid (¬ (0 ≤ p.1 ∧ p.1 < hn ∧ 0 ≤ p.2 ∧ p.2 ≤ 400) → wrong m hs ps = 3) := fun hno => by rw [HW3.out, if_pos (all_false hp (by unfold pickOk; exact decide_eq_false hno))]
                have HN : Hid ((0 ≤ p.1 ∧ p.1 < hn ∧ 0 ≤ p.2 ∧ p.2 ≤ 400) → (ps.take (j + 1)).all (pickOk hn) = true) := fun hy => by
                  rw [all_take _ ps j p hp, HA.out, show pickOk hn p = true by unfold pickOk; exact decide_eq_true hy]; rfl
                clear hp
                obtain ⟨x, y⟩ := p
                simp only at *
                have hc : x < 0 ∨ (¬ x < 0 ∧ (hn : Int) ≤ x) ∨ (¬ x < 0 ∧ ¬ (hn : Int) ≤ x ∧ y < 0) ∨ (¬ x < 0 ∧ ¬ (hn : Int) ≤ x ∧ ¬ y < 0 ∧ 400 < y) ∨ (¬ x < 0 ∧ ¬ (hn : Int) ≤ x ∧ ¬ y < 0 ∧ ¬ 400 < y) := by omega
                rcases hc with h1 | ⟨h1, h2⟩ | ⟨h1, h2, h3⟩ | ⟨h1, h2, h3, h4⟩ | ⟨h1, h2, h3, h4⟩
                · have d1 : decide (x < 0) = true := by simpa using h1
                  go_wp2_with fail
                  go_quiet (fail)
                  go_wp2_with fail
                  go_ret
                  exact ⟨ret_int (HE.out (by omega)).symm, (HG1.out.drewN _).drewN _⟩
                · have d1 : decide (x < 0) = false := by simpa using h1
                  have d2 : decide ((hn : Int) ≤ x) = true := by simpa using h2
                  go_wp2_with fail
                  go_quiet (fail)
                  go_wp2_with fail
                  go_ret
                  exact ⟨ret_int (HE.out (by omega)).symm, (HG1.out.drewN _).drewN _⟩
                · have d1 : decide (x < 0) = false := by simpa using h1
                  have d2 : decide ((hn : Int) ≤ x) = false := by simpa using h2
                  have d3 : decide (y < 0) = true := by simpa using h3
                  go_wp2_with fail
                  go_quiet (fail)
                  go_wp2_with fail
                  go_ret
                  exact ⟨ret_int (HE.out (by omega)).symm, (HG1.out.drewN _).drewN _⟩
                · have d1 : decide (x < 0) = false := by simpa using h1
                  have d2 : decide ((hn : Int) ≤ x) = false := by simpa using h2
                  have d3 : decide (y < 0) = false := by simpa using h3
                  have d4 : decide (400 < y) = true := by simpa using h4
                  go_wp2_with fail
                  go_quiet (fail)
                  go_wp2_with fail
                  go_ret
                  exact ⟨ret_int (HE.out (by omega)).symm, (HG1.out.drewN _).drewN _⟩
                · have d1 : decide (x < 0) = false := by simpa using h1
                  have d2 : decide ((hn : Int) ≤ x) = false := by simpa using h2
                  have d3 : decide (y < 0) = false := by simpa using h3
                  have d4 : decide (400 < y) = false := by simpa using h4
                  go_wp2_with fail
                  go_quiet (fail)
                  go_wp2_with fail
                  go_roundw
                  case rel => exact ⟨j + 1, by omega, by go_num, HN.out (by omega), _, rfl⟩
                  case measure => simp [intOf]; omega
              · have HE : Hid (wrong m hs ps = 0) := by
                  have e : (ps.take j).all (pickOk hn) = true := HA.out
                  rw [show j = pn by omega, ← PL.out, List.take_length] at e
                  unfold Hid; rw [HW3.out, e]; rfl
                go_wp2
                go_ret
                exact ⟨ret_int HE.out.symm, HG1.out.drewN _⟩
end Go.Proofs.YtdiofidmlgliiaaDoor.Mc
