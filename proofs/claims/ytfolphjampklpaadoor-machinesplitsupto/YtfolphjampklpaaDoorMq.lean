/-
  A hart at its work over many steps, and what the others lose behind it, as plain data: so many steps done by one hart alone, and what it stored told to the others at their end, is the same as step by step.
-/
import Derived.Test.YtfolphjampklpaaDoorMp
namespace Go.Proofs.YtfolphjampklpaaDoor.Mc
open Mm Hh Wd
set_option linter.unusedVariables false
set_option linter.unusedSimpArgs false

/-- A hart at its work: the hart, the bytes, what came out, where was stored, how many steps were done. -/
structure Wk where
  h : Hv
  m : List UInt8
  out : List Int
  sto : List (Int × Int)
  n : Nat
def wk1 (x : Wk) : Wk := ⟨(stp x.h x.m).h, (stp x.h x.m).m, x.out ++ (stp x.h x.m).out, x.sto ++ (stp x.h x.m).sto, x.n + 1⟩
def wk (x : Wk) : Nat → Wk
  | 0 => x
  | n + 1 => if x.h.state = 0 then wk (wk1 x) n else x
theorem wk_stop {x : Wk} (h : ¬ x.h.state = 0) : ∀ n, wk x n = x
  | 0 => rfl
  | n + 1 => if_neg h
theorem wk_go {x : Wk} (h : x.h.state = 0) (n : Nat) : wk x (n + 1) = wk (wk1 x) n := if_pos h
/-- What it did is made true. -/
def tk (s : Sh) (k : Nat) (x : Wk) : Sh := ⟨(lose k x.sto s.hs).set k x.h, x.m, s.out ++ x.out, s.steps + x.n⟩
def w0 (s : Sh) (k : Nat) : Wk := ⟨at' s k, s.m, [], [], 0⟩
theorem lose1_nil (h : Hv) : lose1 [] h = h := by unfold lose1; rw [if_neg]; simp [nearS]
theorem lose1_app (a b : List (Int × Int)) (h : Hv) : lose1 (a ++ b) h = lose1 b (lose1 a h) := by
  unfold lose1
  have e : nearS h.heldAt (a ++ b) = (nearS h.heldAt a || nearS h.heldAt b) := by unfold nearS; rw [List.any_append]
  rw [e]
  by_cases hh : h.held = true
  · cases ha : nearS h.heldAt a with
    | true => simp [hh, Hv.hold]
    | false => simp [hh, ha]
  · simp [hh]
theorem lose_nil (k : Nat) (hs : List Hv) : lose k [] hs = hs := by
  apply List.ext_getElem?
  intro j
  rw [lose_get]
  cases hs[j]? with
  | none => rfl
  | some h => simp [lose1_nil]
theorem set_at (hs : List Hv) (k : Nat) : hs.set k (hs.getD k hN) = hs := by
  apply List.ext_getElem?
  intro j
  rw [List.getElem?_set]
  split
  · rename_i e
    subst e
    split
    · rename_i h
      simp [List.getD, List.getElem?_eq_getElem h]
    · rename_i h
      rw [List.getElem?_eq_none (by omega)]
  · rfl
theorem tk_w0 (s : Sh) (k : Nat) : tk s k (w0 s k) = s := by
  unfold tk w0 at'
  simp only [lose_nil, set_at, List.append_nil, Nat.add_zero]
theorem step_tk {s : Sh} {k : Nat} (hk : k < s.hs.length) (x : Wk) : stepS (tk s k x) k = tk s k (wk1 x) := by
  have e : at' (tk s k x) k = x.h := by
    unfold at' tk
    simp [List.getD, List.getElem?_set, lose_len, hk]
  unfold stepS
  rw [e]
  unfold tk wk1
  simp only [List.append_assoc, Nat.add_assoc]
  congr 1
  apply List.ext_getElem?
  intro j
  rw [lose_get, List.getElem?_set, List.getElem?_set, List.getElem?_set, lose_get, lose_get]
  by_cases e : k = j
  · subst e
    simp [lose_len, hk]
  · have e2 : ¬ j = k := fun q => e q.symm
    simp only [e, e2, if_false]
    cases s.hs[j]? with
    | none => rfl
    | some h => simp [lose1_app]
theorem runs_tk {s : Sh} {k : Nat} (hk : k < s.hs.length) : ∀ (n : Nat) (x : Wk), runs (tk s k x) k n = tk s k (wk x n)
  | 0, x => rfl
  | n + 1, x => by
    have e : at' (tk s k x) k = x.h := by
      unfold at' tk
      simp [List.getD, List.getElem?_set, lose_len, hk]
    unfold runs wk
    rw [e]
    split
    · rw [step_tk hk, runs_tk hk n]
    · rfl
theorem runs_wk {s : Sh} {k : Nat} (hk : k < s.hs.length) (n : Nat) : runs s k n = tk s k (wk (w0 s k) n) := by
  have := runs_tk hk n (w0 s k)
  rwa [tk_w0] at this

/-- Where a step stores: within the memory. -/
def StOk (l : List UInt8) (p : Int × Int) : Prop := 0 ≤ p.1 ∧ 0 < p.2 ∧ p.1 + p.2 ≤ l.length
theorem sto_st {l : List UInt8} {op a : Int} (ha : 0 ≤ a) (h : stOk l op a = true) : StOk l (a, (ssz op : Nat)) := by
  unfold stOk thr at h
  rw [decide_eq_true_eq] at h
  exact ⟨ha, by simpa using h.1, h.2.2⟩
theorem eff_sto {h : Hv} (o : h.Ok) (l : List UInt8) {op a b n : Int} (ha : W a) : ∀ p ∈ (eff h l op a b n).sto, StOk l p := by
  unfold eff
  intro p hp
  split at hp
  · simp at hp
  split at hp
  · simp at hp
  split at hp
  · simp at hp
  split at hp
  · unfold efLoad at hp; split at hp <;> simp at hp
  split at hp
  · unfold efStore at hp
    split at hp
    · simp at hp
      subst hp
      exact sto_st (W.lo _).1 (by assumption)
    · simp at hp
  split at hp
  · simp at hp
  split at hp
  · simp at hp
  split at hp
  · unfold efAtom at hp
    split at hp
    · unfold efLr at hp; split at hp <;> simp at hp
    split at hp
    · unfold efSc at hp
      split at hp
      · split at hp
        · simp at hp
          subst hp
          exact sto_st (op := 18) ha.1 (st_of_ld (by assumption))
        · simp at hp
      · simp at hp
    · unfold efAmo at hp
      split at hp
      · simp at hp
        subst hp
        exact sto_st (op := 18) ha.1 (st_of_ld (by assumption))
      · simp at hp
  split at hp
  · unfold efCall at hp
    split at hp
    · simp at hp
    · split at hp <;> simp at hp
  split at hp <;> simp at hp
theorem stp_sto {h : Hv} (o : h.Ok) (l : List UInt8) : (∀ p ∈ (stp h l).sto, StOk l p) ∧ (stp h l).sto.length ≤ 1 := by
  unfold stp insW ins
  split
  · split
    · exact ⟨fun p hp => by simp at hp, by simp⟩
    · exact ⟨eff_sto o l (W.reg o _), (eff_ok o l (W.reg o _) (W.reg o _) (W.lo _)).sto⟩
  · exact ⟨fun p hp => by simp at hp, by simp⟩

/-- What is true of a hart at its work: it may be, its memory is of n bytes, no more came out and no more was stored than steps were done, and what was stored lies in the memory. -/
structure WOk (x : Wk) (n : Nat) : Prop where
  ok : x.h.Ok
  may : may x.h = true
  mem : x.m.length = n
  out : x.out.length ≤ x.n
  sto : x.sto.length ≤ x.n
  bd : ∀ p ∈ x.sto, 0 ≤ p.1 ∧ 0 < p.2 ∧ p.1 + p.2 ≤ n
theorem wk1_ok {x : Wk} {n : Nat} (o : WOk x n) (hr : x.h.state = 0) : WOk (wk1 x) n := by
  have g := good_stp (rn_of o.may hr) x.m
  have s := stp_sto o.ok x.m
  refine ⟨stp_ok o.ok x.m, g.1, g.2.1.trans o.mem, ?_, ?_, fun p hp => ?_⟩
  · have := g.2.2.2.1; have := o.out; simp only [wk1, List.length_append]; omega
  · have := s.2; have := o.sto; simp only [wk1, List.length_append]; omega
  · rcases List.mem_append.1 hp with h | h
    · exact o.bd p h
    · have := s.1 p h
      unfold StOk at this
      rwa [o.mem] at this
theorem w0_ok {s : Sh} {c n k : Nat} (f : Fit s c n) (hk : k < c) : WOk (w0 s k) n := by
  have hl : k < s.hs.length := by rw [f.len]; exact hk
  have eh : s.hs[k]? = some (at' s k) := by unfold at'; rw [List.getElem?_eq_getElem hl]; simp [List.getD, hl]
  obtain ⟨ok, mk⟩ := f.ok _ (mem_of_get eh)
  exact ⟨ok, mk, f.mem, Nat.le_refl _, Nat.le_refl _, fun p hp => by simp [w0] at hp⟩

/-- The harts, of the first j, that lose by a store of hart k. -/
def loses (k : Nat) (p : Int × Int) (j : Nat) (h : Hv) : Bool := decide (j ≠ k) && (h.held && near h.heldAt p.1 p.2)
def lostU (k : Nat) (p : Int × Int) (hs : List Hv) : Nat → List (Nat × Int)
  | 0 => []
  | j + 1 => lostU k p hs j ++ (if loses k p j (hs.getD j hN) = true then [(j, (hs.getD j hN).heldAt)] else [])
theorem lostU_len (k : Nat) (p : Int × Int) (hs : List Hv) : ∀ j, (lostU k p hs j).length ≤ j
  | 0 => Nat.le_refl _
  | j + 1 => by
    have := lostU_len k p hs j
    unfold lostU
    rw [List.length_append]
    split
    · simp; omega
    · simp; omega
theorem lostU_lt (k : Nat) (p : Int × Int) (hs : List Hv) : ∀ j, ∀ q ∈ lostU k p hs j, q.1 < j
  | 0, q, h => by simp [lostU] at h
  | j + 1, q, h => by
    unfold lostU at h
    rcases List.mem_append.1 h with h | h
    · have := lostU_lt k p hs j q h; omega
    · split at h
      · simp at h; subst h; simp
      · simp at h
/-- They lose what they had reserved. -/
def drops (hs : List Hv) (ls : List (Nat × Int)) : List Hv := ls.foldl (fun hs l => hs.set l.1 ((hs.getD l.1 hN).hold false 0)) hs
theorem drops_app (hs : List Hv) (a b : List (Nat × Int)) : drops hs (a ++ b) = drops (drops hs a) b := List.foldl_append
theorem drops_len : ∀ (ls : List (Nat × Int)) (hs : List Hv), (drops hs ls).length = hs.length
  | [], hs => rfl
  | l :: r, hs => by
    show (drops (hs.set l.1 _) r).length = _
    rw [drops_len r]; simp
theorem drops_lost (k : Nat) (p : Int × Int) (hs : List Hv) : ∀ j, j ≤ hs.length → ∀ i, (drops hs (lostU k p hs j))[i]? = if i < j then (lose k [p] hs)[i]? else hs[i]?
  | 0, _, i => by simp [lostU, drops]
  | j + 1, hj, i => by
    have ih := drops_lost k p hs j (by omega)
    have ej : (drops hs (lostU k p hs j)).getD j hN = hs.getD j hN := by
      simp only [List.getD]
      rw [ih j, if_neg (by omega)]
    have hjl : j < hs.length := by omega
    have eg : hs[j]? = some (hs.getD j hN) := by rw [List.getElem?_eq_getElem hjl]; simp [List.getD, hjl]
    have el : (lose k [p] hs)[j]? = some (if loses k p j (hs.getD j hN) = true then (hs.getD j hN).hold false 0 else hs.getD j hN) := by
      rw [lose_get, eg, Option.map_some]
      congr 1
      generalize hs.getD j hN = h
      unfold lose1 loses nearS
      by_cases e : j = k
      · simp [e]
      · simp [e]
    unfold lostU
    rw [drops_app]
    by_cases hl : loses k p j (hs.getD j hN) = true
    · rw [if_pos hl] at el ⊢
      show ((drops hs (lostU k p hs j)).set j (((drops hs (lostU k p hs j)).getD j hN).hold false 0))[i]? = _
      rw [ej, List.getElem?_set]
      by_cases e : j = i
      · subst e
        rw [if_pos rfl, if_pos (by rw [drops_len]; exact hjl), if_pos (by omega), el]
      · rw [if_neg e, ih i]
        by_cases h2 : i < j
        · rw [if_pos h2, if_pos (by omega)]
        · rw [if_neg h2, if_neg (by omega)]
    · rw [if_neg hl] at el ⊢
      show (drops hs (lostU k p hs j))[i]? = _
      rw [ih i]
      by_cases e : i = j
      · subst e
        rw [if_neg (by omega), if_pos (by omega), el, eg]
      · by_cases h2 : i < j
        · rw [if_pos h2, if_pos (by omega)]
        · rw [if_neg h2, if_neg (by omega)]
theorem drops_all (k : Nat) (p : Int × Int) (hs : List Hv) : drops hs (lostU k p hs hs.length) = lose k [p] hs := by
  apply List.ext_getElem?
  intro i
  rw [drops_lost k p hs _ (Nat.le_refl _) i]
  split
  · rfl
  · rename_i h
    rw [List.getElem?_eq_none (by omega), List.getElem?_eq_none (by rw [lose_len]; omega)]
theorem lose_app (k : Nat) (a b : List (Int × Int)) (hs : List Hv) : lose k (a ++ b) hs = lose k b (lose k a hs) := by
  apply List.ext_getElem?
  intro j
  rw [lose_get, lose_get, lose_get]
  cases hs[j]? with
  | none => rfl
  | some h =>
    simp only [Option.map_some]
    split
    · rfl
    · rw [lose1_app]
theorem lose_ok {k : Nat} {ss : List (Int × Int)} {hs : List Hv} (o : ∀ h ∈ hs, h.Ok) : ∀ h ∈ lose k ss hs, h.Ok := by
  intro h hm
  obtain ⟨j, hj⟩ := List.getElem?_of_mem hm
  rw [lose_get] at hj
  cases hq : hs[j]? with
  | none => rw [hq] at hj; cases hj
  | some q =>
    rw [hq] at hj
    have oq := o q (List.mem_of_getElem? hq)
    simp only [Option.map_some] at hj
    obtain rfl := Option.some.inj hj
    split
    · exact oq
    · unfold lose1
      split
      · exact oq.hold false (x := 0) (by omega) (by omega)
      · exact oq
/-- The program's test: it adds in 64 bits. -/
theorem meets_near {x f k n : Int} (hx0 : 0 ≤ x) (hx : x < 4294967296) (h0 : 0 ≤ f) (hk : 0 < k) (hf : f + k ≤ n) (hn : n ≤ 4096) : near x f k = (decide (x < f + k) && decide (f < x + 4)) := by
  unfold near
  by_cases a : x < f + k <;> by_cases b : f < x + 4 <;> simp [a, b, hk]
end Go.Proofs.YtfolphjampklpaaDoor.Mc
