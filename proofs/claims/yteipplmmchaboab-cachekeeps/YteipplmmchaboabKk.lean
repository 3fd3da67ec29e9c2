/-
  A cache as plain data: it has no more than the room, no two of one place, and what is found at a place is the last one that was put there.
-/
import Derived.Test.YteipplmmchaboabKd
namespace Go.Proofs.Yteipplmmchaboab.Kc
open Mm Ts
set_option linter.unusedVariables false
set_option linter.unusedSimpArgs false

/-- No two of one place. -/
def Sole (bs : List Bv) : Prop := bs.Pairwise fun a b => ¬ a.pc = b.pc
theorem place_neg {pc : Int} {bs : List Bv} {k : Nat} : (∀ b ∈ bs, ¬ b.pc = pc) → place pc bs k = -1 := fun h => place_none fun i x hx => h x (List.mem_of_getElem? hx)
theorem place_split {pc : Int} : ∀ {bs : List Bv} {k j : Nat}, place pc bs k = ((k + j : Nat) : Int) → ∃ b, bs[j]? = some b ∧ b.pc = pc
  | [], k, j, h => by unfold place at h; omega
  | b :: r, k, j, h => by
    unfold place at h
    split at h
    · rename_i e
      have : j = 0 := by omega
      subst this
      exact ⟨b, rfl, e⟩
    · rcases place_bd pc r (k + 1) with h2 | ⟨i, x, h2, hx⟩
      · omega
      · have e : j = i + 1 := by omega
        subst e
        obtain ⟨y, hy, he⟩ := place_split (bs := r) (k := k + 1) (j := i) h2
        exact ⟨y, by simpa using hy, he⟩
theorem rm_none {bs : List Bv} {k : Int} {i : Nat} (h : k < (i : Int)) : rmK k bs i = bs := by
  induction bs generalizing i with
  | nil => rfl
  | cons b r ih =>
    unfold rmK
    rw [if_neg (by omega), ih (by omega)]
theorem rm_sub : ∀ (bs : List Bv) (k : Int) (i : Nat), (rmK k bs i).Sublist bs
  | [], k, i => List.Sublist.refl _
  | b :: r, k, i => by
    unfold rmK
    split
    · exact (rm_sub r k (i + 1)).trans (List.sublist_cons_self b r)
    · exact (rm_sub r k (i + 1)).cons_cons b
/-- Without the block of its place, none of that place is left. -/
theorem rm_gone {pc : Int} : ∀ {bs : List Bv} {i : Nat}, Sole bs → ∀ b ∈ rmK (place pc bs i) bs i, ¬ b.pc = pc
  | [], i, _, b, h => by cases h
  | c :: r, i, hs, b, h => by
    have hs2 : Sole r := (List.pairwise_cons.1 hs).2
    have hc := (List.pairwise_cons.1 hs).1
    by_cases e : c.pc = pc
    · have ep : place pc (c :: r) i = (i : Int) := by unfold place; rw [if_pos e]
      rw [ep] at h
      unfold rmK at h
      rw [if_pos rfl, rm_none (by omega)] at h
      intro e2
      exact hc b h (e.trans e2.symm)
    · have ep : place pc (c :: r) i = place pc r (i + 1) := by rw [place, if_neg e]
      rw [ep] at h
      unfold rmK at h
      have hne : ¬ (i : Int) = place pc r (i + 1) := by
        rcases place_bd pc r (i + 1) with h2 | ⟨j, x, h2, _⟩ <;> omega
      rw [if_neg hne] at h
      rcases List.mem_cons.1 h with rfl | h
      · exact e
      · exact rm_gone hs2 b h
theorem rm_one {pc : Int} : ∀ {bs : List Bv} {i : Nat}, 0 ≤ place pc bs i → (rmK (place pc bs i) bs i).length + 1 ≤ bs.length
  | [], i, h => by unfold place at h; omega
  | c :: r, i, h => by
    by_cases e : c.pc = pc
    · have ep : place pc (c :: r) i = (i : Int) := by unfold place; rw [if_pos e]
      rw [ep]
      unfold rmK
      rw [if_pos rfl, rm_none (by omega)]
      simp
    · have ep : place pc (c :: r) i = place pc r (i + 1) := by rw [place, if_neg e]
      rw [ep] at h ⊢
      have := rm_one (pc := pc) (bs := r) (i := i + 1) h
      unfold rmK
      have hne : ¬ (i : Int) = place pc r (i + 1) := by
        rcases place_bd pc r (i + 1) with h2 | ⟨j, x, h2, _⟩ <;> omega
      rw [if_neg hne]
      simp
      omega
theorem Sole.sub {a b : List Bv} (h : Sole b) (s : a.Sublist b) : Sole a := h.sublist s
theorem Sole.snoc {bs : List Bv} {b : Bv} (h : Sole bs) (hn : ∀ x ∈ bs, ¬ x.pc = b.pc) : Sole (bs ++ [b]) := by
  unfold Sole
  rw [List.pairwise_append]
  exact ⟨h, List.pairwise_singleton _ _, fun x hx y hy => by rw [List.mem_singleton] at hy; subst hy; exact hn x hx⟩
/-- A cache as it should be. -/
structure Cok (room : Int) (bs : List Bv) : Prop where
  len : (bs.length : Int) ≤ room
  sole : Sole bs
theorem Cok.keep {room : Int} {bs : List Bv} (h : Cok room bs) (f t : Int) : Cok room (keepL f t bs) :=
  ⟨by have := List.length_filter_le (fun b => !hasB b f t) bs; have := h.len; unfold keepL; omega, h.sole.sub List.filter_sublist⟩
theorem keep_no {f t : Int} {bs : List Bv} : ∀ b ∈ keepL f t bs, hasB b f t = false := fun b hb => by
  have := (List.mem_filter.1 hb).2
  simpa using this
theorem Cok.put {room : Int} {bs : List Bv} (h : Cok room bs) (h0 : 0 ≤ room) (b : Bv) : Cok room (putL room bs b) ∧ (0 < room → place b.pc (putL room bs b) 0 = ((putL room bs b).length : Int) - 1 ∧ (putL room bs b)[(putL room bs b).length - 1]? = some b) ∧ (room = 0 → putL room bs b = []) := by
  have hg := rm_gone (pc := b.pc) (i := 0) h.sole
  have hsub := rm_sub bs (place b.pc bs 0) 0
  have hlen := rm_len (place b.pc bs 0) bs 0
  have hl := h.len
  have hone : 0 ≤ place b.pc bs 0 → (rmK (place b.pc bs 0) bs 0).length + 1 ≤ bs.length := rm_one
  have S := (h.sole.sub hsub).snoc hg
  have fin : ∀ (l : List Bv), (∀ x ∈ l, ¬ x.pc = b.pc) → place b.pc (l ++ [b]) 0 = (((l ++ [b]).length : Nat) : Int) - 1 ∧ (l ++ [b])[(l ++ [b]).length - 1]? = some b := fun l hn => by
    refine ⟨?_, by simp⟩
    have := place_at (pc := b.pc) (bs := l ++ [b]) (j := l.length) (k := 0) (x := b) (by simp) rfl (fun i y hi hy => by
      rw [List.getElem?_append_left hi] at hy
      exact hn y (List.mem_of_getElem? hy))
    rw [this]
    simp
  unfold putL
  generalize rmK (place b.pc bs 0) bs 0 = r at *
  split
  · rename_i hgt
    rw [List.length_append, List.length_singleton] at hgt
    cases r with
    | nil =>
      have e0 : room = 0 := by simp at hgt; omega
      refine ⟨⟨by simp; omega, List.Pairwise.nil⟩, fun h => absurd h (by omega), fun _ => rfl⟩
    | cons x r' =>
      have e : (x :: r' ++ [b]).drop 1 = r' ++ [b] := rfl
      rw [e]
      refine ⟨⟨?_, (List.pairwise_cons.1 S).2⟩, fun _ => fin r' (fun y hy => hg y (by simp [hy])), fun e0 => ?_⟩
      · rw [List.length_append, List.length_singleton]
        simp at hlen hgt
        omega
      · simp at hlen
        omega
  · rename_i hle
    refine ⟨⟨by omega, S⟩, fun _ => fin r hg, fun e0 => ?_⟩
    rw [List.length_append, List.length_singleton] at hle
    omega
theorem fnd_put {bs : List Bv} {b : Bv} (h : place b.pc bs 0 = (bs.length : Int) - 1 ∧ bs[bs.length - 1]? = some b) : decide (0 ≤ place b.pc bs 0) = true ∧ fnd b.pc bs = b := by
  have hl : bs.length - 1 < bs.length := (List.getElem?_eq_some_iff.1 h.2).1
  have h0 : 0 ≤ place b.pc bs 0 := by rw [h.1]; omega
  refine ⟨decide_eq_true h0, ?_⟩
  unfold fnd
  rw [if_pos h0, h.1, show ((bs.length : Int) - 1).toNat = bs.length - 1 by omega, List.getD, h.2]
  rfl
theorem fnd_nil (pc : Int) : decide (0 ≤ place pc [] 0) = false ∧ fnd pc [] = ⟨0, []⟩ := ⟨rfl, rfl⟩
/-- No block ahead of the k-th one is of its place. -/
theorem Sole.ahead {bs : List Bv} (h : Sole bs) {k : Nat} {b : Bv} (hb : bs[k]? = some b) : place b.pc (bs.take k) 0 = -1 := by
  refine place_neg fun x hx e => ?_
  obtain ⟨i, hi⟩ := List.mem_iff_getElem?.1 hx
  rw [List.getElem?_take] at hi
  split at hi
  · rename_i hik
    obtain ⟨h1, e1⟩ := List.getElem?_eq_some_iff.1 hi
    obtain ⟨h2, e2⟩ := List.getElem?_eq_some_iff.1 hb
    have := List.pairwise_iff_getElem.1 h i k h1 h2 hik
    rw [e1, e2] at this
    exact this e
  · cases hi
end Go.Proofs.Yteipplmmchaboab.Kc
