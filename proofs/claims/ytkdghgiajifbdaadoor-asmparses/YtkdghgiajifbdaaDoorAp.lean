/-
  Plain reckoning with texts as lists of bytes (whole numbers): a number's digits, what is read as a number, and that each is the other's way back. No program in sight.
-/
import Derived.Test.YtkdghgiajifbdaaDoorWord
namespace Go.Proofs.YtkdghgiajifbdaaDoor.As
set_option linter.unusedVariables false

/-- A number's digits, the highest first. -/
def dgF : Nat → Nat → List Nat
  | 0, n => [48 + n]
  | f + 1, n => if n < 10 then [48 + n] else dgF f (n / 10) ++ [48 + n % 10]
def dg (n : Nat) : List Nat := dgF n n
theorem dgF_more : ∀ f g n, n ≤ f → n ≤ g → dgF f n = dgF g n
  | 0, 0, n, _, _ => rfl
  | 0, g + 1, n, h1, h2 => by
    obtain rfl : n = 0 := by omega
    rfl
  | f + 1, 0, n, h1, h2 => by
    obtain rfl : n = 0 := by omega
    rfl
  | f + 1, g + 1, n, h1, h2 => by
    by_cases h : n < 10
    · rw [dgF, dgF, if_pos h, if_pos h]
    · rw [dgF, dgF, if_neg h, if_neg h, dgF_more f g (n / 10) (by omega) (by omega)]
theorem dg_lo {n : Nat} (h : n < 10) : dg n = [48 + n] := by
  cases n with
  | zero => rfl
  | succ n => rw [dg, dgF, if_pos h]
theorem dg_hi {n : Nat} (h : ¬ n < 10) : dg n = dg (n / 10) ++ [48 + n % 10] := by
  cases n with
  | zero => omega
  | succ n => rw [dg, dg, dgF, if_neg h, dgF_more n ((n + 1) / 10) ((n + 1) / 10) (by omega) (by omega)]
/-- What digits are together. -/
def vl (l : List Nat) : Nat := l.foldl (fun n d => 10 * n + (d - 48)) 0
theorem vl_app (l : List Nat) (d : Nat) : vl (l ++ [d]) = 10 * vl l + (d - 48) := by simp [vl, List.foldl_append]
theorem vl_dg (n : Nat) : vl (dg n) = n := by
  induction n using Nat.strongRecOn with
  | _ n ih =>
    by_cases h : n < 10
    · rw [dg_lo h]; simp [vl]
    · rw [dg_hi h, vl_app, ih (n / 10) (by omega)]; omega
abbrev IsD (d : Nat) : Prop := 48 ≤ d ∧ d ≤ 57
theorem dg_isD (n : Nat) : ∀ d ∈ dg n, IsD d := by
  induction n using Nat.strongRecOn with
  | _ n ih =>
    intro d hd
    by_cases h : n < 10
    · rw [dg_lo h] at hd; simp at hd; unfold IsD; omega
    · rw [dg_hi h] at hd
      rcases List.mem_append.1 hd with hd | hd
      · exact ih (n / 10) (by omega) d hd
      · simp at hd; unfold IsD; omega
theorem dg_ne (n : Nat) : dg n ≠ [] := by
  by_cases h : n < 10
  · rw [dg_lo h]; simp
  · rw [dg_hi h]; simp
theorem dg_head (n : Nat) (h : (dg n).head? = some 48) : n = 0 := by
  induction n using Nat.strongRecOn with
  | _ n ih =>
    by_cases h10 : n < 10
    · rw [dg_lo h10] at h; simp at h; omega
    · rw [dg_hi h10, List.head?_append] at h
      have hne := dg_ne (n / 10)
      match hd : dg (n / 10), hne with
      | a :: l, _ =>
        rw [hd] at h
        have := ih (n / 10) (by omega) (by rw [hd]; simpa using h)
        omega
theorem dg_len (k : Nat) : ∀ n, n < 10 ^ (k + 1) → (dg n).length ≤ k + 1 := by
  induction k with
  | zero => intro n h; rw [dg_lo (by simpa using h)]; simp
  | succ k ih =>
    intro n h
    by_cases h10 : n < 10
    · rw [dg_lo h10]; simp
    · rw [dg_hi h10, List.length_append]
      have := ih (n / 10) (by rw [Nat.pow_succ] at h; omega)
      simp; omega
/-- Digits with no 0 ahead are what is written of their number. -/
theorem dg_vl : ∀ (k : Nat) (l : List Nat), l.length = k + 1 → (∀ d ∈ l, IsD d) → (l.head? = some 48 → l.length = 1) → dg (vl l) = l
  | 0, l, hl, hd, _ => by
    match l, hl with
    | [d], _ =>
      have := hd d (by simp)
      unfold IsD at this
      have e : vl [d] = d - 48 := by simp [vl]
      rw [e, dg_lo (by omega)]
      congr 1; omega
  | k + 1, l, hl, hd, hz => by
    have hne : l ≠ [] := by intro e; rw [e] at hl; simp at hl
    have e := List.dropLast_concat_getLast hne
    generalize hm : l.dropLast = m at *
    generalize l.getLast hne = d at *
    subst e
    have hml : m.length = k + 1 := by simp at hl; omega
    have h1 : ∀ x ∈ m, IsD x := fun x hx => hd x (by simp [hx])
    have h2 : IsD d := hd d (by simp)
    match m, hml with
    | a :: m', hml =>
      have ha : a ≠ 48 := by
        intro e
        have := hz (by simp [e])
        simp at this
      have ih := dg_vl k (a :: m') hml h1 (fun e => by simp at e; exact absurd e ha)
      have hpos : 0 < vl (a :: m') := by
        rcases Nat.eq_zero_or_pos (vl (a :: m')) with h0 | h0
        · rw [h0, dg_lo (by omega)] at ih
          have := congrArg List.head? ih
          simp at this
          exact absurd this.symm ha
        · exact h0
      unfold IsD at h2
      rw [vl_app, dg_hi (by omega), show (10 * vl (a :: m') + (d - 48)) / 10 = vl (a :: m') by omega, ih, show 48 + (10 * vl (a :: m') + (d - 48)) % 10 = d by omega]
/-- The digits that stand ahead, at most k. -/
def spD : Nat → List Nat → List Nat × List Nat
  | 0, l => ([], l)
  | _ + 1, [] => ([], [])
  | k + 1, d :: l => if IsD d then (d :: (spD k l).1, (spD k l).2) else ([], d :: l)
theorem spD_app : ∀ (k : Nat) (l : List Nat), (spD k l).1 ++ (spD k l).2 = l
  | 0, l => rfl
  | _ + 1, [] => rfl
  | k + 1, d :: l => by
    unfold spD; split
    · simp [spD_app k l]
    · rfl
theorem spD_isD : ∀ (k : Nat) (l : List Nat), ∀ d ∈ (spD k l).1, IsD d
  | 0, l => by simp [spD]
  | _ + 1, [] => by simp [spD]
  | k + 1, d :: l => by
    unfold spD; split
    · intro x hx
      rcases List.mem_cons.1 hx with rfl | hx
      · assumption
      · exact spD_isD k l x hx
    · simp
theorem spD_all : ∀ (k : Nat) (a r : List Nat), a.length ≤ k → (∀ d ∈ a, IsD d) → (∀ d, r.head? = some d → ¬ IsD d) → spD k (a ++ r) = (a, r)
  | 0, [], r, _, _, _ => rfl
  | k + 1, [], r, _, _, hr => by
    match r with
    | [] => rfl
    | d :: r =>
      have := hr d rfl
      simp [spD, this]
  | k + 1, d :: a, r, hl, hd, hr => by
    have ih := spD_all k a r (by simp at hl; omega) (fun x hx => hd x (by simp [hx])) hr
    have h1 := hd d (by simp)
    simp [spD, h1, ih]
/-- A number as it is written. -/
def num (n : Int) : List Nat := if n < 0 then 45 :: dg n.natAbs else dg n.natAbs
/-- What is read as a number, and what stands behind it. -/
def numD (g : Bool) (s : List Nat × List Nat) : Option (Int × List Nat) :=
  if s.1 = [] ∨ s.1.head? = some 48 ∧ (1 < s.1.length ∨ g = true) then none else some (if g = true then -(vl s.1 : Int) else (vl s.1 : Int), s.2)
def numB (l : List Nat) : Option (Int × List Nat) := if l.head? = some 45 then numD true (spD 10 l.tail) else numD false (spD 10 l)
theorem numB_sound {l r : List Nat} {n : Int} (h : numB l = some (n, r)) : l = num n ++ r := by
  unfold numB at h
  by_cases hg : l.head? = some 45
  · rw [if_pos hg] at h
    match l, hg with
    | x :: t, hg =>
      simp only [List.head?_cons, Option.some.injEq] at hg
      subst hg
      simp only [List.tail_cons] at h
      have hd := spD_isD 10 t
      have ha := spD_app 10 t
      generalize spD 10 t = s at *
      obtain ⟨a, r'⟩ := s
      unfold numD at h
      by_cases hc : a = [] ∨ a.head? = some 48 ∧ (1 < a.length ∨ true = true)
      · rw [if_pos hc] at h; cases h
      rw [if_neg hc] at h
      simp only [if_true, Option.some.injEq, Prod.mk.injEq] at h
      obtain ⟨rfl, rfl⟩ := h
      simp only [or_true, and_true, not_or] at hc
      simp only at hd ha
      obtain ⟨k, hk⟩ : ∃ k, a.length = k + 1 := ⟨a.length - 1, by have : a.length ≠ 0 := fun e => hc.1 (List.eq_nil_of_length_eq_zero e); omega⟩
      have e := dg_vl k a hk hd (fun e => absurd e hc.2)
      have hp : 0 < vl a := by
        rcases Nat.eq_zero_or_pos (vl a) with h0 | h0
        · rw [h0, dg_lo (by omega)] at e
          exact absurd (by rw [← e]; rfl) hc.2
        · exact h0
      unfold num
      rw [if_pos (by omega), show (-(vl a : Int)).natAbs = vl a by omega, e]
      simp [ha]
  · rw [if_neg hg] at h
    have hd := spD_isD 10 l
    have ha := spD_app 10 l
    generalize spD 10 l = s at *
    obtain ⟨a, r'⟩ := s
    unfold numD at h
    by_cases hc : a = [] ∨ a.head? = some 48 ∧ (1 < a.length ∨ false = true)
    · rw [if_pos hc] at h; cases h
    rw [if_neg hc] at h
    simp only [Bool.false_eq_true, if_false, Option.some.injEq, Prod.mk.injEq] at h
    obtain ⟨rfl, rfl⟩ := h
    simp only [Bool.false_eq_true, or_false, not_or, not_and] at hc
    simp only at hd ha
    obtain ⟨k, hk⟩ : ∃ k, a.length = k + 1 := ⟨a.length - 1, by have : a.length ≠ 0 := fun e => hc.1 (List.eq_nil_of_length_eq_zero e); omega⟩
    have e := dg_vl k a hk hd (fun e => by have := hc.2 e; omega)
    unfold num
    rw [if_neg (by omega), show ((vl a : Int)).natAbs = vl a by omega, e, ha]
theorem numB_all {n : Int} {r : List Nat} (hn : n.natAbs < 10 ^ 10) (hr : ∀ d, r.head? = some d → ¬ IsD d) : numB (num n ++ r) = some (n, r) := by
  have hd := dg_isD n.natAbs
  have hl := dg_len 9 n.natAbs (by simpa using hn)
  have hs := spD_all 10 (dg n.natAbs) r hl hd hr
  have hne := dg_ne n.natAbs
  have hv := vl_dg n.natAbs
  have hz := dg_head n.natAbs
  have hlo : n.natAbs = 0 → dg n.natAbs = [48] := fun e => by rw [e, dg_lo (by omega)]
  unfold num numB
  by_cases hneg : n < 0
  · rw [if_pos hneg, if_pos (by simp), List.cons_append, List.tail_cons, hs]
    unfold numD
    rw [if_neg]
    · simp only [if_true, hv]; congr 2; omega
    · rintro (h | h)
      · exact hne h
      · have := hz h.1; omega
  · rw [if_neg hneg, if_neg, hs]
    · unfold numD
      rw [if_neg]
      · simp only [Bool.false_eq_true, if_false, hv]; congr 2; omega
      · rintro (h | ⟨h, h2⟩)
        · exact hne h
        · simp only at h h2
          have := hlo (hz h); rw [this] at h2; simp at h2
    · generalize dg n.natAbs = a at *
      match a, hne with
      | x :: t, _ =>
        have := hd x (by simp)
        unfold IsD at this
        simp; omega
end Go.Proofs.YtkdghgiajifbdaaDoor.As
