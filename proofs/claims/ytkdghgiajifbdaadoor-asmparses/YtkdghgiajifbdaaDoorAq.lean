/-
  Plain reckoning: the text of an instruction, what is read of a text, and that they are each other's way back: a text is read as an instruction just where it is that instruction's text ('parse_iff'). No program in sight.
-/
import Derived.Test.YtkdghgiajifbdaaDoorAp
import Derived.Test.YtkdghgiajifbdaaDoorRef2dd
namespace Go.Proofs.YtkdghgiajifbdaaDoor.As
set_option linter.unusedVariables false

/-- The names, by their op. -/
def names : List (List Nat) := [[108, 117, 105], [97, 117, 105, 112, 99], [106, 97, 108], [106, 97, 108, 114], [98, 101, 113], [98, 110, 101], [98, 108, 116], [98, 103, 101], [98, 108, 116, 117], [98, 103, 101, 117], [108, 98], [108, 104], [108, 119], [108, 98, 117], [108, 104, 117], [115, 98], [115, 104], [115, 119], [97, 100, 100, 105], [115, 108, 116, 105], [115, 108, 116, 105, 117], [120, 111, 114, 105], [111, 114, 105], [97, 110, 100, 105], [115, 108, 108, 105], [115, 114, 108, 105], [115, 114, 97, 105], [97, 100, 100], [115, 117, 98], [115, 108, 108], [115, 108, 116], [115, 108, 116, 117], [120, 111, 114], [115, 114, 108], [115, 114, 97], [111, 114], [97, 110, 100], [109, 117, 108], [109, 117, 108, 104], [109, 117, 108, 104, 115, 117], [109, 117, 108, 104, 117], [100, 105, 118], [100, 105, 118, 117], [114, 101, 109], [114, 101, 109, 117], [108, 114], [115, 99], [97, 109, 111, 115, 119, 97, 112], [97, 109, 111, 97, 100, 100], [97, 109, 111, 120, 111, 114], [97, 109, 111, 97, 110, 100], [97, 109, 111, 111, 114], [97, 109, 111, 109, 105, 110], [97, 109, 111, 109, 97, 120], [97, 109, 111, 109, 105, 110, 117], [97, 109, 111, 109, 97, 120, 117], [102, 101, 110, 99, 101], [101, 99, 97, 108, 108], [101, 98, 114, 101, 97, 107]]
def sfx (m : Int) : List Nat := if m = 1 then [46, 114, 108] else if m = 2 then [46, 97, 113] else if m = 3 then [46, 97, 113, 114, 108] else []
def nameB (op m : Int) : List Nat := if 46 ≤ op ∧ op ≤ 56 then names.getD (op - 1).toNat [] ++ [46, 119] ++ sfx m else names.getD (op - 1).toNat []
def rg (n : Int) : List Nat := 120 :: num n
abbrev F2 (op : Int) : Prop := op = 4 ∨ 19 ≤ op ∧ op ≤ 27 ∨ op = 57
/-- What follows a name; n: the number that is written. -/
def bodyR (op rd a b n : Int) : List Nat :=
  if 58 ≤ op then []
  else if op ≤ 3 then 32 :: (rg rd ++ 44 :: num n)
  else if F2 op then 32 :: (rg rd ++ 44 :: (rg a ++ 44 :: num n))
  else if op ≤ 10 then 32 :: (rg a ++ 44 :: (rg b ++ 44 :: num n))
  else if op ≤ 15 then 32 :: (rg rd ++ 44 :: (num n ++ 40 :: (rg a ++ [41])))
  else if op ≤ 18 then 32 :: (rg b ++ 44 :: (num n ++ 40 :: (rg a ++ [41])))
  else if op ≤ 45 then 32 :: (rg rd ++ 44 :: (rg a ++ 44 :: rg b))
  else if op = 46 then 32 :: (rg rd ++ 44 :: 40 :: (rg a ++ [41]))
  else 32 :: (rg rd ++ 44 :: (rg b ++ 44 :: 40 :: (rg a ++ [41])))
/-- The number that is written of Imm. -/
def nw (op n : Int) : Int := if op ≤ 2 then n / 4096 else n
def textB (op rd a b n : Int) : List Nat := nameB op n ++ bodyR op rd a b (nw op n)

/-! ### Read -/
def eatB (c : Nat) : List Nat → Option (List Nat)
  | [] => none
  | d :: t => if d = c then some t else none
theorem eatB_sound {c : Nat} {l r : List Nat} (h : eatB c l = some r) : l = c :: r := by
  match l with
  | [] => cases h
  | d :: t =>
    by_cases e : d = c
    · simp [eatB, e] at h; rw [e, h]
    · simp [eatB, e] at h
theorem eatB_all (c : Nat) (r : List Nat) : eatB c (c :: r) = some r := if_pos rfl
def rgB (l : List Nat) : Option (Int × List Nat) := (eatB 120 l).bind numB
theorem rgB_sound {l r : List Nat} {n : Int} (h : rgB l = some (n, r)) : l = rg n ++ r := by
  obtain ⟨t, h1, h2⟩ := Option.bind_eq_some_iff.1 h
  rw [eatB_sound h1, numB_sound h2]; rfl
theorem rgB_all {n : Int} {r : List Nat} (h0 : 0 ≤ n) (h1 : n ≤ 31) (hr : ∀ d, r.head? = some d → ¬ IsD d) : rgB (rg n ++ r) = some (n, r) := by
  unfold rgB rg
  rw [List.cons_append, eatB_all]
  exact numB_all (by omega) hr
/-- ' x1,' · 'x1,' · '(x1)' -/
def rc (l : List Nat) : Option (Int × List Nat) := (rgB l).bind fun p => (eatB 44 p.2).bind fun t => some (p.1, t)
def r1 (l : List Nat) : Option (Int × List Nat) := (eatB 32 l).bind rc
def rp (l : List Nat) : Option (Int × List Nat) := (eatB 40 l).bind fun l => (rgB l).bind fun p => (eatB 41 p.2).bind fun t => some (p.1, t)
theorem rc_sound {l r : List Nat} {n : Int} (h : rc l = some (n, r)) : l = rg n ++ 44 :: r := by
  obtain ⟨⟨m, t⟩, h1, h⟩ := Option.bind_eq_some_iff.1 h
  obtain ⟨u, h2, h⟩ := Option.bind_eq_some_iff.1 h
  injection h with h; injection h with e1 e2
  subst e1 e2
  simp only at h2
  rw [rgB_sound h1, eatB_sound h2]
theorem r1_sound {l r : List Nat} {n : Int} (h : r1 l = some (n, r)) : l = 32 :: (rg n ++ 44 :: r) := by
  obtain ⟨t, h1, h2⟩ := Option.bind_eq_some_iff.1 h
  rw [eatB_sound h1, rc_sound h2]
theorem rp_sound {l r : List Nat} {n : Int} (h : rp l = some (n, r)) : l = 40 :: (rg n ++ 41 :: r) := by
  obtain ⟨s, h0, h⟩ := Option.bind_eq_some_iff.1 h
  obtain ⟨⟨m, t⟩, h1, h⟩ := Option.bind_eq_some_iff.1 h
  obtain ⟨u, h2, h⟩ := Option.bind_eq_some_iff.1 h
  injection h with h; injection h with e1 e2
  subst e1 e2
  simp only at h2
  rw [eatB_sound h0, rgB_sound h1, eatB_sound h2]
theorem nod {c : Nat} (hc : c < 48) (r : List Nat) : ∀ d, (c :: r).head? = some d → ¬ IsD d := fun d h => by
  simp at h; subst h; unfold IsD; omega
theorem rc_all {n : Int} (h0 : 0 ≤ n) (h1 : n ≤ 31) (r : List Nat) : rc (rg n ++ 44 :: r) = some (n, r) := by
  unfold rc; rw [rgB_all h0 h1 (nod (by omega) _), Option.bind_some, eatB_all]; rfl
theorem r1_all {n : Int} (h0 : 0 ≤ n) (h1 : n ≤ 31) (r : List Nat) : r1 (32 :: (rg n ++ 44 :: r)) = some (n, r) := by
  unfold r1; rw [eatB_all]; exact rc_all h0 h1 r
theorem rp_all {n : Int} (h0 : 0 ≤ n) (h1 : n ≤ 31) (r : List Nat) : rp (40 :: (rg n ++ 41 :: r)) = some (n, r) := by
  unfold rp; rw [eatB_all, Option.bind_some, rgB_all h0 h1 (nod (by omega) _), Option.bind_some, eatB_all]; rfl
abbrev Fo := Int × Int × Int × Int
def fin (x : Fo) (l : List Nat) : Option Fo := if l = [] then some x else none
theorem fin_sound {x y : Fo} {l : List Nat} (h : fin x l = some y) : x = y ∧ l = [] := by
  unfold fin at h
  split at h
  · injection h with h; exact ⟨h, by assumption⟩
  · cases h
/-- What follows a name, as fields and the number that is written. -/
def rdB (op m : Int) (l : List Nat) : Option Fo :=
  if 58 ≤ op then fin (0, 0, 0, 0) l
  else (r1 l).bind fun p =>
    if op ≤ 3 then (numB p.2).bind fun u => fin (p.1, 0, 0, u.1) u.2
    else if F2 op then (rc p.2).bind fun q => (numB q.2).bind fun u => fin (p.1, q.1, 0, u.1) u.2
    else if op ≤ 10 then (rc p.2).bind fun q => (numB q.2).bind fun u => fin (0, p.1, q.1, u.1) u.2
    else if op ≤ 15 then (numB p.2).bind fun u => (rp u.2).bind fun q => fin (p.1, q.1, 0, u.1) q.2
    else if op ≤ 18 then (numB p.2).bind fun u => (rp u.2).bind fun q => fin (0, q.1, p.1, u.1) q.2
    else if op ≤ 45 then (rc p.2).bind fun q => (rgB q.2).bind fun u => fin (p.1, q.1, u.1, 0) u.2
    else if op = 46 then (rp p.2).bind fun q => fin (p.1, q.1, 0, m) q.2
    else (rc p.2).bind fun q => (rp q.2).bind fun u => fin (p.1, u.1, q.1, m) u.2
theorem rdB_sound {op m rd a b n : Int} {l : List Nat} (h : rdB op m l = some (rd, a, b, n)) : l = bodyR op rd a b n ∧ (46 ≤ op → op ≤ 56 → n = m) := by
  unfold rdB at h
  unfold bodyR
  by_cases h0 : 58 ≤ op
  · rw [if_pos h0] at h ⊢
    exact ⟨(fin_sound h).2, fun _ _ => by omega⟩
  rw [if_neg h0] at h ⊢
  obtain ⟨⟨f, t⟩, e1, h⟩ := Option.bind_eq_some_iff.1 h
  rw [r1_sound e1]
  simp only at h
  by_cases h1 : op ≤ 3
  · rw [if_pos h1] at h ⊢
    obtain ⟨⟨u, v⟩, e2, h⟩ := Option.bind_eq_some_iff.1 h
    obtain ⟨e, rfl⟩ := fin_sound h
    simp only [Prod.mk.injEq] at e
    obtain ⟨rfl, rfl, rfl, rfl⟩ := e
    rw [numB_sound e2]
    exact ⟨by simp, fun _ _ => by omega⟩
  rw [if_neg h1] at h ⊢
  by_cases h2 : F2 op
  · rw [if_pos h2] at h ⊢
    unfold F2 at h2
    obtain ⟨⟨q, s⟩, e2, h⟩ := Option.bind_eq_some_iff.1 h
    obtain ⟨⟨u, v⟩, e3, h⟩ := Option.bind_eq_some_iff.1 h
    obtain ⟨e, rfl⟩ := fin_sound h
    simp only [Prod.mk.injEq] at e
    obtain ⟨rfl, rfl, rfl, rfl⟩ := e
    simp only at e3
    rw [rc_sound e2, numB_sound e3]
    exact ⟨by simp, fun _ _ => by omega⟩
  rw [if_neg h2] at h ⊢
  by_cases h3 : op ≤ 10
  · rw [if_pos h3] at h ⊢
    obtain ⟨⟨q, s⟩, e2, h⟩ := Option.bind_eq_some_iff.1 h
    obtain ⟨⟨u, v⟩, e3, h⟩ := Option.bind_eq_some_iff.1 h
    obtain ⟨e, rfl⟩ := fin_sound h
    simp only [Prod.mk.injEq] at e
    obtain ⟨rfl, rfl, rfl, rfl⟩ := e
    simp only at e3
    rw [rc_sound e2, numB_sound e3]
    exact ⟨by simp, fun _ _ => by omega⟩
  rw [if_neg h3] at h ⊢
  by_cases h4 : op ≤ 15
  · rw [if_pos h4] at h ⊢
    obtain ⟨⟨u, v⟩, e2, h⟩ := Option.bind_eq_some_iff.1 h
    obtain ⟨⟨q, s⟩, e3, h⟩ := Option.bind_eq_some_iff.1 h
    obtain ⟨e, rfl⟩ := fin_sound h
    simp only [Prod.mk.injEq] at e
    obtain ⟨rfl, rfl, rfl, rfl⟩ := e
    simp only at e3
    rw [numB_sound e2, rp_sound e3]
    exact ⟨rfl, fun _ _ => by omega⟩
  rw [if_neg h4] at h ⊢
  by_cases h5 : op ≤ 18
  · rw [if_pos h5] at h ⊢
    obtain ⟨⟨u, v⟩, e2, h⟩ := Option.bind_eq_some_iff.1 h
    obtain ⟨⟨q, s⟩, e3, h⟩ := Option.bind_eq_some_iff.1 h
    obtain ⟨e, rfl⟩ := fin_sound h
    simp only [Prod.mk.injEq] at e
    obtain ⟨rfl, rfl, rfl, rfl⟩ := e
    simp only at e3
    rw [numB_sound e2, rp_sound e3]
    exact ⟨rfl, fun _ _ => by omega⟩
  rw [if_neg h5] at h ⊢
  by_cases h6 : op ≤ 45
  · rw [if_pos h6] at h ⊢
    obtain ⟨⟨q, s⟩, e2, h⟩ := Option.bind_eq_some_iff.1 h
    obtain ⟨⟨u, v⟩, e3, h⟩ := Option.bind_eq_some_iff.1 h
    obtain ⟨e, rfl⟩ := fin_sound h
    simp only [Prod.mk.injEq] at e
    obtain ⟨rfl, rfl, rfl, rfl⟩ := e
    simp only at e3
    rw [rc_sound e2, rgB_sound e3]
    exact ⟨by simp, fun _ _ => by omega⟩
  rw [if_neg h6] at h ⊢
  by_cases h7 : op = 46
  · rw [if_pos h7] at h ⊢
    obtain ⟨⟨q, s⟩, e2, h⟩ := Option.bind_eq_some_iff.1 h
    obtain ⟨e, rfl⟩ := fin_sound h
    simp only [Prod.mk.injEq] at e
    obtain ⟨rfl, rfl, rfl, rfl⟩ := e
    rw [rp_sound e2]
    exact ⟨rfl, fun _ _ => rfl⟩
  rw [if_neg h7] at h ⊢
  obtain ⟨⟨q, s⟩, e2, h⟩ := Option.bind_eq_some_iff.1 h
  obtain ⟨⟨u, v⟩, e3, h⟩ := Option.bind_eq_some_iff.1 h
  obtain ⟨e, rfl⟩ := fin_sound h
  simp only [Prod.mk.injEq] at e
  obtain ⟨rfl, rfl, rfl, rfl⟩ := e
  simp only at e3
  rw [rc_sound e2, rp_sound e3]
  exact ⟨rfl, fun _ _ => rfl⟩
theorem numB_end {n : Int} (hn : n.natAbs < 10 ^ 10) : numB (num n) = some (n, []) := by
  have := numB_all (n := n) (r := []) hn (by simp)
  rwa [List.append_nil] at this
theorem rgB_end {n : Int} (h0 : 0 ≤ n) (h1 : n ≤ 31) : rgB (rg n) = some (n, []) := by
  have := rgB_all (n := n) (r := []) h0 h1 (by simp)
  rwa [List.append_nil] at this
theorem rdB_all {op rd a b n m k : Int} (h : Re.IsP op rd a b n) (hk : k = nw op n) (hb : k.natAbs < 10 ^ 10) (hm : 46 ≤ op → op ≤ 56 → m = n) : rdB op m (bodyR op rd a b k) = some (rd, a, b, k) := by
  obtain ⟨⟨o1, o2, d0, d1, a0, a1, b0, b1⟩, hf⟩ := h
  unfold rdB bodyR
  unfold nw at hk
  by_cases h0 : 58 ≤ op
  · rw [if_pos h0, if_pos h0]
    unfold fin
    rw [if_pos rfl]
    rw [if_neg (by omega)] at hk
    obtain ⟨rfl, rfl, rfl, rfl⟩ : rd = 0 ∧ a = 0 ∧ b = 0 ∧ n = 0 := by omega
    rw [hk]
  rw [if_neg h0, if_neg h0]
  by_cases h1 : op ≤ 3
  · rw [if_pos h1, r1_all d0 d1, Option.bind_some]
    rw [if_pos h1]
    rw [numB_end hb, Option.bind_some]
    obtain ⟨rfl, rfl⟩ : a = 0 ∧ b = 0 := by omega
    rfl
  rw [if_neg h1]
  rw [if_neg (by omega)] at hk
  subst hk
  by_cases h2 : F2 op
  · rw [if_pos h2, r1_all d0 d1, Option.bind_some]
    rw [if_neg h1, if_pos h2]
    rw [rc_all a0 a1, Option.bind_some]
    rw [numB_end hb, Option.bind_some]
    unfold F2 at h2
    obtain rfl : b = 0 := by omega
    rfl
  rw [if_neg h2]
  have h2' := h2
  unfold F2 at h2'
  by_cases h3 : op ≤ 10
  · rw [if_pos h3, r1_all a0 a1, Option.bind_some]
    rw [if_neg h1, if_neg h2, if_pos h3]
    rw [rc_all b0 b1, Option.bind_some]
    rw [numB_end hb, Option.bind_some]
    obtain rfl : rd = 0 := by omega
    rfl
  rw [if_neg h3]
  by_cases h4 : op ≤ 15
  · rw [if_pos h4, r1_all d0 d1, Option.bind_some]
    rw [if_neg h1, if_neg h2, if_neg h3, if_pos h4]
    rw [numB_all hb (nod (by omega) _), Option.bind_some]
    rw [rp_all a0 a1, Option.bind_some]
    obtain rfl : b = 0 := by omega
    rfl
  rw [if_neg h4]
  by_cases h5 : op ≤ 18
  · rw [if_pos h5, r1_all b0 b1, Option.bind_some]
    rw [if_neg h1, if_neg h2, if_neg h3, if_neg h4, if_pos h5]
    rw [numB_all hb (nod (by omega) _), Option.bind_some]
    rw [rp_all a0 a1, Option.bind_some]
    obtain rfl : rd = 0 := by omega
    rfl
  rw [if_neg h5]
  by_cases h6 : op ≤ 45
  · rw [if_pos h6, r1_all d0 d1, Option.bind_some]
    rw [if_neg h1, if_neg h2, if_neg h3, if_neg h4, if_neg h5, if_pos h6]
    rw [rc_all a0 a1, Option.bind_some]
    rw [rgB_end b0 b1, Option.bind_some]
    obtain rfl : k = 0 := by omega
    rfl
  rw [if_neg h6]
  have hmk : m = k := hm (by omega) (by omega)
  subst hmk
  by_cases h7 : op = 46
  · rw [if_pos h7, r1_all d0 d1, Option.bind_some]
    rw [if_neg h1, if_neg h2, if_neg h3, if_neg h4, if_neg h5, if_neg h6, if_pos h7]
    rw [rp_all a0 a1, Option.bind_some]
    obtain rfl : b = 0 := by omega
    rfl
  rw [if_neg h7, r1_all d0 d1, Option.bind_some]
  rw [if_neg h1, if_neg h2, if_neg h3, if_neg h4, if_neg h5, if_neg h6, if_neg h7]
  rw [rc_all b0 b1, Option.bind_some]
  rw [rp_all a0 a1, Option.bind_some]
  rfl

/-! ### The whole text -/
/-- Ops and what is said behind their names, in the order in which they are sought. -/
def pairs : List (Int × Int) := (List.range 59).flatMap fun (o : Nat) => (List.range 4).map fun (m : Nat) => ((o : Int) + 1, (m : Int))
def findB (h : List Nat) : Option (Int × Int) := pairs.find? fun p => nameB p.1 p.2 == h
theorem find_at : ∀ (o : Fin 59) (m : Fin 4), findB (nameB ((o.val : Int) + 1) (m.val : Int)) = some ((o.val : Int) + 1, if 46 ≤ (o.val : Int) + 1 ∧ (o.val : Int) + 1 ≤ 56 then (m.val : Int) else 0) := by decide +kernel
theorem name_at : ∀ (o : Fin 59) (m : Fin 4), (nameB ((o.val : Int) + 1) (m.val : Int)).all (· != 32) = true := by decide +kernel
theorem pairs_in {p : Int × Int} (h : p ∈ pairs) : 1 ≤ p.1 ∧ p.1 ≤ 59 ∧ 0 ≤ p.2 ∧ p.2 ≤ 3 := by
  unfold pairs at h
  obtain ⟨o, ho, h⟩ := List.mem_flatMap.1 h
  obtain ⟨m, hm, rfl⟩ := List.mem_map.1 h
  have := List.mem_range.1 ho
  have := List.mem_range.1 hm
  simp only
  omega
theorem find_sound {h : List Nat} {op m : Int} (e : findB h = some (op, m)) : nameB op m = h ∧ 1 ≤ op ∧ op ≤ 59 ∧ 0 ≤ m ∧ m ≤ 3 := by
  have h1 := List.find?_some e
  exact ⟨by simpa using h1, pairs_in (List.mem_of_find?_eq_some e)⟩
/-- A name of a number that is not said is that of 0. -/
theorem name_same {op m : Int} (h : ¬ (46 ≤ op ∧ op ≤ 56)) (k : Int) : nameB op m = nameB op k := by unfold nameB; rw [if_neg h, if_neg h]
theorem name_fin {op n : Int} (h1 : 1 ≤ op) (h2 : op ≤ 59) (hn : 46 ≤ op → op ≤ 56 → 0 ≤ n ∧ n ≤ 3) :
    findB (nameB op n) = some (op, if 46 ≤ op ∧ op ≤ 56 then n else 0) ∧ (nameB op n).all (· != 32) = true := by
  obtain ⟨o, rfl⟩ : ∃ o : Nat, op = (o : Int) + 1 := ⟨(op - 1).toNat, by omega⟩
  have ho : o < 59 := by omega
  by_cases hc : 46 ≤ (o : Int) + 1 ∧ (o : Int) + 1 ≤ 56
  · obtain ⟨n0, n1⟩ := hn hc.1 hc.2
    obtain ⟨m, rfl⟩ : ∃ m : Nat, n = (m : Int) := ⟨n.toNat, by omega⟩
    exact ⟨find_at ⟨o, ho⟩ ⟨m, by omega⟩, name_at ⟨o, ho⟩ ⟨m, by omega⟩⟩
  · rw [name_same hc ((0 : Fin 4).val : Int)]
    have := find_at ⟨o, ho⟩ 0
    simp only [if_neg hc] at this ⊢
    exact ⟨this, name_at ⟨o, ho⟩ 0⟩
def hdB (s : List Nat) : List Nat := s.takeWhile (· != 32)
def rsB (s : List Nat) : List Nat := s.dropWhile (· != 32)
theorem hd_rs (s : List Nat) : hdB s ++ rsB s = s := List.takeWhile_append_dropWhile
theorem body_hd (op rd a b n : Int) : (bodyR op rd a b n).takeWhile (· != 32) = [] ∧ (bodyR op rd a b n).dropWhile (· != 32) = bodyR op rd a b n := by
  unfold bodyR
  repeat' split
  all_goals exact ⟨by simp, by simp⟩
theorem hd_all {op n : Int} (h : (nameB op n).all (· != 32) = true) (rd a b k : Int) : hdB (nameB op n ++ bodyR op rd a b k) = nameB op n ∧ rsB (nameB op n ++ bodyR op rd a b k) = bodyR op rd a b k := by
  have h' : ∀ c ∈ nameB op n, (c != 32) = true := fun c hc => List.all_eq_true.1 h c hc
  unfold hdB rsB
  rw [List.takeWhile_append_of_pos h', List.dropWhile_append_of_pos h', (body_hd op rd a b k).1, (body_hd op rd a b k).2]
  simp
def decP (op rd a b n : Int) : Decidable (Re.IsP op rd a b n) := by
  unfold Re.IsP
  repeat' (first | refine @instDecidableAnd _ _ ?_ ?_ | refine @instDecidableOr _ _ ?_ ?_ | infer_instance)
abbrev Fi := Int × Int × Int × Int × Int
/-- The number that Imm is of the one that is written. -/
def wn (op n : Int) : Int := if op ≤ 2 then 4096 * n else n
def okB (op : Int) (f : Fo) : Option Fi := @ite _ ((-2147483648 ≤ wn op f.2.2.2 ∧ wn op f.2.2.2 < 2147483648) ∧ Re.IsP op f.1 f.2.1 f.2.2.1 (wn op f.2.2.2)) (@instDecidableAnd _ _ _ (decP _ _ _ _ _)) (some (op, f.1, f.2.1, f.2.2.1, wn op f.2.2.2)) none
def parseB (s : List Nat) : Option Fi := (findB (hdB s)).bind fun p => (rdB p.1 p.2 (rsB s)).bind (okB p.1)
theorem nw_wn (op n : Int) : nw op (wn op n) = n := by unfold nw wn; split <;> omega
theorem wn_nw {op n : Int} (h : op ≤ 2 → n % 4096 = 0) : wn op (nw op n) = n := by
  unfold nw wn
  split
  · have := h (by assumption); omega
  · rfl
/-- A text is read as an instruction just where it is that instruction's text. -/
theorem parse_iff {s : List Nat} {op rd a b n : Int} : parseB s = some (op, rd, a, b, n) ↔ ((-2147483648 ≤ n ∧ n < 2147483648) ∧ Re.IsP op rd a b n) ∧ textB op rd a b n = s := by
  constructor
  · intro h
    unfold parseB at h
    obtain ⟨⟨o, m⟩, e1, h⟩ := Option.bind_eq_some_iff.1 h
    obtain ⟨⟨f1, f2, f3, f4⟩, e2, h⟩ := Option.bind_eq_some_iff.1 h
    simp only at e2 h
    obtain ⟨en, o1, o2, m0, m1⟩ := find_sound e1
    obtain ⟨er, ek⟩ := rdB_sound e2
    unfold okB at h
    split at h
    · rename_i hc
      simp only [Option.some.injEq, Prod.mk.injEq] at h
      obtain ⟨rfl, rfl, rfl, rfl, rfl⟩ := h
      refine ⟨hc, ?_⟩
      unfold textB
      rw [nw_wn, ← er]
      have : nameB o (wn o f4) = nameB o m := by
        by_cases ha : 46 ≤ o ∧ o ≤ 56
        · rw [ek ha.1 ha.2, show wn o m = m by unfold wn; rw [if_neg (by omega)]]
        · exact name_same ha _
      rw [this, en, hd_rs]
    · cases h
  · rintro ⟨⟨⟨n0, n1⟩, hp⟩, rfl⟩
    have hp' := hp
    obtain ⟨⟨o1, o2, _⟩, hf⟩ := hp'
    have hz : op ≤ 2 → n % 4096 = 0 := fun h => Int.emod_eq_zero_of_dvd (Int.dvd_of_tmod_eq_zero (by rcases hf with h | h | h | h | h | h | h | h | h | h | h | h <;> first | exact h.2.2.2.2 | (exfalso; omega)))
    have ha : 46 ≤ op → op ≤ 56 → 0 ≤ n ∧ n ≤ 3 := fun h1 h2 => by
      rcases hf with h | h | h | h | h | h | h | h | h | h | h | h <;> omega
    obtain ⟨e1, e2⟩ := name_fin o1 o2 ha
    unfold parseB textB
    obtain ⟨e3, e4⟩ := hd_all e2 rd a b (nw op n)
    rw [e3, e1, Option.bind_some, e4]
    simp only
    rw [rdB_all hp rfl (by unfold nw; split <;> omega) (fun h1 h2 => if_pos ⟨h1, h2⟩), Option.bind_some]
    have hw := wn_nw hz
    unfold okB
    rw [if_pos]
    · show some (op, rd, a, b, wn op (nw op n)) = _
      rw [hw]
    · show (-2147483648 ≤ wn op (nw op n) ∧ wn op (nw op n) < 2147483648) ∧ Re.IsP op rd a b (wn op (nw op n))
      rw [hw]; exact ⟨⟨n0, n1⟩, hp⟩
end Go.Proofs.YtkdghgiajifbdaaDoor.As
