/-
  The document's Reader: a register, a place by a register; and what lies there while an instruction is read.
-/
import Derived.Test.YtkdghgiajifbdaaDoorAb6
import Derived.Test.YtkdghgiajifbdaaDoorAa2
namespace Go.Proofs.YtkdghgiajifbdaaDoor.As
open Go.ChangeShapes Go.WideShapes Go.ChangeAt Go.RowKit Mm
set_option linter.unusedVariables false

variable {w w' : World}
/-- What a reading answers: its value, or 0. -/
def fstD (x : Option (Int × List Nat)) : Int := (x.map (·.1)).getD 0
def sndO (x : Option (Int × List Nat)) : Option (List Nat) := x.map (·.2)
theorem num_at {L : List Nat} {g : Nat} {o : Option (List Nat)} (hL : ∀ x ∈ L, x < 256) (hl : L.length ≤ 140737488355328) (X : Rx w g L o) :
    Calls Tryd.prog 97 #[.pointer (some ⟨g, 0, none⟩)] w fun e w' => e = .returned (.int .i64 (fstD (o.bind numB))) ∧ Rx w' g L (sndO (o.bind numB)) ∧ Kp g w w' := num_any hL hl X
theorem bind_rg (o : Option (List Nat)) : (o.bind (eatB 120)).bind numB = o.bind rgB := by cases o <;> rfl
set_option maxHeartbeats 1000000 in
/-- A register is read. -/
theorem reg_any {L : List Nat} {g : Nat} {o : Option (List Nat)} (hL : ∀ x ∈ L, x < 256) (hl : L.length ≤ 140737488355328) (X : Rx w g L o) :
    Calls Tryd.prog 96 #[.pointer (some ⟨g, 0, none⟩)] w fun e w' => e = .returned (.int .i64 (fstD (o.bind rgB))) ∧ Rx w' g L (sndO (o.bind rgB)) ∧ Kp g w w' := by
  have H0 : Hid (Calls Tryd.prog 95 #[.pointer (some ⟨g, 0, none⟩), .string ⟨#[120]⟩] w fun e w' => e = .returned (.tuple #[]) ∧ Rx w' g L (o.bind (eatB 120)) ∧ Kp g w w') := eat_any (c := 120) (by omega) hL hl X
  have H1 : Hid (∀ W : World, Rx W g L (o.bind (eatB 120)) → Calls Tryd.prog 97 #[.pointer (some ⟨g, 0, none⟩)] W fun e w' => e = .returned (.int .i64 (fstD (o.bind rgB))) ∧ Rx w' g L (sndO (o.bind rgB)) ∧ Kp g W w') := fun W X => by
    have := num_at hL hl X
    rwa [bind_rg] at this
  clear X hL hl
  go_enter Tryd.func96, Tryd.ntmps96
  go_wp2_with fail
  refine H0.out.mono ?_
  rintro e w1 ⟨rfl, X1, k1⟩
  have HX1 : Hid _ := X1
  have HK1 : Hid (Kp g w w1) := k1
  clear X1 k1
  go_wp2_with fail
  refine (H1.out _ HX1.out).mono ?_
  rintro e w2 ⟨rfl, X2, k2⟩
  have HX2 : Hid (Rx w2 g L (sndO (o.bind rgB))) := X2
  have HK2 : Hid (Kp g w w2) := HK1.out.trans k2
  clear X2 k2
  go_wp2_with fail
  go_ret
  exact ⟨rfl, HX2.out, HK2.out⟩
theorem bind_rp (o : Option (List Nat)) : (sndO ((o.bind (eatB 40)).bind rgB)).bind (eatB 41) = sndO (o.bind rp) ∧ ∀ n r, o.bind rp = some (n, r) → fstD ((o.bind (eatB 40)).bind rgB) = n := by
  cases o with
  | none => exact ⟨rfl, fun n r h => by cases h⟩
  | some l =>
    unfold rp sndO fstD
    simp only [Option.bind_some]
    cases eatB 40 l with
    | none => exact ⟨rfl, fun n r h => by cases h⟩
    | some t =>
      simp only [Option.bind_some]
      cases rgB t with
      | none => exact ⟨rfl, fun n r h => by cases h⟩
      | some p =>
        simp only [Option.bind_some, Option.map_some, Option.getD_some]
        cases eatB 41 p.2 with
        | none => exact ⟨rfl, fun n r h => by cases h⟩
        | some u => exact ⟨rfl, fun n r h => by simp at h; exact h.1⟩
set_option maxHeartbeats 1000000 in
/-- A place is read. -/
theorem place_any {L : List Nat} {g : Nat} {o : Option (List Nat)} (hL : ∀ x ∈ L, x < 256) (hl : L.length ≤ 140737488355328) (X : Rx w g L o) :
    Calls Tryd.prog 98 #[.pointer (some ⟨g, 0, none⟩)] w fun e w' => e = .returned (.int .i64 (fstD ((o.bind (eatB 40)).bind rgB))) ∧ Rx w' g L (sndO (o.bind rp)) ∧ Kp g w w' := by
  have H0 : Hid (Calls Tryd.prog 95 #[.pointer (some ⟨g, 0, none⟩), .string ⟨#[40]⟩] w fun e w' => e = .returned (.tuple #[]) ∧ Rx w' g L (o.bind (eatB 40)) ∧ Kp g w w') := eat_any (c := 40) (by omega) hL hl X
  have H1 : Hid (∀ W : World, Rx W g L (o.bind (eatB 40)) → Calls Tryd.prog 96 #[.pointer (some ⟨g, 0, none⟩)] W fun e w' => e = .returned (.int .i64 (fstD ((o.bind (eatB 40)).bind rgB))) ∧ Rx w' g L (sndO ((o.bind (eatB 40)).bind rgB)) ∧ Kp g W w') := fun W X => reg_any hL hl X
  have H2 : Hid (∀ W : World, Rx W g L (sndO ((o.bind (eatB 40)).bind rgB)) → Calls Tryd.prog 95 #[.pointer (some ⟨g, 0, none⟩), .string ⟨#[41]⟩] W fun e w' => e = .returned (.tuple #[]) ∧ Rx w' g L (sndO (o.bind rp)) ∧ Kp g W w') := fun W X => by
    have := eat_any (c := 41) (by omega) hL hl X
    rwa [(bind_rp o).1] at this
  clear X hL hl
  generalize fstD ((o.bind (eatB 40)).bind rgB) = v at *
  go_enter Tryd.func98, Tryd.ntmps98
  go_wp2_with fail
  refine H0.out.mono ?_
  rintro e w1 ⟨rfl, X1, k1⟩
  have HX1 : Hid _ := X1
  have HK1 : Hid (Kp g w w1) := k1
  clear X1 k1
  go_wp2_with fail
  refine (H1.out _ HX1.out).mono ?_
  rintro e w2 ⟨rfl, X2, k2⟩
  have HX2 : Hid _ := X2
  have HK2 : Hid (Kp g w w2) := HK1.out.trans k2
  clear X2 k2
  go_wp2_with fail
  refine (H2.out _ HX2.out).mono ?_
  rintro e w3 ⟨rfl, X3, k3⟩
  have HX3 : Hid (Rx w3 g L (sndO (o.bind rp))) := X3
  have HK3 : Hid (Kp g w w3) := HK2.out.trans k3
  clear X3 k3
  go_wp2_with fail
  go_ret
  exact ⟨rfl, HX3.out, HK3.out⟩
/-- What lies there while an instruction is read: what will be answered, the instruction so far, the Reader. -/
structure Rw (w : World) (L : List Nat) (o : Option (List Nat)) (f1 f2 f3 f4 f5 : Int) (W : World) : Prop where
  g : Gr w W
  r : W.heap[w.heap.size]? = some (.cells #[.int .i64 0, .int .i64 0, .int .i64 0, .int .i64 0, .int .i32 0] 23 (0, 0))
  i : W.heap[w.heap.size + 1]? = some (.cells #[.int .i64 f1, .int .i64 f2, .int .i64 f3, .int .i64 f4, .int .i32 f5] 23 (0, 0))
  x : Rx W (w.heap.size + 1 + 1) L o
variable {L : List Nat} {o o' : Option (List Nat)} {f1 f2 f3 f4 f5 : Int} {a b : World}
theorem Rw.call (h : Rw w L o f1 f2 f3 f4 f5 a) (X : Rx b (w.heap.size + 1 + 1) L o') (k : Kp (w.heap.size + 1 + 1) a b) : Rw w L o' f1 f2 f3 f4 f5 b :=
  ⟨Below.grown h.g k (by have := (gs h.r).1; omega) (fun j hj => by injection hj with hj; omega), (k.block _ (gs h.r).1 (by simp; omega)).trans h.r, (k.block _ (gs h.i).1 (by simp)).trans h.i, X⟩
theorem Rx.keep {W W' : World} {g : Nat} (X : Rx W g L o) (h : W'.heap[g]? = W.heap[g]?) : Rx W' g L o := by
  obtain ⟨p, bad, h1, h2⟩ := X.ex
  exact ⟨p, bad, h.trans h1, h2⟩
theorem Rw.set (h : Rw w L o f1 f2 f3 f4 f5 a) (j : Nat) (v : Value) {g1 g2 g3 g4 g5 : Int} (e : (#[.int .i64 f1, .int .i64 f2, .int .i64 f3, .int .i64 f4, .int .i32 f5] : Array Value).setIfInBounds j v = #[.int .i64 g1, .int .i64 g2, .int .i64 g3, .int .i64 g4, .int .i32 g5]) :
    Rw w L o g1 g2 g3 g4 g5 (a.setCell ⟨w.heap.size + 1, j, none⟩ v) :=
  ⟨h.g.setCell (by simp) _, (hso (by simp)).trans h.r, (hss h.i).trans (by rw [e]), h.x.keep (hso (by simp))⟩
theorem spD_len : ∀ (k : Nat) (l : List Nat), (spD k l).1.length ≤ k
  | 0, l => by simp [spD]
  | _ + 1, [] => by simp [spD]
  | k + 1, d :: l => by
    have := spD_len k l
    unfold spD; split
    · simp; omega
    · simp
theorem numB_lt {l r : List Nat} {n : Int} (h : numB l = some (n, r)) : -10000000000 < n ∧ n < 10000000000 := by
  have key : ∀ (g : Bool) (l : List Nat), numD g (spD 10 l) = some (n, r) → -10000000000 < n ∧ n < 10000000000 := fun g l h => by
    have h1 := spD_isD 10 l
    have h2 : (spD 10 l).1.length ≤ 10 := spD_len 10 l
    have h3 := vl_lt _ _ rfl h1
    have h4 : 10 ^ (spD 10 l).1.length ≤ 10 ^ 10 := Nat.pow_le_pow_right (by omega) h2
    unfold numD at h
    split at h
    · cases h
    · simp only [Option.some.injEq, Prod.mk.injEq] at h
      obtain ⟨h, -⟩ := h
      split at h <;> omega
  unfold numB at h
  split at h
  · exact key _ _ h
  · exact key _ _ h
theorem fst_lt (o : Option (List Nat)) : -10000000000 < fstD (o.bind numB) ∧ fstD (o.bind numB) < 10000000000 := by
  unfold fstD
  cases e : o.bind numB with
  | none => simp
  | some p =>
    obtain ⟨l, rfl, h⟩ := Option.bind_eq_some_iff.1 e
    obtain ⟨n, r⟩ := p
    exact numB_lt h
end Go.Proofs.YtkdghgiajifbdaaDoor.As
