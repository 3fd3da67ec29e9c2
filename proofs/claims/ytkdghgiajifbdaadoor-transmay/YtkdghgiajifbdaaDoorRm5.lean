/-
  Whether small steps may be, by the document: named, May.
-/
import Derived.Test.YtkdghgiajifbdaaDoorMz
import Derived.Test.YtkdghgiajifbdaaDoorHc
namespace Go.Proofs.YtkdghgiajifbdaaDoor.Mi
open Go.ChangeShapes Go.WideShapes Go.ChangeAt Go.RowKit Mm Hh Hc
set_option linter.unusedVariables false
set_option linter.unusedSimpArgs false

variable {b : Bool} {α : Type} {i : Mv} {x : Int}
/-- In world w, the slice at ao of n elements reads as the small steps 'code'. -/
structure Cs (w : World) (ao : Option Addr) (n : Nat) (code : List Mv) : Prop where
  len : code.length = n
  wn : ∀ i ∈ code, W i.n
  wo : ∀ i ∈ code, -9223372036854775808 ≤ i.op ∧ i.op ≤ 9223372036854775807
  spot : 0 < n → ∃ b o, ao = some ⟨b, o, none⟩ ∧ b < w.heap.size ∧ ∀ j i, code[j]? = some i → w.cell? ⟨b, o + j * 5, none⟩ = some (.int .i64 i.op) ∧ w.cell? ⟨b, o + j * 5 + 1, none⟩ = some (.int .i64 i.d) ∧ w.cell? ⟨b, o + j * 5 + 2, none⟩ = some (.int .i64 i.a) ∧ w.cell? ⟨b, o + j * 5 + 3, none⟩ = some (.int .i64 i.b) ∧ w.cell? ⟨b, o + j * 5 + 4, none⟩ = some (.int .u32 i.n)
theorem Cs.of {w w' : World} {ao : Option Addr} {n : Nat} {code : List Mv} (h : Cs w ao n code) (g : Gr w w') : Cs w' ao n code :=
  ⟨h.len, h.wn, h.wo, fun hn => by
    obtain ⟨b, o, e, hb, hc⟩ := h.spot hn
    refine ⟨b, o, e, Nat.lt_of_lt_of_le hb g.size, fun j i hj => ?_⟩
    obtain ⟨h0, h1, h2, h3, h4⟩ := hc j i hj
    exact ⟨(g.cell _ (by exact hb)).trans h0, (g.cell _ (by exact hb)).trans h1, (g.cell _ (by exact hb)).trans h2, (g.cell _ (by exact hb)).trans h3, (g.cell _ (by exact hb)).trans h4⟩⟩
theorem retIn {k : IntKind} {a b : Int} (h : a = b) : Ending.returned (.int k a) = .returned (.int k b) := by rw [h]
theorem retB {a : Bool} (h : a = b) : Ending.returned (.bool a) = .returned (.bool b) := by rw [h]
/-- What is left of a number by 100, as the program reckons. -/
theorem left100 (op : Int) : ∃ s, op.tmod 100 = s ∧ ((0 ≤ op ∧ s = op % 100) ∨ (op < 0 ∧ s ≤ 0 ∧ op ≤ s ∧ -100 < s)) := by
  refine ⟨_, rfl, ?_⟩
  by_cases h : 0 ≤ op
  · exact .inl ⟨h, Int.tmod_eq_emod_of_nonneg h⟩
  · refine .inr ⟨by omega, ?_⟩
    have e : op.tmod 100 = -((-op) % 100) := by
      rw [show op = -(-op) by omega, Int.neg_tmod, Int.tmod_eq_emod_of_nonneg (by omega)]
      simp
    rw [e]
    omega

theorem named_1 (w : World) : Calls Tryd.prog 37 #[.int .i64 1] w fun e w' => e = .returned (.int .i64 (8)) ∧ w' = w := by
  go_enter Tryd.func37, Tryd.ntmps37
  go_wp2
  go_ret
  exact ⟨rfl, rfl⟩
theorem named_2 (w : World) : Calls Tryd.prog 37 #[.int .i64 2] w fun e w' => e = .returned (.int .i64 (9)) ∧ w' = w := by
  go_enter Tryd.func37, Tryd.ntmps37
  go_wp2
  go_ret
  exact ⟨rfl, rfl⟩
theorem named_3 (w : World) : Calls Tryd.prog 37 #[.int .i64 3] w fun e w' => e = .returned (.int .i64 (8)) ∧ w' = w := by
  go_enter Tryd.func37, Tryd.ntmps37
  go_wp2
  go_ret
  exact ⟨rfl, rfl⟩
theorem named_4 (w : World) : Calls Tryd.prog 37 #[.int .i64 4] w fun e w' => e = .returned (.int .i64 (10)) ∧ w' = w := by
  go_enter Tryd.func37, Tryd.ntmps37
  go_wp2
  go_ret
  exact ⟨rfl, rfl⟩
theorem named_5 (w : World) : Calls Tryd.prog 37 #[.int .i64 5] w fun e w' => e = .returned (.int .i64 (0)) ∧ w' = w := by
  go_enter Tryd.func37, Tryd.ntmps37
  go_wp2
  go_ret
  exact ⟨rfl, rfl⟩
theorem named_6 (w : World) : Calls Tryd.prog 37 #[.int .i64 6] w fun e w' => e = .returned (.int .i64 (0)) ∧ w' = w := by
  go_enter Tryd.func37, Tryd.ntmps37
  go_wp2
  go_ret
  exact ⟨rfl, rfl⟩
theorem named_100in (w : World) (op s : Int) (h0 : -9223372036854775808 ≤ op) (h1 : op ≤ 9223372036854775807) (hs : op.tmod 100 = s) (n1 : (op == 1) = false) (n2 : (op == 2) = false) (n3 : (op == 3) = false) (n4 : (op == 4) = false) (n5 : (op == 5) = false) (n6 : (op == 6) = false) (hc : op - s = 100) (l0 : 5 ≤ s) (l1 : s ≤ 10) : Calls Tryd.prog 37 #[.int .i64 op] w fun e w' => e = .returned (.int .i64 (14)) ∧ w' = w := by
  go_enter Tryd.func37, Tryd.ntmps37
  go_wp2
  go_ret
  exact ⟨rfl, rfl⟩
theorem named_100lo (w : World) (op s : Int) (h0 : -9223372036854775808 ≤ op) (h1 : op ≤ 9223372036854775807) (hs : op.tmod 100 = s) (n1 : (op == 1) = false) (n2 : (op == 2) = false) (n3 : (op == 3) = false) (n4 : (op == 4) = false) (n5 : (op == 5) = false) (n6 : (op == 6) = false) (hc : op - s = 100) (l0 : s < 5) : Calls Tryd.prog 37 #[.int .i64 op] w fun e w' => e = .returned (.int .i64 (-1)) ∧ w' = w := by
  go_enter Tryd.func37, Tryd.ntmps37
  go_wp2
  go_ret
  exact ⟨rfl, rfl⟩
theorem named_100hi (w : World) (op s : Int) (h0 : -9223372036854775808 ≤ op) (h1 : op ≤ 9223372036854775807) (hs : op.tmod 100 = s) (n1 : (op == 1) = false) (n2 : (op == 2) = false) (n3 : (op == 3) = false) (n4 : (op == 4) = false) (n5 : (op == 5) = false) (n6 : (op == 6) = false) (hc : op - s = 100) (l0 : 5 ≤ s) (l1 : 10 < s) : Calls Tryd.prog 37 #[.int .i64 op] w fun e w' => e = .returned (.int .i64 (-1)) ∧ w' = w := by
  go_enter Tryd.func37, Tryd.ntmps37
  go_wp2
  go_ret
  exact ⟨rfl, rfl⟩
theorem named_200in (w : World) (op s : Int) (h0 : -9223372036854775808 ≤ op) (h1 : op ≤ 9223372036854775807) (hs : op.tmod 100 = s) (n1 : (op == 1) = false) (n2 : (op == 2) = false) (n3 : (op == 3) = false) (n4 : (op == 4) = false) (n5 : (op == 5) = false) (n6 : (op == 6) = false) (hc : op - s = 200) (l0 : 11 ≤ s) (l1 : s ≤ 15) : Calls Tryd.prog 37 #[.int .i64 op] w fun e w' => e = .returned (.int .i64 (11)) ∧ w' = w := by
  go_enter Tryd.func37, Tryd.ntmps37
  go_wp2
  go_ret
  exact ⟨rfl, rfl⟩
theorem named_200lo (w : World) (op s : Int) (h0 : -9223372036854775808 ≤ op) (h1 : op ≤ 9223372036854775807) (hs : op.tmod 100 = s) (n1 : (op == 1) = false) (n2 : (op == 2) = false) (n3 : (op == 3) = false) (n4 : (op == 4) = false) (n5 : (op == 5) = false) (n6 : (op == 6) = false) (hc : op - s = 200) (l0 : s < 11) : Calls Tryd.prog 37 #[.int .i64 op] w fun e w' => e = .returned (.int .i64 (-1)) ∧ w' = w := by
  go_enter Tryd.func37, Tryd.ntmps37
  go_wp2
  go_ret
  exact ⟨rfl, rfl⟩
theorem named_200hi (w : World) (op s : Int) (h0 : -9223372036854775808 ≤ op) (h1 : op ≤ 9223372036854775807) (hs : op.tmod 100 = s) (n1 : (op == 1) = false) (n2 : (op == 2) = false) (n3 : (op == 3) = false) (n4 : (op == 4) = false) (n5 : (op == 5) = false) (n6 : (op == 6) = false) (hc : op - s = 200) (l0 : 11 ≤ s) (l1 : 15 < s) : Calls Tryd.prog 37 #[.int .i64 op] w fun e w' => e = .returned (.int .i64 (-1)) ∧ w' = w := by
  go_enter Tryd.func37, Tryd.ntmps37
  go_wp2
  go_ret
  exact ⟨rfl, rfl⟩
theorem named_300in (w : World) (op s : Int) (h0 : -9223372036854775808 ≤ op) (h1 : op ≤ 9223372036854775807) (hs : op.tmod 100 = s) (n1 : (op == 1) = false) (n2 : (op == 2) = false) (n3 : (op == 3) = false) (n4 : (op == 4) = false) (n5 : (op == 5) = false) (n6 : (op == 6) = false) (hc : op - s = 300) (l0 : 16 ≤ s) (l1 : s ≤ 18) : Calls Tryd.prog 37 #[.int .i64 op] w fun e w' => e = .returned (.int .i64 (14)) ∧ w' = w := by
  go_enter Tryd.func37, Tryd.ntmps37
  go_wp2
  go_ret
  exact ⟨rfl, rfl⟩
theorem named_300lo (w : World) (op s : Int) (h0 : -9223372036854775808 ≤ op) (h1 : op ≤ 9223372036854775807) (hs : op.tmod 100 = s) (n1 : (op == 1) = false) (n2 : (op == 2) = false) (n3 : (op == 3) = false) (n4 : (op == 4) = false) (n5 : (op == 5) = false) (n6 : (op == 6) = false) (hc : op - s = 300) (l0 : s < 16) : Calls Tryd.prog 37 #[.int .i64 op] w fun e w' => e = .returned (.int .i64 (-1)) ∧ w' = w := by
  go_enter Tryd.func37, Tryd.ntmps37
  go_wp2
  go_ret
  exact ⟨rfl, rfl⟩
theorem named_300hi (w : World) (op s : Int) (h0 : -9223372036854775808 ≤ op) (h1 : op ≤ 9223372036854775807) (hs : op.tmod 100 = s) (n1 : (op == 1) = false) (n2 : (op == 2) = false) (n3 : (op == 3) = false) (n4 : (op == 4) = false) (n5 : (op == 5) = false) (n6 : (op == 6) = false) (hc : op - s = 300) (l0 : 16 ≤ s) (l1 : 18 < s) : Calls Tryd.prog 37 #[.int .i64 op] w fun e w' => e = .returned (.int .i64 (-1)) ∧ w' = w := by
  go_enter Tryd.func37, Tryd.ntmps37
  go_wp2
  go_ret
  exact ⟨rfl, rfl⟩
theorem named_400in (w : World) (op s : Int) (h0 : -9223372036854775808 ≤ op) (h1 : op ≤ 9223372036854775807) (hs : op.tmod 100 = s) (n1 : (op == 1) = false) (n2 : (op == 2) = false) (n3 : (op == 3) = false) (n4 : (op == 4) = false) (n5 : (op == 5) = false) (n6 : (op == 6) = false) (hc : op - s = 400) (l0 : 28 ≤ s) (l1 : s ≤ 45) : Calls Tryd.prog 37 #[.int .i64 op] w fun e w' => e = .returned (.int .i64 (7)) ∧ w' = w := by
  go_enter Tryd.func37, Tryd.ntmps37
  go_wp2
  go_ret
  exact ⟨rfl, rfl⟩
theorem named_400lo (w : World) (op s : Int) (h0 : -9223372036854775808 ≤ op) (h1 : op ≤ 9223372036854775807) (hs : op.tmod 100 = s) (n1 : (op == 1) = false) (n2 : (op == 2) = false) (n3 : (op == 3) = false) (n4 : (op == 4) = false) (n5 : (op == 5) = false) (n6 : (op == 6) = false) (hc : op - s = 400) (l0 : s < 28) : Calls Tryd.prog 37 #[.int .i64 op] w fun e w' => e = .returned (.int .i64 (-1)) ∧ w' = w := by
  go_enter Tryd.func37, Tryd.ntmps37
  go_wp2
  go_ret
  exact ⟨rfl, rfl⟩
theorem named_400hi (w : World) (op s : Int) (h0 : -9223372036854775808 ≤ op) (h1 : op ≤ 9223372036854775807) (hs : op.tmod 100 = s) (n1 : (op == 1) = false) (n2 : (op == 2) = false) (n3 : (op == 3) = false) (n4 : (op == 4) = false) (n5 : (op == 5) = false) (n6 : (op == 6) = false) (hc : op - s = 400) (l0 : 28 ≤ s) (l1 : 45 < s) : Calls Tryd.prog 37 #[.int .i64 op] w fun e w' => e = .returned (.int .i64 (-1)) ∧ w' = w := by
  go_enter Tryd.func37, Tryd.ntmps37
  go_wp2
  go_ret
  exact ⟨rfl, rfl⟩
theorem named_500in (w : World) (op s : Int) (h0 : -9223372036854775808 ≤ op) (h1 : op ≤ 9223372036854775807) (hs : op.tmod 100 = s) (n1 : (op == 1) = false) (n2 : (op == 2) = false) (n3 : (op == 3) = false) (n4 : (op == 4) = false) (n5 : (op == 5) = false) (n6 : (op == 6) = false) (hc : op - s = 500) (l0 : 28 ≤ s) (l1 : s ≤ 45) : Calls Tryd.prog 37 #[.int .i64 op] w fun e w' => e = .returned (.int .i64 (11)) ∧ w' = w := by
  go_enter Tryd.func37, Tryd.ntmps37
  go_wp2
  go_ret
  exact ⟨rfl, rfl⟩
theorem named_500lo (w : World) (op s : Int) (h0 : -9223372036854775808 ≤ op) (h1 : op ≤ 9223372036854775807) (hs : op.tmod 100 = s) (n1 : (op == 1) = false) (n2 : (op == 2) = false) (n3 : (op == 3) = false) (n4 : (op == 4) = false) (n5 : (op == 5) = false) (n6 : (op == 6) = false) (hc : op - s = 500) (l0 : s < 28) : Calls Tryd.prog 37 #[.int .i64 op] w fun e w' => e = .returned (.int .i64 (-1)) ∧ w' = w := by
  go_enter Tryd.func37, Tryd.ntmps37
  go_wp2
  go_ret
  exact ⟨rfl, rfl⟩
theorem named_500hi (w : World) (op s : Int) (h0 : -9223372036854775808 ≤ op) (h1 : op ≤ 9223372036854775807) (hs : op.tmod 100 = s) (n1 : (op == 1) = false) (n2 : (op == 2) = false) (n3 : (op == 3) = false) (n4 : (op == 4) = false) (n5 : (op == 5) = false) (n6 : (op == 6) = false) (hc : op - s = 500) (l0 : 28 ≤ s) (l1 : 45 < s) : Calls Tryd.prog 37 #[.int .i64 op] w fun e w' => e = .returned (.int .i64 (-1)) ∧ w' = w := by
  go_enter Tryd.func37, Tryd.ntmps37
  go_wp2
  go_ret
  exact ⟨rfl, rfl⟩
theorem named_600in (w : World) (op s : Int) (h0 : -9223372036854775808 ≤ op) (h1 : op ≤ 9223372036854775807) (hs : op.tmod 100 = s) (n1 : (op == 1) = false) (n2 : (op == 2) = false) (n3 : (op == 3) = false) (n4 : (op == 4) = false) (n5 : (op == 5) = false) (n6 : (op == 6) = false) (hc : op - s = 600) (l0 : 46 ≤ s) (l1 : s ≤ 56) : Calls Tryd.prog 37 #[.int .i64 op] w fun e w' => e = .returned (.int .i64 (7)) ∧ w' = w := by
  go_enter Tryd.func37, Tryd.ntmps37
  go_wp2
  go_ret
  exact ⟨rfl, rfl⟩
theorem named_600lo (w : World) (op s : Int) (h0 : -9223372036854775808 ≤ op) (h1 : op ≤ 9223372036854775807) (hs : op.tmod 100 = s) (n1 : (op == 1) = false) (n2 : (op == 2) = false) (n3 : (op == 3) = false) (n4 : (op == 4) = false) (n5 : (op == 5) = false) (n6 : (op == 6) = false) (hc : op - s = 600) (l0 : s < 46) : Calls Tryd.prog 37 #[.int .i64 op] w fun e w' => e = .returned (.int .i64 (-1)) ∧ w' = w := by
  go_enter Tryd.func37, Tryd.ntmps37
  go_wp2
  go_ret
  exact ⟨rfl, rfl⟩
theorem named_600hi (w : World) (op s : Int) (h0 : -9223372036854775808 ≤ op) (h1 : op ≤ 9223372036854775807) (hs : op.tmod 100 = s) (n1 : (op == 1) = false) (n2 : (op == 2) = false) (n3 : (op == 3) = false) (n4 : (op == 4) = false) (n5 : (op == 5) = false) (n6 : (op == 6) = false) (hc : op - s = 600) (l0 : 46 ≤ s) (l1 : 56 < s) : Calls Tryd.prog 37 #[.int .i64 op] w fun e w' => e = .returned (.int .i64 (-1)) ∧ w' = w := by
  go_enter Tryd.func37, Tryd.ntmps37
  go_wp2
  go_ret
  exact ⟨rfl, rfl⟩
theorem named_out (w : World) (op s : Int) (h0 : -9223372036854775808 ≤ op) (h1 : op ≤ 9223372036854775807) (hs : op.tmod 100 = s) (n1 : (op == 1) = false) (n2 : (op == 2) = false) (n3 : (op == 3) = false) (n4 : (op == 4) = false) (n5 : (op == 5) = false) (n6 : (op == 6) = false) (m100 : (op - s == 100) = false) (m200 : (op - s == 200) = false) (m300 : (op - s == 300) = false) (m400 : (op - s == 400) = false) (m500 : (op - s == 500) = false) (m600 : (op - s == 600) = false) (b0 : -9223372036854775808 ≤ op - s) (b1 : op - s ≤ 9223372036854775807) : Calls Tryd.prog 37 #[.int .i64 op] w fun e w' => e = .returned (.int .i64 (-1)) ∧ w' = w := by
  generalize hc : op - s = c at *
  go_enter Tryd.func37, Tryd.ntmps37
  go_wp2
  go_ret
  exact ⟨rfl, rfl⟩
set_option maxHeartbeats 8000000 in
theorem named_any (op : Int) (w : World) (h0 : -9223372036854775808 ≤ op) (h1 : op ≤ 9223372036854775807) : Calls Tryd.prog 37 #[.int .i64 op] w fun e w' => e = .returned (.int .i64 (named op)) ∧ w' = w := by
  obtain ⟨s, hs, hb⟩ := left100 op
  by_cases e1 : op = 1
  · subst e1; exact named_1 w
  by_cases e2 : op = 2
  · subst e2; exact named_2 w
  by_cases e3 : op = 3
  · subst e3; exact named_3 w
  by_cases e4 : op = 4
  · subst e4; exact named_4 w
  by_cases e5 : op = 5
  · subst e5; exact named_5 w
  by_cases e6 : op = 6
  · subst e6; exact named_6 w
  by_cases c100 : op - s = 100
  · by_cases l0 : 5 ≤ s
    · by_cases l1 : s ≤ 10
      · have en : named op = 14 := by
          unfold named
          repeat' split
          all_goals omega
        rw [en]
        exact named_100in w op s h0 h1 hs (by simp; omega) (by simp; omega) (by simp; omega) (by simp; omega) (by simp; omega) (by simp; omega) c100 l0 l1
      · have en : named op = -1 := by
          unfold named
          repeat' split
          all_goals omega
        rw [en]
        exact named_100hi w op s h0 h1 hs (by simp; omega) (by simp; omega) (by simp; omega) (by simp; omega) (by simp; omega) (by simp; omega) c100 l0 (by omega)
    · have en : named op = -1 := by
        unfold named
        repeat' split
        all_goals omega
      rw [en]
      exact named_100lo w op s h0 h1 hs (by simp; omega) (by simp; omega) (by simp; omega) (by simp; omega) (by simp; omega) (by simp; omega) c100 (by omega)
  by_cases c200 : op - s = 200
  · by_cases l0 : 11 ≤ s
    · by_cases l1 : s ≤ 15
      · have en : named op = 11 := by
          unfold named
          repeat' split
          all_goals omega
        rw [en]
        exact named_200in w op s h0 h1 hs (by simp; omega) (by simp; omega) (by simp; omega) (by simp; omega) (by simp; omega) (by simp; omega) c200 l0 l1
      · have en : named op = -1 := by
          unfold named
          repeat' split
          all_goals omega
        rw [en]
        exact named_200hi w op s h0 h1 hs (by simp; omega) (by simp; omega) (by simp; omega) (by simp; omega) (by simp; omega) (by simp; omega) c200 l0 (by omega)
    · have en : named op = -1 := by
        unfold named
        repeat' split
        all_goals omega
      rw [en]
      exact named_200lo w op s h0 h1 hs (by simp; omega) (by simp; omega) (by simp; omega) (by simp; omega) (by simp; omega) (by simp; omega) c200 (by omega)
  by_cases c300 : op - s = 300
  · by_cases l0 : 16 ≤ s
    · by_cases l1 : s ≤ 18
      · have en : named op = 14 := by
          unfold named
          repeat' split
          all_goals omega
        rw [en]
        exact named_300in w op s h0 h1 hs (by simp; omega) (by simp; omega) (by simp; omega) (by simp; omega) (by simp; omega) (by simp; omega) c300 l0 l1
      · have en : named op = -1 := by
          unfold named
          repeat' split
          all_goals omega
        rw [en]
        exact named_300hi w op s h0 h1 hs (by simp; omega) (by simp; omega) (by simp; omega) (by simp; omega) (by simp; omega) (by simp; omega) c300 l0 (by omega)
    · have en : named op = -1 := by
        unfold named
        repeat' split
        all_goals omega
      rw [en]
      exact named_300lo w op s h0 h1 hs (by simp; omega) (by simp; omega) (by simp; omega) (by simp; omega) (by simp; omega) (by simp; omega) c300 (by omega)
  by_cases c400 : op - s = 400
  · by_cases l0 : 28 ≤ s
    · by_cases l1 : s ≤ 45
      · have en : named op = 7 := by
          unfold named
          repeat' split
          all_goals omega
        rw [en]
        exact named_400in w op s h0 h1 hs (by simp; omega) (by simp; omega) (by simp; omega) (by simp; omega) (by simp; omega) (by simp; omega) c400 l0 l1
      · have en : named op = -1 := by
          unfold named
          repeat' split
          all_goals omega
        rw [en]
        exact named_400hi w op s h0 h1 hs (by simp; omega) (by simp; omega) (by simp; omega) (by simp; omega) (by simp; omega) (by simp; omega) c400 l0 (by omega)
    · have en : named op = -1 := by
        unfold named
        repeat' split
        all_goals omega
      rw [en]
      exact named_400lo w op s h0 h1 hs (by simp; omega) (by simp; omega) (by simp; omega) (by simp; omega) (by simp; omega) (by simp; omega) c400 (by omega)
  by_cases c500 : op - s = 500
  · by_cases l0 : 28 ≤ s
    · by_cases l1 : s ≤ 45
      · have en : named op = 11 := by
          unfold named
          repeat' split
          all_goals omega
        rw [en]
        exact named_500in w op s h0 h1 hs (by simp; omega) (by simp; omega) (by simp; omega) (by simp; omega) (by simp; omega) (by simp; omega) c500 l0 l1
      · have en : named op = -1 := by
          unfold named
          repeat' split
          all_goals omega
        rw [en]
        exact named_500hi w op s h0 h1 hs (by simp; omega) (by simp; omega) (by simp; omega) (by simp; omega) (by simp; omega) (by simp; omega) c500 l0 (by omega)
    · have en : named op = -1 := by
        unfold named
        repeat' split
        all_goals omega
      rw [en]
      exact named_500lo w op s h0 h1 hs (by simp; omega) (by simp; omega) (by simp; omega) (by simp; omega) (by simp; omega) (by simp; omega) c500 (by omega)
  by_cases c600 : op - s = 600
  · by_cases l0 : 46 ≤ s
    · by_cases l1 : s ≤ 56
      · have en : named op = 7 := by
          unfold named
          repeat' split
          all_goals omega
        rw [en]
        exact named_600in w op s h0 h1 hs (by simp; omega) (by simp; omega) (by simp; omega) (by simp; omega) (by simp; omega) (by simp; omega) c600 l0 l1
      · have en : named op = -1 := by
          unfold named
          repeat' split
          all_goals omega
        rw [en]
        exact named_600hi w op s h0 h1 hs (by simp; omega) (by simp; omega) (by simp; omega) (by simp; omega) (by simp; omega) (by simp; omega) c600 l0 (by omega)
    · have en : named op = -1 := by
        unfold named
        repeat' split
        all_goals omega
      rw [en]
      exact named_600lo w op s h0 h1 hs (by simp; omega) (by simp; omega) (by simp; omega) (by simp; omega) (by simp; omega) (by simp; omega) c600 (by omega)
  have en : named op = -1 := by
    unfold named
    repeat' split
    all_goals omega
  rw [en]
  exact named_out w op s h0 h1 hs (by simp; omega) (by simp; omega) (by simp; omega) (by simp; omega) (by simp; omega) (by simp; omega) (by simp; omega) (by simp; omega) (by simp; omega) (by simp; omega) (by simp; omega) (by simp; omega) (by omega) (by omega)
def pw : Nat → Int
  | 0 => 1
  | 1 => 2
  | 2 => 4
  | _ => 8
theorem named_vals {op : Int} (h : 0 ≤ named op) : named op = 0 ∨ named op = 7 ∨ named op = 8 ∨ named op = 9 ∨ named op = 10 ∨ named op = 11 ∨ named op = 14 := by
  unfold named at *
  repeat' split at h
  all_goals (repeat' split)
  all_goals omega
theorem all_take1 (f : α → Bool) (l : List α) (k : Nat) (x : α) (h : l[k]? = some x) : (l.take (k + 1)).all f = ((l.take k).all f && f x) := by
  rw [List.take_add_one, h]
  simp
theorem all_no {f : α → Bool} {l : List α} {k : Nat} {x : α} (h : l[k]? = some x) (hx : f x = false) : l.all f = false := by
  rw [List.all_eq_false]
  exact ⟨x, List.mem_of_getElem? h, by simp [hx]⟩
theorem mic_no1 (h : named i.op < 0) : micOk i = false := by unfold micOk; rw [decide_eq_false (by omega)]; rfl
theorem mic_no2 (h : named i.op < 8) (h2 : ¬ i.n = 0) : micOk i = false := by unfold micOk; rw [decide_eq_false (p := 8 ≤ named i.op ∨ i.n = 0) (by omega)]; simp
theorem mic_no3 (h : regOk (decide (named i.op % 2 = 1)) i.d = false) : micOk i = false := by unfold micOk; rw [h]; simp
theorem mic_no4 (h : regOk (decide (named i.op / 2 % 2 = 1)) i.a = false) : micOk i = false := by unfold micOk; rw [h]; simp
theorem mic_no5 (h : regOk (decide (named i.op / 4 % 2 = 1)) i.b = false) : micOk i = false := by unfold micOk; rw [h]; simp
theorem mic_yes (h : 0 ≤ named i.op) (h2 : 8 ≤ named i.op ∨ i.n = 0) (h3 : regOk (decide (named i.op % 2 = 1)) i.d = true) (h4 : regOk (decide (named i.op / 2 % 2 = 1)) i.a = true) (h5 : regOk (decide (named i.op / 4 % 2 = 1)) i.b = true) : micOk i = true := by
  unfold micOk; rw [h3, h4, h5, decide_eq_true h, decide_eq_true h2]; rfl
theorem reg_no (h : (b = false ∧ ¬ x = 0) ∨ x < 0 ∨ 36 ≤ x) : regOk b x = false := by
  unfold regOk
  refine decide_eq_false ?_
  rintro ⟨h1, h2, h3⟩
  rcases h with ⟨h4, h5⟩ | h4 | h4
  · rcases h1 with h1 | h1
    · rw [h4] at h1; cases h1
    · exact h5 h1
  · omega
  · omega
theorem reg_yes (h : b = true ∨ x = 0) (h0 : 0 ≤ x) (h1 : x < 36) : regOk b x = true := decide_eq_true ⟨h, h0, h1⟩
end Go.Proofs.YtkdghgiajifbdaaDoor.Mi
