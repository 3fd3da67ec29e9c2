/-
  Pb, Ru, Rm1, Rm2, Rm3, Rm4, Rm7, Rm8, Pc, Pl: texts of ours that lie in one file.
-/
import Derived.Test.YtchllaeembmioaaGreatDoorR19
import Derived.Test.YtchllaeembmioaaGreatDoorR08
import Derived.Test.YtchllaeembmioaaGreatDoorR07
import Derived.Test.YtchllaeembmioaaGreatDoorR05
import Derived.Test.YtchllaeembmioaaGreatDoorR14
import Derived.Test.YtchllaeembmioaaGreatDoorR13
import Derived.Test.YtchllaeembmioaaGreatDoorR29
import Derived.Deep.RegionHeld3
set_option linter.unusedVariables false
set_option linter.unusedSimpArgs false
set_option maxHeartbeats 8000000
set_option maxRecDepth 100000
namespace Go.Proofs.YtchllaeembmioaaGreatDoor.Mp
open Go.ChangeShapes Go.WideShapes Go.ChangeAt Go.RowKit Mm Hh Hc Mi

def rowsT : List (Int × Int × Int) := [(1, 1, 8), (2, 2, 9), (3, 3, 8), (4, 4, 10), (5, 6, 0), (105, 110, 14), (211, 215, 11), (316, 318, 14), (428, 445, 7), (528, 545, 11), (646, 656, 7)]
def rowsL : List Int := rowsT.flatMap fun p => [p.1, p.2.1, p.2.2]
structure Tr (w : World) : Prop where
  rows : ∀ i n, rowsL[i]? = some n → w.cell? ⟨3, i, none⟩ = some (.int .i64 n)
  b : 3 < w.heap.size
theorem Tr.of {w w' : World} (T : Tr w) (g : Gr w w') : Tr w' := ⟨fun i n h => (g.cell _ (by exact T.b)).trans (T.rows i n h), Nat.lt_of_lt_of_le T.b g.size⟩
theorem row_at {j : Nat} (h : j < 11) : ∃ f l k, rowsT[j]? = some (f, l, k) ∧ rowsL[j * 3]? = some f ∧ rowsL[j * 3 + 1]? = some l ∧ rowsL[j * 3 + 2]? = some k ∧ (k = 0 ∨ k = 7 ∨ k = 8 ∨ k = 9 ∨ k = 10 ∨ k = 11 ∨ k = 14) ∧ ∀ op, f ≤ op → op ≤ l → named op = k := by
  have : j = 0 ∨ j = 1 ∨ j = 2 ∨ j = 3 ∨ j = 4 ∨ j = 5 ∨ j = 6 ∨ j = 7 ∨ j = 8 ∨ j = 9 ∨ j = 10 := by omega
  rcases this with rfl | rfl | rfl | rfl | rfl | rfl | rfl | rfl | rfl | rfl | rfl <;>
    refine ⟨_, _, _, rfl, rfl, rfl, rfl, by decide, fun op h1 h2 => ?_⟩ <;> unfold named <;> repeat (first | rw [if_pos (by omega)] | rw [if_neg (by omega)])
theorem named_none {op : Int} (h : ∀ (j : Nat) (f l k : Int), rowsT[j]? = some (f, l, k) → ¬ (f ≤ op ∧ op ≤ l)) : named op < 0 := by
  by_cases hn : 0 ≤ named op
  · exfalso
    rcases named_cases hn with q | q | q | q | q | q | q | q | q | q | q | q
    · exact h 0 _ _ _ rfl (by omega)
    · exact h 1 _ _ _ rfl (by omega)
    · exact h 2 _ _ _ rfl (by omega)
    · exact h 3 _ _ _ rfl (by omega)
    · exact h 4 _ _ _ rfl (by omega)
    · exact h 4 _ _ _ rfl (by omega)
    · exact h 5 _ _ _ rfl (by omega)
    · exact h 6 _ _ _ rfl (by omega)
    · exact h 7 _ _ _ rfl (by omega)
    · exact h 8 _ _ _ rfl (by omega)
    · exact h 9 _ _ _ rfl (by omega)
    · exact h 10 _ _ _ rfl (by omega)
  · omega
theorem within_any (n a b : Int) (w : World) : Calls Tryz.prog 75 #[.int .i64 n, .int .i64 a, .int .i64 b] w fun e w' => e = .returned (.bool (decide (a ≤ n ∧ n ≤ b))) ∧ w' = w := by
  by_cases h1 : a ≤ n
  · by_cases h2 : n ≤ b
    · rw [decide_eq_true ⟨h1, h2⟩]
      go_enter Tryz.func75, Tryz.ntmps75
      go_wp2
      go_ret
      exact ⟨by simp [h1, h2], rfl⟩
    · rw [decide_eq_false (fun q => h2 q.2)]
      go_enter Tryz.func75, Tryz.ntmps75
      go_wp2
      go_ret
      exact ⟨by simp [h1, h2], rfl⟩
  · rw [decide_eq_false (fun q => h1 q.1)]
    go_enter Tryz.func75, Tryz.ntmps75
    go_wp2
    go_ret
    exact ⟨by simp [h1], rfl⟩
def fitB (k : Int) (i : Mv) : Bool := regOk (decide (k % 2 = 1)) i.d && (regOk (decide (k / 2 % 2 = 1)) i.a && (regOk (decide (k / 4 % 2 = 1)) i.b && decide (8 ≤ k ∨ i.n = 0)))
theorem fit_ok {i : Mv} {k : Int} (h : named i.op = k) (h0 : 0 ≤ k) : micOk i = fitB k i := by
  unfold micOk fitB
  rw [h, decide_eq_true h0, Bool.true_and]
  generalize regOk (decide (k % 2 = 1)) i.d = a
  generalize regOk (decide (k / 2 % 2 = 1)) i.a = b
  generalize regOk (decide (k / 4 % 2 = 1)) i.b = c
  generalize decide (8 ≤ k ∨ i.n = 0) = d
  cases a <;> cases b <;> cases c <;> cases d <;> rfl
def mvA (i : Mv) : Array Value := #[.int .i64 i.op, .int .i64 i.d, .int .i64 i.a, .int .i64 i.b, .int .u32 i.n]
theorem reg0 {w : World} {B : Nat} {K b : Int} (kb : w.cell? ⟨B, 0, none⟩ = some (.int .i64 K)) (hz : bits .and .i64 K b = 0) (x : Int) :
    Calls Tryz.prog 143 #[.int .i64 x, .int .i64 b, .pointer (some ⟨B, 0, none⟩)] w fun e w' => e = .returned (.bool (regOk false x)) ∧ w' = w := by
  have HE : Hid (regOk false x = (x == 0)) := by
    unfold Hid regOk
    by_cases h : x = 0
    · subst h; rfl
    · rw [decide_eq_false (by simp [h])]
      simp [h]
  rw [HE.out]
  go_enter Tryz.func143, Tryz.ntmps143
  go_wp2_with fail
  go_ret
  exact ⟨rfl, rfl⟩
theorem reg1 {w : World} {B : Nat} {K b : Int} (kb : w.cell? ⟨B, 0, none⟩ = some (.int .i64 K)) (hz : (bits .and .i64 K b == 0) = false) (x : Int) :
    Calls Tryz.prog 143 #[.int .i64 x, .int .i64 b, .pointer (some ⟨B, 0, none⟩)] w fun e w' => e = .returned (.bool (regOk true x)) ∧ w' = w := by
  have HE : Hid (regOk true x = decide (0 ≤ x ∧ x ≤ 35)) := by
    unfold Hid regOk
    rw [decide_eq_decide]
    simp only [true_or, true_and]
    omega
  rw [HE.out]
  have Wi : Hid (Calls Tryz.prog 75 #[.int .i64 x, .int .i64 0, .int .i64 35] w fun e w' => e = .returned (.bool (decide (0 ≤ x ∧ x ≤ 35))) ∧ w' = w) := within_any x 0 35 w
  generalize decide (0 ≤ x ∧ x ≤ 35) = q at *
  go_enter Tryz.func143, Tryz.ntmps143
  go_wp2_with fail
  refine Wi.out.mono ?_
  rintro e w' ⟨rfl, rfl⟩
  clear Wi
  go_wp2_with fail
  go_ret
  exact ⟨rfl, rfl⟩
theorem fits_n0 {K : Int} {x1 x2 x3 : Bool} (op d a b n : Int) (w : World) (h8 : bits .and .i64 K 8 = 0) (C1 : ∀ (W : World) (B : Nat), W.cell? ⟨B, 0, none⟩ = some (.int .i64 K) → Calls Tryz.prog 143 #[.int .i64 d, .int .i64 1, .pointer (some ⟨B, 0, none⟩)] W fun e w' => e = .returned (.bool x1) ∧ w' = W)
    (C2 : ∀ (W : World) (B : Nat), W.cell? ⟨B, 0, none⟩ = some (.int .i64 K) → Calls Tryz.prog 143 #[.int .i64 a, .int .i64 2, .pointer (some ⟨B, 0, none⟩)] W fun e w' => e = .returned (.bool x2) ∧ w' = W)
    (C3 : ∀ (W : World) (B : Nat), W.cell? ⟨B, 0, none⟩ = some (.int .i64 K) → Calls Tryz.prog 143 #[.int .i64 b, .int .i64 4, .pointer (some ⟨B, 0, none⟩)] W fun e w' => e = .returned (.bool x3) ∧ w' = W) :
    Calls Tryz.prog 122 #[.agg #[.int .i64 op, .int .i64 d, .int .i64 a, .int .i64 b, .int .u32 n], .int .i64 K] w fun e w' => e = .returned (.bool (x1 && (x2 && (x3 && (n == 0))))) ∧ Gr w w' := by
  have H1 : Hid (∀ (W : World) (B : Nat), W.cell? ⟨B, 0, none⟩ = some (.int .i64 K) → Calls Tryz.prog 143 #[.int .i64 d, .int .i64 1, .pointer (some ⟨B, 0, none⟩)] W fun e w' => e = .returned (.bool x1) ∧ w' = W) := C1
  have H2 : Hid (∀ (W : World) (B : Nat), W.cell? ⟨B, 0, none⟩ = some (.int .i64 K) → Calls Tryz.prog 143 #[.int .i64 a, .int .i64 2, .pointer (some ⟨B, 0, none⟩)] W fun e w' => e = .returned (.bool x2) ∧ w' = W) := C2
  have H3 : Hid (∀ (W : World) (B : Nat), W.cell? ⟨B, 0, none⟩ = some (.int .i64 K) → Calls Tryz.prog 143 #[.int .i64 b, .int .i64 4, .pointer (some ⟨B, 0, none⟩)] W fun e w' => e = .returned (.bool x3) ∧ w' = W) := C3
  have HK : Hid (((w.alloc (.cells #[.int .i64 op, .int .i64 d, .int .i64 a, .int .i64 b, .int .u32 n] 166)).alloc (.cells #[.int .i64 K] 3)).cell? ⟨w.heap.size + 1, 0, none⟩ = some (.int .i64 K)) := cell_of_row _ _ _ _ _ _ (heap_alloc2_new w _ _)
  clear C1 C2 C3
  cases x1
  · go_enter Tryz.func122, Tryz.ntmps122
    go_wp2_with fail
    refine (H1.out _ _ HK.out).mono ?_
    rintro e w' ⟨rfl, rfl⟩
    go_wp2_with fail
    go_ret
    exact ⟨rfl, ((Gr.refl _).alloc _).alloc _⟩
  cases x2
  · go_enter Tryz.func122, Tryz.ntmps122
    go_wp2_with fail
    refine (H1.out _ _ HK.out).mono ?_
    rintro e w' ⟨rfl, rfl⟩
    go_wp2_with fail
    refine (H2.out _ _ HK.out).mono ?_
    rintro e w' ⟨rfl, rfl⟩
    go_wp2_with fail
    go_ret
    exact ⟨rfl, ((Gr.refl _).alloc _).alloc _⟩
  cases x3
  all_goals
    go_enter Tryz.func122, Tryz.ntmps122
    go_wp2_with fail
    refine (H1.out _ _ HK.out).mono ?_
    rintro e w' ⟨rfl, rfl⟩
    go_wp2_with fail
    refine (H2.out _ _ HK.out).mono ?_
    rintro e w' ⟨rfl, rfl⟩
    go_wp2_with fail
    refine (H3.out _ _ HK.out).mono ?_
    rintro e w' ⟨rfl, rfl⟩
    go_wp2_with fail
    go_ret
    exact ⟨by simp, ((Gr.refl _).alloc _).alloc _⟩
theorem fits_n8 {K : Int} {x1 x2 x3 : Bool} (op d a b n : Int) (w : World) (h8 : (bits .and .i64 K 8 != 0) = true) (C1 : ∀ (W : World) (B : Nat), W.cell? ⟨B, 0, none⟩ = some (.int .i64 K) → Calls Tryz.prog 143 #[.int .i64 d, .int .i64 1, .pointer (some ⟨B, 0, none⟩)] W fun e w' => e = .returned (.bool x1) ∧ w' = W)
    (C2 : ∀ (W : World) (B : Nat), W.cell? ⟨B, 0, none⟩ = some (.int .i64 K) → Calls Tryz.prog 143 #[.int .i64 a, .int .i64 2, .pointer (some ⟨B, 0, none⟩)] W fun e w' => e = .returned (.bool x2) ∧ w' = W)
    (C3 : ∀ (W : World) (B : Nat), W.cell? ⟨B, 0, none⟩ = some (.int .i64 K) → Calls Tryz.prog 143 #[.int .i64 b, .int .i64 4, .pointer (some ⟨B, 0, none⟩)] W fun e w' => e = .returned (.bool x3) ∧ w' = W) :
    Calls Tryz.prog 122 #[.agg #[.int .i64 op, .int .i64 d, .int .i64 a, .int .i64 b, .int .u32 n], .int .i64 K] w fun e w' => e = .returned (.bool (x1 && (x2 && (x3 && true)))) ∧ Gr w w' := by
  have H1 : Hid (∀ (W : World) (B : Nat), W.cell? ⟨B, 0, none⟩ = some (.int .i64 K) → Calls Tryz.prog 143 #[.int .i64 d, .int .i64 1, .pointer (some ⟨B, 0, none⟩)] W fun e w' => e = .returned (.bool x1) ∧ w' = W) := C1
  have H2 : Hid (∀ (W : World) (B : Nat), W.cell? ⟨B, 0, none⟩ = some (.int .i64 K) → Calls Tryz.prog 143 #[.int .i64 a, .int .i64 2, .pointer (some ⟨B, 0, none⟩)] W fun e w' => e = .returned (.bool x2) ∧ w' = W) := C2
  have H3 : Hid (∀ (W : World) (B : Nat), W.cell? ⟨B, 0, none⟩ = some (.int .i64 K) → Calls Tryz.prog 143 #[.int .i64 b, .int .i64 4, .pointer (some ⟨B, 0, none⟩)] W fun e w' => e = .returned (.bool x3) ∧ w' = W) := C3
  have HK : Hid (((w.alloc (.cells #[.int .i64 op, .int .i64 d, .int .i64 a, .int .i64 b, .int .u32 n] 166)).alloc (.cells #[.int .i64 K] 3)).cell? ⟨w.heap.size + 1, 0, none⟩ = some (.int .i64 K)) := cell_of_row _ _ _ _ _ _ (heap_alloc2_new w _ _)
  clear C1 C2 C3
  cases x1
  · go_enter Tryz.func122, Tryz.ntmps122
    go_wp2_with fail
    refine (H1.out _ _ HK.out).mono ?_
    rintro e w' ⟨rfl, rfl⟩
    go_wp2_with fail
    go_ret
    exact ⟨rfl, ((Gr.refl _).alloc _).alloc _⟩
  cases x2
  · go_enter Tryz.func122, Tryz.ntmps122
    go_wp2_with fail
    refine (H1.out _ _ HK.out).mono ?_
    rintro e w' ⟨rfl, rfl⟩
    go_wp2_with fail
    refine (H2.out _ _ HK.out).mono ?_
    rintro e w' ⟨rfl, rfl⟩
    go_wp2_with fail
    go_ret
    exact ⟨rfl, ((Gr.refl _).alloc _).alloc _⟩
  cases x3
  all_goals
    go_enter Tryz.func122, Tryz.ntmps122
    go_wp2_with fail
    refine (H1.out _ _ HK.out).mono ?_
    rintro e w' ⟨rfl, rfl⟩
    go_wp2_with fail
    refine (H2.out _ _ HK.out).mono ?_
    rintro e w' ⟨rfl, rfl⟩
    go_wp2_with fail
    refine (H3.out _ _ HK.out).mono ?_
    rintro e w' ⟨rfl, rfl⟩
    go_wp2_with fail
    go_ret
    exact ⟨by simp, ((Gr.refl _).alloc _).alloc _⟩
theorem fits_any {K : Int} (hK : K = 0 ∨ K = 7 ∨ K = 8 ∨ K = 9 ∨ K = 10 ∨ K = 11 ∨ K = 14) (op d a b n : Int) (w : World) :
    Calls Tryz.prog 122 #[.agg #[.int .i64 op, .int .i64 d, .int .i64 a, .int .i64 b, .int .u32 n], .int .i64 K] w fun e w' => e = .returned (.bool (fitB K ⟨op, d, a, b, n⟩)) ∧ Gr w w' := by
  rcases hK with rfl | rfl | rfl | rfl | rfl | rfl | rfl
  · have := fits_n0 op d a b n w (K := 0) (by decide) (fun W B k => reg0 k (by decide) _) (fun W B k => reg0 k (by decide) _) (fun W B k => reg0 k (by decide) _)
    have e : fitB 0 ⟨op, d, a, b, n⟩ = (regOk false d && (regOk false a && (regOk false b && (n == 0)))) := by
      unfold fitB
      by_cases h : n = 0 <;> simp [h]
    rw [e]
    exact this
  · have := fits_n0 op d a b n w (K := 7) (by decide) (fun W B k => reg1 k (by decide) _) (fun W B k => reg1 k (by decide) _) (fun W B k => reg1 k (by decide) _)
    have e : fitB 7 ⟨op, d, a, b, n⟩ = (regOk true d && (regOk true a && (regOk true b && (n == 0)))) := by
      unfold fitB
      by_cases h : n = 0 <;> simp [h]
    rw [e]
    exact this
  · have := fits_n8 op d a b n w (K := 8) (by decide) (fun W B k => reg0 k (by decide) _) (fun W B k => reg0 k (by decide) _) (fun W B k => reg0 k (by decide) _)
    have e : fitB 8 ⟨op, d, a, b, n⟩ = (regOk false d && (regOk false a && (regOk false b && true))) := by
      unfold fitB
      simp
    rw [e]
    exact this
  · have := fits_n8 op d a b n w (K := 9) (by decide) (fun W B k => reg1 k (by decide) _) (fun W B k => reg0 k (by decide) _) (fun W B k => reg0 k (by decide) _)
    have e : fitB 9 ⟨op, d, a, b, n⟩ = (regOk true d && (regOk false a && (regOk false b && true))) := by
      unfold fitB
      simp
    rw [e]
    exact this
  · have := fits_n8 op d a b n w (K := 10) (by decide) (fun W B k => reg0 k (by decide) _) (fun W B k => reg1 k (by decide) _) (fun W B k => reg0 k (by decide) _)
    have e : fitB 10 ⟨op, d, a, b, n⟩ = (regOk false d && (regOk true a && (regOk false b && true))) := by
      unfold fitB
      simp
    rw [e]
    exact this
  · have := fits_n8 op d a b n w (K := 11) (by decide) (fun W B k => reg1 k (by decide) _) (fun W B k => reg1 k (by decide) _) (fun W B k => reg0 k (by decide) _)
    have e : fitB 11 ⟨op, d, a, b, n⟩ = (regOk true d && (regOk true a && (regOk false b && true))) := by
      unfold fitB
      simp
    rw [e]
    exact this
  · have := fits_n8 op d a b n w (K := 14) (by decide) (fun W B k => reg0 k (by decide) _) (fun W B k => reg1 k (by decide) _) (fun W B k => reg1 k (by decide) _)
    have e : fitB 14 ⟨op, d, a, b, n⟩ = (regOk false d && (regOk true a && (regOk true b && true))) := by
      unfold fitB
      simp
    rw [e]
    exact this
end Go.Proofs.YtchllaeembmioaaGreatDoor.Mp
namespace Go.Proofs.YtchllaeembmioaaGreatDoor.Mi
open Go.ChangeShapes Go.WideShapes Go.ChangeAt Go.RowKit Mm Hh Hc

end Go.Proofs.YtchllaeembmioaaGreatDoor.Mi
namespace Go.Proofs.YtchllaeembmioaaGreatDoor.Mi
open Go.ChangeShapes Go.WideShapes Go.ChangeAt Go.RowKit Mm Hh Hc

end Go.Proofs.YtchllaeembmioaaGreatDoor.Mi
namespace Go.Proofs.YtchllaeembmioaaGreatDoor.Mi
open Go.ChangeShapes Go.WideShapes Go.ChangeAt Go.RowKit Mm Hh Hc

theorem owns_word {w : World} {base e sz n : Nat} {v : Value} {xs : List Value} (h : w.ownsRow base e sz v n xs) : ∃ a c, v = .slice a n c := by
  rcases h.2 with ⟨rfl, rfl⟩ | ⟨g, cap, _, rfl, _⟩
  · exact ⟨none, 0, rfl⟩
  · exact ⟨_, cap, rfl⟩
end Go.Proofs.YtchllaeembmioaaGreatDoor.Mi
namespace Go.Proofs.YtchllaeembmioaaGreatDoor.Mi
open Go.ChangeShapes Go.WideShapes Go.ChangeAt Go.RowKit Mm Hh Hc

theorem heap_up {w w' : World} (g : Gr w w') {k : Nat} {x : Obj} (h : w.heap[k]? = some x) : w'.heap[k]? = some x := by
  rw [Below.block g k (Array.getElem?_eq_some_iff.1 h).1]; exact h
end Go.Proofs.YtchllaeembmioaaGreatDoor.Mi
namespace Go.Proofs.YtchllaeembmioaaGreatDoor.Mi
open Go.ChangeShapes Go.WideShapes Go.ChangeAt Go.RowKit Mm Hh Hc

end Go.Proofs.YtchllaeembmioaaGreatDoor.Mi
namespace Go.Proofs.YtchllaeembmioaaGreatDoor.Mi
open Go.ChangeShapes Go.WideShapes Go.ChangeAt Go.RowKit Mm Hh Hc

def gL (h : Hv) (M O : Value) (n : Int) (S : Value) : List Value := hL h ++ [M, O, .int .i64 n, S]
def gA (h : Hv) (M O : Value) (n : Int) (S : Value) : Array Value := (gL h M O n S).toArray
theorem gL_len {h : Hv} (o : h.Ok) (M O : Value) (n : Int) (S : Value) : (gL h M O n S).length = 41 := by simp [gL, hL_len o]
theorem gA_size {h : Hv} (o : h.Ok) (M O : Value) (n : Int) (S : Value) : (gA h M O n S).size = 41 := by simp [gA, gL_len o]
theorem zDidA : (Tryz.prog.info? 84).bind (·.zero) = some (.agg (gA h0 nilS nilS 0 nilS)) := by kernel_rfl
theorem iDidA : (Tryz.prog.info? 84).map (·.size) = some 41 := by kernel_rfl
theorem iHa : (Tryz.prog.info? 51).map (·.size) = some 37 := by kernel_rfl
structure Dr (w : World) (r : Rn) (M O S : Value) : Prop where
  ok : r.Ok
  mem : ∃ ao c, M = .slice ao r.m.length c ∧ Mem w ao r.m.length r.m
  out : ∃ b, w.ownsRow b 42 1 O r.out.length (r.out.map (Value.int .u32))
  sto : ∃ b, w.ownsRow b 109 2 S r.sto.length (rgs r.sto)
end Go.Proofs.YtchllaeembmioaaGreatDoor.Mi
namespace Go.Proofs.YtchllaeembmioaaGreatDoor.Mi
open Go.ChangeShapes Go.WideShapes Go.ChangeAt Go.RowKit Mm Hh Hc

theorem rg_get {ss : List (Int × Int)} : ∀ {i : Nat} {p : Int × Int}, ss[i]? = some p → (rgs ss)[i * 2]? = some (.int .u32 p.1) ∧ (rgs ss)[i * 2 + 1]? = some (.int .u32 (Wd.lo (p.1 + p.2))) := by
  induction ss with
  | nil => intro i p h; simp at h
  | cons q r ih =>
    intro i p h
    have e : rgs (q :: r) = [.int .u32 q.1, .int .u32 (Wd.lo (q.1 + q.2))] ++ rgs r := rfl
    match i, h with
    | 0, h => simp at h; subst h; exact ⟨rfl, rfl⟩
    | i + 1, h =>
      have ih := ih (i := i) (by simpa using h)
      rw [e, List.getElem?_append_right (by simp; omega), List.getElem?_append_right (by simp; omega)]
      simp only [List.length_cons, List.length_nil]
      rw [show (i + 1) * 2 - (0 + 1 + 1) = i * 2 by omega, show (i + 1) * 2 + 1 - (0 + 1 + 1) = i * 2 + 1 by omega]
      exact ih
theorem gA_get {h : Hv} (o : h.Ok) {M O S : Value} {n : Int} (j : Nat) : (gA h M O n S)[37 + j]? = [M, O, Value.int .i64 n, S][j]? := by
  unfold gA gL
  rw [List.getElem?_toArray, List.getElem?_append_right (by simp [hL_len o])]
  simp [hL_len o]
theorem own_at {w : World} {base e sz n : Nat} {v : Value} {xs : List Value} (h : w.ownsRow base e sz v n xs) (hn : 0 < n) : ∃ g c, v = .slice (some ⟨g, 0, none⟩) n c ∧ g < w.heap.size ∧ ∀ j u, xs[j]? = some u → w.cell? ⟨g, j, none⟩ = some u := by
  obtain ⟨g, c, rfl⟩ := own_form h hn
  refine ⟨g, c, rfl, (h.lt g rfl).2, fun j u hu => ?_⟩
  have := h.cells (g := g) rfl j u hu
  rwa [add_at, Nat.zero_add] at this
end Go.Proofs.YtchllaeembmioaaGreatDoor.Mi
namespace Go.Proofs.YtchllaeembmioaaGreatDoor.Mp
open Go.ChangeShapes Go.WideShapes Go.ChangeAt Go.RowKit Mm Hh Hc Mi

theorem in1_any {w : World} {B g : Nat} {bf bt : Int} (kb : w.cell? ⟨B, 0, none⟩ = some (.pointer (some ⟨g, 0, none⟩))) (k44 : w.cell? ⟨g, 44, none⟩ = some (.int .u32 bf)) (k45 : w.cell? ⟨g, 45, none⟩ = some (.int .u32 bt)) (x y : Int) :
    Calls Tryz.prog 151 #[.agg #[.int .u32 x, .int .u32 y], .pointer (some ⟨B, 0, none⟩)] w fun e w' => e = .returned (.bool (decide (max x bf < min y bt))) ∧ Gr w w' := by
  have G : ∀ x, Gr w (w.alloc x) := fun x => (Gr.refl _).alloc _
  have hB : B < w.heap.size := World.block_lt_of_cell? w _ kb
  have hg : g < w.heap.size := World.block_lt_of_cell? w _ k44
  have q1 : ∀ x, (w.alloc x).cell? ⟨B, 0, none⟩ = some (.pointer (some ⟨g, 0, none⟩)) := fun x => ((G x).cell _ (by exact hB)).trans kb
  have q2 : ∀ x, (w.alloc x).cell? ⟨g, 44, none⟩ = some (.int .u32 bf) := fun x => ((G x).cell _ (by exact hg)).trans k44
  have q3 : ∀ x, (w.alloc x).cell? ⟨g, 45, none⟩ = some (.int .u32 bt) := fun x => ((G x).cell _ (by exact hg)).trans k45
  clear G kb k44 k45
  go_enter Tryz.func151, Tryz.ntmps151
  go_wp2
  go_region
  all_goals (try go_wp2)
  all_goals
    go_ret
    refine ⟨retB ?_, ((Gr.refl _).alloc _).drew⟩
    rw [decide_eq_decide, Int.max_def, Int.min_def]
    (repeat' split) <;> omega
def Rs (w : World) (sa : Option Addr) (ss : List (Int × Int)) : Prop := ∀ i p, ss[i]? = some p → ∃ g1, sa = some ⟨g1, 0, none⟩ ∧ g1 < w.heap.size ∧ w.cell? ⟨g1, i * 2, none⟩ = some (.int .u32 p.1) ∧ w.cell? ⟨g1, i * 2 + 1, none⟩ = some (.int .u32 (Wd.lo (p.1 + p.2)))
theorem Rs.of {w w' : World} {sa : Option Addr} {ss : List (Int × Int)} (h : Rs w sa ss) (G : Gr w w') : Rs w' sa ss := fun i p hp => by
  obtain ⟨g1, e, l, c0, c1⟩ := h i p hp
  exact ⟨g1, e, Nat.lt_of_lt_of_le l G.size, (G.cell _ (by exact l)).trans c0, (G.cell _ (by exact l)).trans c1⟩
theorem rs_own {w : World} {base : Nat} {S : Value} {ss : List (Int × Int)} (so : w.ownsRow base 109 2 S ss.length (rgs ss)) : ∃ sa sc, S = .slice sa ss.length sc ∧ Rs w sa ss := by
  obtain ⟨sa, sc, rfl⟩ := owns_word so
  refine ⟨sa, sc, rfl, fun i p hp => ?_⟩
  have hn : 0 < ss.length := by have := (List.getElem?_eq_some_iff.1 hp).1; omega
  obtain ⟨g1, d1, e1, l1, c1⟩ := own_at so hn
  injection e1 with f1 _ _
  have q := rg_get hp
  exact ⟨g1, f1, l1, c1 _ _ q.1, c1 _ _ q.2⟩
theorem any_take {α : Type} {f : α → Bool} {l : List α} {j : Nat} {x : α} (h : l[j]? = some x) : (l.take (j + 1)).any f = ((l.take j).any f || f x) := by
  rw [List.take_add_one, h, List.any_append]
  simp
theorem any_of {α : Type} {f : α → Bool} {l : List α} {j : Nat} {x : α} (h : l[j]? = some x) (hx : f x = true) : l.any f = true := List.any_eq_true.2 ⟨x, List.mem_of_getElem? h, hx⟩
theorem idx_any {w : World} {B g : Nat} {bf bt : Int} (kb : w.cell? ⟨B, 0, none⟩ = some (.pointer (some ⟨g, 0, none⟩))) (k44 : w.cell? ⟨g, 44, none⟩ = some (.int .u32 bf)) (k45 : w.cell? ⟨g, 45, none⟩ = some (.int .u32 bt)) {sa : Option Addr} (sc : Nat) {ss : List (Int × Int)} (R : Rs w sa ss) (hs : ss.length ≤ 1000000) :
    Calls Tryz.prog 152 #[.slice sa ss.length sc, .func (.func 151) #[] #[.pointer (some ⟨B, 0, none⟩)]] w fun e w' => ∃ z : Int, e = .returned (.int .i64 z) ∧ decide (0 ≤ z) = ownB bf bt ss ∧ Gr w w' := by
  have Cl : Hid (∀ W : World, Gr w W → ∀ x y, Calls Tryz.prog 151 #[.agg #[.int .u32 x, .int .u32 y], .pointer (some ⟨B, 0, none⟩)] W fun e w' => e = .returned (.bool (decide (max x bf < min y bt))) ∧ Gr W w') := fun W G x y =>
    in1_any ((G.cell _ (by exact World.block_lt_of_cell? w _ kb)).trans kb) ((G.cell _ (by exact World.block_lt_of_cell? w _ k44)).trans k44) ((G.cell _ (by exact World.block_lt_of_cell? w _ k45)).trans k45) x y
  have HR : Hid (Rs w sa ss) := R
  generalize hn : ss.length = n at *
  have HN : Hid (ss.length = n) := hn
  clear R kb k44 k45 hn
  go_enter Tryz.func152, Tryz.ntmps152
  go_wp2_with fail
  go_loopw [8] (fun i wr => ∃ j : Nat, j ≤ n ∧ i = .int .i64 j ∧ (ss.take j).any (meet bf bt) = false ∧ Gr w wr) (fun i _ => n - (intOf i).toNat)
  case atStart => exact ⟨0, Nat.zero_le _, rfl, rfl, Gr.refl _⟩
  case round =>
    obtain ⟨j, hj, rfl, hno, G⟩ := hrel
    have HNo : Hid ((ss.take j).any (meet bf bt) = false) := hno
    have HG : Hid (Gr w wr) := G
    clear hno G
    by_cases hlt : j < n
    · obtain ⟨p, hp⟩ : ∃ p, ss[j]? = some p := ⟨_, List.getElem?_eq_getElem (by rw [HN.out]; exact hlt)⟩
      obtain ⟨g1, rfl, l1, c0, c1⟩ := HR.out.of HG.out j p hp
      have HY : Hid (meet bf bt p = true → ownB bf bt ss = true) := fun h => any_of hp h
      have HZ : Hid (meet bf bt p = false → (ss.take (j + 1)).any (meet bf bt) = false) := fun h => by rw [any_take hp, HNo.out, h]; rfl
      have Cl2 : Hid (∀ W : World, Gr w W → Calls Tryz.prog 151 #[.agg #[.int .u32 p.1, .int .u32 (Wd.lo (p.1 + p.2))], .pointer (some ⟨B, 0, none⟩)] W fun e w' => e = .returned (.bool (meet bf bt p)) ∧ Gr W w') := fun W G => Cl.out W G _ _
      generalize meet bf bt p = m at *
      clear hp Cl HNo HR HN
      generalize Wd.lo (p.1 + p.2) = y at *
      generalize p.1 = x at *
      cases m with
      | true =>
        have HY2 : Hid (ownB bf bt ss = true) := HY.out rfl
        clear HY HZ
        go_wp2_with fail
        refine (Cl2.out _ HG.out).mono ?_
        rintro e w1 ⟨rfl, G1⟩
        have HG1 : Hid (Gr w w1) := HG.out.trans G1
        clear Cl2 G1 c0 c1
        go_wp2_with fail
        go_ret
        exact ⟨_, rfl, by rw [HY2.out]; simp, HG1.out⟩
      | false =>
        have HZ2 : Hid ((ss.take (j + 1)).any (meet bf bt) = false) := HZ.out rfl
        clear HY HZ
        go_wp2_with fail
        refine (Cl2.out _ HG.out).mono ?_
        rintro e w1 ⟨rfl, G1⟩
        have HG1 : Hid (Gr w w1) := HG.out.trans G1
        clear Cl2 G1 c0 c1
        go_wp2_with fail
        go_roundw
        case rel => exact ⟨j + 1, by omega, by go_num, HZ2.out, HG1.out⟩
        case measure => simp [intOf]; omega
    · have ej : j = n := by omega
      have HE : Hid (ownB bf bt ss = false) := by
        unfold Hid ownB
        have := HNo.out
        rwa [ej, ← HN.out, List.take_length] at this
      go_wp2_with fail
      go_ret
      exact ⟨_, rfl, by rw [HE.out]; rfl, HG.out⟩
theorem contains_any {w : World} {B g : Nat} {bf bt : Int} (kb : w.cell? ⟨B, 0, none⟩ = some (.pointer (some ⟨g, 0, none⟩))) (k44 : w.cell? ⟨g, 44, none⟩ = some (.int .u32 bf)) (k45 : w.cell? ⟨g, 45, none⟩ = some (.int .u32 bt)) {sa : Option Addr} (sc : Nat) {ss : List (Int × Int)} (R : Rs w sa ss) (hs : ss.length ≤ 1000000) :
    Calls Tryz.prog 150 #[.slice sa ss.length sc, .func (.func 151) #[] #[.pointer (some ⟨B, 0, none⟩)]] w fun e w' => e = .returned (.bool (ownB bf bt ss)) ∧ Gr w w' := by
  have X : Hid (Calls Tryz.prog 152 #[.slice sa ss.length sc, .func (.func 151) #[] #[.pointer (some ⟨B, 0, none⟩)]] w fun e w' => ∃ z : Int, e = .returned (.int .i64 z) ∧ decide (0 ≤ z) = ownB bf bt ss ∧ Gr w w') := idx_any kb k44 k45 sc R hs
  clear R kb k44 k45 hs
  generalize ownB bf bt ss = q at *
  generalize ss.length = n at *
  go_enter Tryz.func150, Tryz.ntmps150
  go_wp2_with fail
  refine X.out.mono ?_
  rintro e w1 ⟨z, rfl, hz, G1⟩
  have HZ : Hid (decide (0 ≤ z) = q) := hz
  have HG : Hid (Gr w w1) := G1
  clear X hz G1
  go_wp2_with fail
  go_ret
  exact ⟨retB HZ.out, HG.out⟩
theorem storedIn_any {w : World} {base g : Nat} {r : Rn} {bf bt steps : Int} (I : Pr w base g r bf bt steps) (o : r.Ok) (hs : r.sto.length ≤ 1000000) :
    Calls Tryz.prog 144 #[.pointer (some ⟨g, 0, none⟩)] w fun e w' => e = .returned (.bool (ownB bf bt r.sto)) ∧ Gr w w' := by
  have k44 := I.fld o 0
  have k45 := I.fld o 1
  have hg := I.lt
  obtain ⟨c, hc, I⟩ := I
  obtain ⟨sa, sc, hS, R⟩ := rs_own I.sto
  have k39 : w.cell? ⟨g, 39, none⟩ = some (.slice sa r.sto.length sc) := by rw [← hS]; exact I.fcell 2
  have G : ∀ x, Gr w (w.alloc x) := fun x => (Gr.refl _).alloc _
  have X : Hid (Calls Tryz.prog 150 #[.slice sa r.sto.length sc, .func (.func 151) #[] #[.pointer (some ⟨w.heap.size, 0, none⟩)]] (w.alloc (.cells #[.pointer (some ⟨g, 0, none⟩)] 172)) fun e w' => e = .returned (.bool (ownB bf bt r.sto)) ∧ Gr (w.alloc (.cells #[.pointer (some ⟨g, 0, none⟩)] 172)) w') :=
    contains_any (cell_of_row _ _ _ _ _ _ (heap_alloc_new w _)) (((G _).cell _ (by exact hg)).trans k44) (((G _).cell _ (by exact hg)).trans k45) sc (R.of (G _)) hs
  clear I R G k44 k45
  generalize ownB bf bt r.sto = q at *
  generalize r.sto.length = n at *
  go_enter Tryz.func144, Tryz.ntmps144
  go_wp2_with fail
  refine X.out.mono ?_
  rintro e w1 ⟨rfl, G1⟩
  have HG : Hid (Gr w w1) := ((Gr.refl _).alloc _).trans G1
  clear X G1
  go_wp2_with fail
  go_ret
  exact ⟨rfl, HG.out⟩
end Go.Proofs.YtchllaeembmioaaGreatDoor.Mp
namespace Go.Proofs.YtchllaeembmioaaGreatDoor.Mp
open Go.ChangeShapes Go.WideShapes Go.ChangeAt Go.RowKit Mm Hh Hc Mi

theorem ret2b {a c : Int} {b d : Bool} (h : a = c) (q : b = d) : Ending.returned (.tuple #[.int .u32 a, .bool b]) = .returned (.tuple #[.int .u32 c, .bool d]) := by rw [h, q]
theorem leaves_at {w : World} {base g : Nat} {r : Rn} {bf bt steps : Int} (I : Pr w base g r bf bt steps) (o : r.Ok) (hs : r.sto.length ≤ 1000000) (op d a b n : Int) (h1 : op = 1) :
    Calls Tryz.prog 123 #[.pointer (some ⟨g, 0, none⟩), .agg #[.int .i64 op, .int .i64 d, .int .i64 a, .int .i64 b, .int .u32 n]] w fun e w' => e = .returned (.tuple #[.int .u32 n, .bool (decide ((r.n : Int) = steps) || ownB bf bt r.sto)]) ∧ Gr w w' := by
  subst h1
  have G : ∀ x, Gr w (w.alloc x) := fun x => (Gr.refl _).alloc _
  have hg := I.lt
  have k46 : ∀ x, (w.alloc x).cell? ⟨g, 46, none⟩ = some (.int .i64 steps) := fun x => (I.of (G x)).fld o 2
  have k47 : ∀ x, (w.alloc x).cell? ⟨g, 47, none⟩ = some (.int .i64 r.n) := fun x => (I.of (G x)).fld o 3
  have St : Hid (∀ W : World, Gr w W → Calls Tryz.prog 144 #[.pointer (some ⟨g, 0, none⟩)] W fun e w' => e = .returned (.bool (ownB bf bt r.sto)) ∧ Gr W w') := fun W G => storedIn_any (I.of G) o hs
  clear I o G
  generalize ownB bf bt r.sto = q at *
  generalize hrn : (r.n : Int) = rn at *
  clear hrn hs
  by_cases c : rn = steps
  · have hd : (rn == steps) = true := by simp [c]
    have HE : Hid ((decide (rn = steps) || q) = true) := by unfold Hid; simp [c]
    rw [HE.out]
    clear c
    go_enter Tryz.func123, Tryz.ntmps123
    go_wp2_with fail
    go_quiet (fail)
    go_wp2_with fail
    go_ret2
    exact ⟨rfl, ((Gr.refl _).alloc _).drewN _⟩
  · have hd : (rn == steps) = false := by simp [c]
    have HE : Hid ((decide (rn = steps) || q) = q) := by unfold Hid; simp [c]
    rw [HE.out]
    clear c
    go_enter Tryz.func123, Tryz.ntmps123
    go_wp2_with fail
    have k4 : (w.alloc (.cells #[.int .i64 1, .int .i64 d, .int .i64 a, .int .i64 b, .int .u32 n] 166)).cell? ⟨w.heap.size, 4, none⟩ = some (.int .u32 n) := cell_of_row _ _ _ _ _ _ (heap_alloc_new w _)
    go_region_held3 (fun W => W.cell? ⟨w.heap.size, 4, none⟩ = some (.int .u32 n) ∧ W.cell? ⟨g, 46, none⟩ = some (.int .i64 steps) ∧ W.cell? ⟨g, 47, none⟩ = some (.int .i64 rn)) (first | (go_keep; done) | (refine ⟨?_, ?_, ?_⟩ <;> assumption)) (first
      | (go_at_call 144; refine (St.out _ (by repeat (first | exact Gr.refl _ | refine Gr.drew ?_ | refine Gr.alloc ?_ _))).mono ?_; rintro e w2 ⟨rfl, G2⟩; have HG2 : Hid (Gr w w2) := Gr.trans (by repeat (first | exact Gr.refl _ | refine Gr.drew ?_ | refine Gr.alloc ?_ _)) G2; have j4 : w2.cell? ⟨w.heap.size, 4, none⟩ = some (.int .u32 n) := (G2.cell _ (by simp)).trans k4; have j46 : w2.cell? ⟨g, 46, none⟩ = some (.int .i64 steps) := (G2.cell _ (by show g < _; simp; omega)).trans (k46 _); have j47 : w2.cell? ⟨g, 47, none⟩ = some (.int .i64 rn) := (G2.cell _ (by show g < _; simp; omega)).trans (k47 _); clear G2))
    go_wp2_with fail
    go_ret2
    exact ⟨rfl, HG2.out⟩
theorem leaves_go {w : World} {g : Nat} (op d a b n : Int) (h1 : op = 3) :
    Calls Tryz.prog 123 #[.pointer (some ⟨g, 0, none⟩), .agg #[.int .i64 op, .int .i64 d, .int .i64 a, .int .i64 b, .int .u32 n]] w fun e w' => e = .returned (.tuple #[.int .u32 n, .bool true]) ∧ Gr w w' := by
  subst h1
  go_enter Tryz.func123, Tryz.ntmps123
  go_wp2_with fail
  go_ret2
  exact ⟨rfl, (Gr.refl _).alloc _⟩
theorem leaves_reg {w : World} {base g : Nat} {r : Rn} {bf bt steps : Int} (I : Pr w base g r bf bt steps) (o : r.Ok) (op d a b n : Int) (ha : 0 ≤ a ∧ a < 36) (hn : Hh.W n) (h1 : op = 4) :
    Calls Tryz.prog 123 #[.pointer (some ⟨g, 0, none⟩), .agg #[.int .i64 op, .int .i64 d, .int .i64 a, .int .i64 b, .int .u32 n]] w fun e w' => e = .returned (.tuple #[.int .u32 (Wd.lo (r.get a + n) - Wd.lo (r.get a + n) % 2), .bool true]) ∧ Gr w w' := by
  subst h1
  have V : Hid (∀ W : World, Gr w W → Calls Tryz.prog 145 #[.pointer (some ⟨g, 0, none⟩), .int .i64 a] W fun e w' => e = .returned (.int .u32 (r.get a)) ∧ w' = W) := fun W q => value_any (I.of q) o a ha.1 ha.2
  have wl := W.lo (r.get a + n)
  clear I o
  generalize r.get a = X at *
  go_enter Tryz.func123, Tryz.ntmps123
  go_wp2_with fail
  go_quiet (refine Calls.quiet_of_same (V.out _ (by repeat (first | exact Gr.refl _ | refine Gr.drewN ?_ _ | refine Gr.drew ?_ | refine Gr.alloc ?_ _))))
  go_wp2_with fail
  go_ret2
  refine ⟨ret2b ?_ rfl, ((Gr.refl _).alloc _).drewN _⟩
  exact andNot1 _ wl.1 wl.2
theorem leaves_if {w : World} {base g : Nat} {r : Rn} {bf bt steps : Int} (I : Pr w base g r bf bt steps) (o : r.Ok) (op d a b n : Int) (ha : 0 ≤ a ∧ a < 36) (hb : 0 ≤ b ∧ b < 36) (h1 : ¬ op = 1) (h3 : ¬ op = 3) (h4 : ¬ op = 4) (ho0 : 0 ≤ op) (ho1 : op < 1000) :
    Calls Tryz.prog 123 #[.pointer (some ⟨g, 0, none⟩), .agg #[.int .i64 op, .int .i64 d, .int .i64 a, .int .i64 b, .int .u32 n]] w fun e w' => e = .returned (.tuple #[.int .u32 n, .bool (Wd.holds (op - 100) (r.get a) (r.get b))]) ∧ Gr w w' := by
  have b1 : (op == 1) = false := by simp [h1]
  have b3 : (op == 3) = false := by simp [h3]
  have b4 : (op == 4) = false := by simp [h4]
  have wa := o.get a
  have wb := o.get b
  have V : Hid (∀ k, 0 ≤ k → k < 36 → ∀ W : World, Gr w W → Calls Tryz.prog 145 #[.pointer (some ⟨g, 0, none⟩), .int .i64 k] W fun e w' => e = .returned (.int .u32 (r.get k)) ∧ w' = W) := fun k h0 h1 W q => value_any (I.of q) o k h0 h1
  have Va : Hid (∀ W : World, Gr w W → Calls Tryz.prog 145 #[.pointer (some ⟨g, 0, none⟩), .int .i64 a] W fun e w' => e = .returned (.int .u32 (r.get a)) ∧ w' = W) := V.out a ha.1 ha.2
  have Vb : Hid (∀ W : World, Gr w W → Calls Tryz.prog 145 #[.pointer (some ⟨g, 0, none⟩), .int .i64 b] W fun e w' => e = .returned (.int .u32 (r.get b)) ∧ w' = W) := V.out b hb.1 hb.2
  have Ho : Hid (∀ W : World, Calls Tryz.prog 109 #[.int .i64 (op - 100), .int .u32 (r.get a), .int .u32 (r.get b)] W fun e w' => e = .returned (.bool (Wd.holds (op - 100) (r.get a) (r.get b))) ∧ w' = W) := fun W => Ww.holds_any (op - 100) _ _ W wa.1 wa.2 wb.1 wb.2
  clear I o V h1 h3 h4 wa wb
  generalize Wd.holds (op - 100) (r.get a) (r.get b) = Q at *
  generalize r.get a = X at *
  generalize r.get b = Y at *
  go_enter Tryz.func123, Tryz.ntmps123
  go_wp2_with fail
  refine wp_region_quiet_lit (by kernel_rfl) (by kernel_rfl) ?_
  iterate 8 go_big_quiet_step (fail)
  go_big_quiet_step (exact Calls.quiet_of_same (Va.out _ (by repeat (first | exact Gr.refl _ | refine Gr.drewN ?_ _ | refine Gr.drew ?_ | refine Gr.alloc ?_ _))))
  iterate 3 go_big_quiet_step (fail)
  go_big_quiet_step (exact Calls.quiet_of_same (Vb.out _ (by repeat (first | exact Gr.refl _ | refine Gr.drewN ?_ _ | refine Gr.drew ?_ | refine Gr.alloc ?_ _))))
  go_big_quiet_step (exact Calls.quiet_of_same (Ho.out _))
  go_big_quiet_step (fail)
  go_big_quiet_step (fail)
  refine wpQuiet_nil ?_
  intro _ hw1
  obtain ⟨nq, hw2⟩ := hw1
  subst hw2
  go_wp2_with fail
  go_ret2
  exact ⟨rfl, ((Gr.refl _).alloc _).drewN _⟩
theorem leaves_any {w : World} {base g : Nat} {r : Rn} {bf bt steps : Int} (I : Pr w base g r bf bt steps) (o : r.Ok) (hs : r.sto.length ≤ 1000000) {i : Mv} (hi : 0 ≤ named i.op) (ha : 0 ≤ i.a ∧ i.a < 36) (hb : 0 ≤ i.b ∧ i.b < 36) (hn : Hh.W i.n) :
    Calls Tryz.prog 123 #[.pointer (some ⟨g, 0, none⟩), .agg (mvA i)] w fun e w' => e = .returned (.tuple #[.int .u32 (lvP r i), .bool (lvB bf bt steps r i)]) ∧ Gr w w' := by
  have hop : 0 ≤ i.op ∧ i.op < 1000 := by
    rcases named_cases hi with q | q | q | q | q | q | q | q | q | q | q | q <;> omega
  obtain ⟨op, d, a, b, n⟩ := i
  unfold lvP lvB mvA
  simp only at *
  by_cases h1 : op = 1
  · rw [if_neg (by omega), if_pos h1]
    exact leaves_at I o hs op d a b n h1
  by_cases h3 : op = 3
  · rw [if_neg (by omega), if_neg h1, if_pos h3]
    exact leaves_go op d a b n h3
  by_cases h4 : op = 4
  · rw [if_pos h4, if_neg h1, if_neg h3, if_pos h4]
    exact leaves_reg I o op d a b n ha hn h4
  · rw [if_neg h4, if_neg h1, if_neg h3, if_neg h4]
    exact leaves_if I o op d a b n ha hb h1 h3 h4 hop.1 hop.2
end Go.Proofs.YtchllaeembmioaaGreatDoor.Mp
