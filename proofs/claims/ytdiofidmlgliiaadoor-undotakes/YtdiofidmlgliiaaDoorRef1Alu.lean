/-
  What the functions Alu, Holds and Amo of package ferrybridgeref1 return, for every operation and every two words: 'Wd.alu', 'Wd.holds', 'Wd.amo', and nothing in memory turns. Conditions: the words are from 0 to 2^32 - 1.
-/
import Derived.Test.YtdiofidmlgliiaaDoorRef1Walks
import Derived.Deep.QuietTactic
import Derived.BigQuiet
import Derived.Deep.RegionWith
namespace Go.Proofs.YtdiofidmlgliiaaDoor.Rw
open Go.ChangeShapes Go.WideShapes Go.ChangeAt Go.RowKit
set_option linter.unusedVariables false

variable {a p b : Int}
theorem drawn {P : Program} {f : FuncId} {args : Array Value} {w : World} {v : Value} (h : Calls P f args w fun e w' => e = .returned v ∧ w' = w) : Calls P f args w fun e w' => e = .returned v ∧ ∃ m, w' = w.drewN m :=
  h.mono fun _ _ ⟨he, hm⟩ => ⟨he, 0, hm⟩
theorem lo_lo (n : Int) : Wd.lo (Wd.lo n) = Wd.lo n := by unfold Wd.lo; omega
theorem lo_self {n : Int} (h : 0 ≤ n) (h' : n < 4294967296) : Wd.lo n = n := by unfold Wd.lo; omega
theorem div_bd (ha : 0 ≤ a) (ha' : a < 4294967296) (hp : 1 ≤ p) : 0 ≤ a / p ∧ a / p < 4294967296 :=
  ⟨Int.ediv_nonneg ha (by omega), Int.lt_of_le_of_lt (Int.ediv_le_self _ ha) ha'⟩
theorem sdiv_bd (ha : -2147483648 ≤ a) (ha' : a < 2147483648) (hp : 1 ≤ p) : -2147483648 ≤ a / p ∧ a / p < 2147483648 := by
  constructor
  · rw [Int.le_ediv_iff_mul_le (by omega)]
    omega
  · rw [Int.ediv_lt_iff_lt_mul (by omega)]
    omega
theorem mul_sg (a b : Int) (ha : 0 ≤ a) (ha' : a < 4294967296) (hb : 0 ≤ b) (hb' : b < 4294967296) : Wd.lo (Wd.sg a * Wd.sg b) = Wd.lo (a * b) := by
  have h1 : (Wd.sg a) % 4294967296 = a % 4294967296 := by unfold Wd.sg; split <;> omega
  have h2 : (Wd.sg b) % 4294967296 = b % 4294967296 := by unfold Wd.sg; split <;> omega
  show Wd.sg a * Wd.sg b % 4294967296 = a * b % 4294967296
  rw [Int.mul_emod, h1, h2, ← Int.mul_emod]
theorem tdiv_bd (ha : -2147483648 ≤ a) (ha' : a < 2147483648) : -2147483648 ≤ a.tdiv b ∧ a.tdiv b ≤ 2147483648 := by
  have h := Int.natAbs_tdiv_le_natAbs a b
  omega
theorem tmul_bd (ha : -2147483648 ≤ a) (ha' : a < 2147483648) : -2147483648 ≤ a.tdiv b * b ∧ a.tdiv b * b ≤ 2147483648 := by
  have h1 : (a.tdiv b * b).natAbs ≤ a.natAbs := by
    rw [Int.natAbs_mul, Int.natAbs_tdiv]; exact Nat.div_mul_le_self _ _
  omega

set_option maxRecDepth 100000 in
theorem alu_30 (a b : Int) (w : World) (ha : 0 ≤ a) (ha' : a < 4294967296) (hb : 0 ≤ b) (hb' : b < 4294967296) :
    Calls Tryd.prog 66 #[.int .i64 30, .int .u32 a, .int .u32 b] w fun e w' => e = .returned (.int .u32 (Wd.alu 30 a b)) ∧ ∃ m, w' = w.drewN m := by
  have sa := Wd.sg_bd ha ha'
  have sb := Wd.sg_bd hb hb'
  obtain ⟨p1, p2⟩ := Wd.pw_bd b hb
  obtain ⟨q1, q2⟩ := sll_bd a b hb
  have E : Hid _ := sll_eq a b ha hb
  have el := Wd.lo_bd (a * Wd.pw b)
  have m0 : 0 ≤ a % ((2 ^ (32 - b.toNat % 32) : Nat) : Int) * Wd.pw b := by rw [E.out]; exact el.1
  have m1 : a % ((2 ^ (32 - b.toNat % 32) : Nat) : Int) * Wd.pw b < 4294967296 := by rw [E.out]; exact el.2
  clear el
  have hP : Hid (∀ w : World, _) := fun w => Power_rest b w hb
  have hP2 : Hid (∀ w : World, _) := fun w => Power_pw b w hb
  have hN : 0 < 2 ^ (32 - b.toNat % 32) := Nat.two_pow_pos _
  generalize 2 ^ (32 - b.toNat % 32) = P at *
  have hN1 : (0 : Int) < (P : Int) := by omega
  go_enter Tryd.func66, Tryd.ntmps66
  go_wp2_with (go_at_call 92; refine (Signed_any _ _ (by omega) (by omega)).mono ?_; rintro e w' ⟨rfl, rfl⟩)
  refine wp_region_quiet_lit (by kernel_rfl) (by kernel_rfl) ?_
  go_big_quiet_step (fail)
  go_big_quiet_step (fail)
  go_big_quiet_step (fail)
  go_big_quiet_step (exact Calls.quiet_of_same (hP.out _))
  go_big_quiet_step (fail)
  go_big_quiet_step (fail)
  go_big_quiet_step (exact Calls.quiet_of_same (hP2.out _))
  go_big_quiet_step (fail)
  go_big_quiet_step (exact Calls.quiet_of_same (Of_any _ _ (by omega) (by omega)))
  go_big_quiet_step (fail)
  refine wpQuiet_nil ?_
  intro _ hw1
  obtain ⟨nq, hw2⟩ := hw1
  subst hw2
  go_wp2
  go_ret
  exact ⟨ret_int ((lo_self (by rw [E.out]; exact (Wd.lo_bd _).1) (by rw [E.out]; exact (Wd.lo_bd _).2)).trans E.out), _, rfl⟩

theorem mulh_bd {x y : Int} (hx : -2147483648 ≤ x) (hx' : x < 2147483648) (hy : -2147483648 ≤ y) (hy' : y < 2147483648) : -4611686018427387904 ≤ x * y ∧ x * y ≤ 4611686018427387904 := by
  by_cases h : 0 ≤ x
  · have a1 : x * y ≤ x * 2147483648 := Int.mul_le_mul_of_nonneg_left (by omega) h
    have a2 : x * (-2147483648) ≤ x * y := Int.mul_le_mul_of_nonneg_left (by omega) h
    omega
  · have a1 : x * y ≤ x * (-2147483648) := Int.mul_le_mul_of_nonpos_left (by omega) (by omega)
    have a2 : x * 2147483648 ≤ x * y := Int.mul_le_mul_of_nonpos_left (by omega) (by omega)
    omega
theorem alu_34 (a b : Int) (w : World) (ha : 0 ≤ a) (ha' : a < 4294967296) (hb : 0 ≤ b) (hb' : b < 4294967296) :
    Calls Tryd.prog 66 #[.int .i64 34, .int .u32 a, .int .u32 b] w fun e w' => e = .returned (.int .u32 (Wd.alu 34 a b)) ∧ w' = w := by
  have sa := Wd.sg_bd ha ha'
  have sb := Wd.sg_bd hb hb'
  obtain ⟨p1, p2⟩ := Wd.pw_bd b hb
  obtain ⟨d1, d2⟩ := div_bd ha ha' p1
  go_enter Tryd.func66, Tryd.ntmps66
  go_wp2_with (go_at_call 92; refine (Signed_any _ _ (by omega) (by omega)).mono ?_; rintro e w' ⟨rfl, rfl⟩)
  refine (Power_pw b _ hb).mono ?_
  rintro e w' ⟨rfl, rfl⟩
  go_wp2_with (go_at_call 61; refine (Of_any _ _ (by omega) (by omega)).mono ?_; rintro e w' ⟨rfl, rfl⟩)
  go_ret
  exact ⟨ret_int (lo_self d1 d2), rfl⟩

theorem alu_35 (a b : Int) (w : World) (ha : 0 ≤ a) (ha' : a < 4294967296) (hb : 0 ≤ b) (hb' : b < 4294967296) :
    Calls Tryd.prog 66 #[.int .i64 35, .int .u32 a, .int .u32 b] w fun e w' => e = .returned (.int .u32 (Wd.alu 35 a b)) ∧ w' = w := by
  have sa := Wd.sg_bd ha ha'
  have sb := Wd.sg_bd hb hb'
  obtain ⟨p1, p2⟩ := Wd.pw_bd b hb
  obtain ⟨d1, d2⟩ := sdiv_bd sa.1 sa.2 p1
  go_enter Tryd.func66, Tryd.ntmps66
  go_wp2_with (go_at_call 92; refine (Signed_any _ _ (by omega) (by omega)).mono ?_; rintro e w' ⟨rfl, rfl⟩)
  refine (Power_pw b _ hb).mono ?_
  rintro e w' ⟨rfl, rfl⟩
  go_wp2_with (first | (go_at_call 61; refine (Of_any _ _ (by omega) (by omega)).mono ?_; rintro e w' ⟨rfl, rfl⟩) | (go_at_call 97; refine (floor_any _ _ _ (by omega) (by omega) (by omega) (by omega)).mono ?_; rintro e w' ⟨rfl, rfl⟩))
  go_ret
  exact ⟨ret_int (rfl), rfl⟩

theorem alu_31 (a b : Int) (w : World) (ha : 0 ≤ a) (ha' : a < 4294967296) (hb : 0 ≤ b) (hb' : b < 4294967296) :
    Calls Tryd.prog 66 #[.int .i64 31, .int .u32 a, .int .u32 b] w fun e w' => e = .returned (.int .u32 (Wd.alu 31 a b)) ∧ w' = w := by
  have sa := Wd.sg_bd ha ha'
  have sb := Wd.sg_bd hb hb'
  go_enter Tryd.func66, Tryd.ntmps66
  go_wp2_with (first | (go_at_call 92; refine (Signed_any _ _ (by omega) (by omega)).mono ?_; rintro e w' ⟨rfl, rfl⟩) | (go_at_call 98; refine (truth_any _ _).mono ?_; rintro e w' ⟨rfl, rfl⟩))
  go_ret
  exact ⟨ret_int (rfl), rfl⟩

theorem alu_32 (a b : Int) (w : World) (ha : 0 ≤ a) (ha' : a < 4294967296) (hb : 0 ≤ b) (hb' : b < 4294967296) :
    Calls Tryd.prog 66 #[.int .i64 32, .int .u32 a, .int .u32 b] w fun e w' => e = .returned (.int .u32 (Wd.alu 32 a b)) ∧ w' = w := by
  have sa := Wd.sg_bd ha ha'
  have sb := Wd.sg_bd hb hb'
  go_enter Tryd.func66, Tryd.ntmps66
  go_wp2_with (first | (go_at_call 92; refine (Signed_any _ _ (by omega) (by omega)).mono ?_; rintro e w' ⟨rfl, rfl⟩) | (go_at_call 98; refine (truth_any _ _).mono ?_; rintro e w' ⟨rfl, rfl⟩))
  go_ret
  exact ⟨ret_int (rfl), rfl⟩

theorem alu_38 (a b : Int) (w : World) (ha : 0 ≤ a) (ha' : a < 4294967296) (hb : 0 ≤ b) (hb' : b < 4294967296) :
    Calls Tryd.prog 66 #[.int .i64 38, .int .u32 a, .int .u32 b] w fun e w' => e = .returned (.int .u32 (Wd.alu 38 a b)) ∧ w' = w := by
  have sa := Wd.sg_bd ha ha'
  have sb := Wd.sg_bd hb hb'
  have mb := Wd.mul_bd (x := Wd.sg a) (y := Wd.sg b) (by omega) (by omega) (by omega) (by omega)
  go_enter Tryd.func66, Tryd.ntmps66
  go_wp2_with (first | (go_at_call 92; refine (Signed_any _ _ (by omega) (by omega)).mono ?_; rintro e w' ⟨rfl, rfl⟩) | (go_at_call 61; refine (Of_any _ _ (by omega) (by omega)).mono ?_; rintro e w' ⟨rfl, rfl⟩))
  go_ret
  exact ⟨ret_int (mul_sg a b ha ha' hb hb'), rfl⟩

theorem alu_39 (a b : Int) (w : World) (ha : 0 ≤ a) (ha' : a < 4294967296) (hb : 0 ≤ b) (hb' : b < 4294967296) :
    Calls Tryd.prog 66 #[.int .i64 39, .int .u32 a, .int .u32 b] w fun e w' => e = .returned (.int .u32 (Wd.alu 39 a b)) ∧ w' = w := by
  have sa := Wd.sg_bd ha ha'
  have sb := Wd.sg_bd hb hb'
  have mb : -4611686018427387904 ≤ Wd.sg a * Wd.sg b ∧ Wd.sg a * Wd.sg b ≤ 4611686018427387904 := mulh_bd sa.1 sa.2 sb.1 sb.2
  go_enter Tryd.func66, Tryd.ntmps66
  go_wp2_with (first | (go_at_call 92; refine (Signed_any _ _ (by omega) (by omega)).mono ?_; rintro e w' ⟨rfl, rfl⟩) | (go_at_call 61; refine (Of_any _ _ (by omega) (by omega)).mono ?_; rintro e w' ⟨rfl, rfl⟩) | (go_at_call 97; refine (floor_any _ _ _ (by omega) (by omega) (by omega) (by omega)).mono ?_; rintro e w' ⟨rfl, rfl⟩))
  go_ret
  exact ⟨ret_int (rfl), rfl⟩

theorem alu_40 (a b : Int) (w : World) (ha : 0 ≤ a) (ha' : a < 4294967296) (hb : 0 ≤ b) (hb' : b < 4294967296) :
    Calls Tryd.prog 66 #[.int .i64 40, .int .u32 a, .int .u32 b] w fun e w' => e = .returned (.int .u32 (Wd.alu 40 a b)) ∧ w' = w := by
  have sa := Wd.sg_bd ha ha'
  have sb := Wd.sg_bd hb hb'
  go_enter Tryd.func66, Tryd.ntmps66
  go_wp2_with (first | (go_at_call 92; refine (Signed_any _ _ (by omega) (by omega)).mono ?_; rintro e w' ⟨rfl, rfl⟩) | (go_at_call 99; refine (upper_any _ _ _ (by omega) (by omega) (by omega) (by omega)).mono ?_; rintro e w' ⟨rfl, rfl⟩))
  go_ret
  exact ⟨ret_int (rfl), rfl⟩

theorem alu_41 (a b : Int) (w : World) (ha : 0 ≤ a) (ha' : a < 4294967296) (hb : 0 ≤ b) (hb' : b < 4294967296) :
    Calls Tryd.prog 66 #[.int .i64 41, .int .u32 a, .int .u32 b] w fun e w' => e = .returned (.int .u32 (Wd.alu 41 a b)) ∧ w' = w := by
  have sa := Wd.sg_bd ha ha'
  have sb := Wd.sg_bd hb hb'
  go_enter Tryd.func66, Tryd.ntmps66
  go_wp2_with (first | (go_at_call 92; refine (Signed_any _ _ (by omega) (by omega)).mono ?_; rintro e w' ⟨rfl, rfl⟩) | (go_at_call 99; refine (upper_any _ _ _ (by omega) (by omega) (by omega) (by omega)).mono ?_; rintro e w' ⟨rfl, rfl⟩))
  go_ret
  exact ⟨ret_int (rfl), rfl⟩

theorem alu_42 (a b : Int) (w : World) (ha : 0 ≤ a) (ha' : a < 4294967296) (hb : 0 ≤ b) (hb' : b < 4294967296) :
    Calls Tryd.prog 66 #[.int .i64 42, .int .u32 a, .int .u32 b] w fun e w' => e = .returned (.int .u32 (Wd.alu 42 a b)) ∧ w' = w := by
  have sa := Wd.sg_bd ha ha'
  have sb := Wd.sg_bd hb hb'
  by_cases h0 : b = 0
  · subst h0
    go_enter Tryd.func66, Tryd.ntmps66
    go_wp2_with (first | (go_at_call 92; refine (Signed_any _ _ (by omega) (by omega)).mono ?_; rintro e w' ⟨rfl, rfl⟩) | (go_at_call 61; refine (Of_any _ _ (by omega) (by omega)).mono ?_; rintro e w' ⟨rfl, rfl⟩))
    go_ret
    exact ⟨rfl, rfl⟩
  · have hz : ¬ Wd.sg b = 0 := fun h => h0 ((Wd.sg_zero hb hb').1 h)
    have hb0 : (b == 0) = false := by simpa using h0
    have H : Hid (Wd.alu 42 a b = Wd.lo ((Wd.sg a).tdiv (Wd.sg b))) := (by show Wd.dv a b = _; unfold Wd.dv; rw [if_neg h0] : _ = _)
    obtain ⟨t1, t2⟩ := tdiv_bd (b := Wd.sg b) sa.1 sa.2
    go_enter Tryd.func66, Tryd.ntmps66
    go_wp2_with (first | (go_at_call 92; refine (Signed_any _ _ (by omega) (by omega)).mono ?_; rintro e w' ⟨rfl, rfl⟩) | (go_at_call 61; refine (Of_any _ _ (by omega) (by omega)).mono ?_; rintro e w' ⟨rfl, rfl⟩))
    go_ret
    exact ⟨ret_int (H.out.symm), rfl⟩

theorem alu_44 (a b : Int) (w : World) (ha : 0 ≤ a) (ha' : a < 4294967296) (hb : 0 ≤ b) (hb' : b < 4294967296) :
    Calls Tryd.prog 66 #[.int .i64 44, .int .u32 a, .int .u32 b] w fun e w' => e = .returned (.int .u32 (Wd.alu 44 a b)) ∧ w' = w := by
  have sa := Wd.sg_bd ha ha'
  have sb := Wd.sg_bd hb hb'
  by_cases h0 : b = 0
  · subst h0
    go_enter Tryd.func66, Tryd.ntmps66
    go_wp2_with (go_at_call 92; refine (Signed_any _ _ (by omega) (by omega)).mono ?_; rintro e w' ⟨rfl, rfl⟩)
    go_ret
    exact ⟨rfl, rfl⟩
  · have hz : ¬ Wd.sg b = 0 := fun h => h0 ((Wd.sg_zero hb hb').1 h)
    have hb0 : (b == 0) = false := by simpa using h0
    have H : Hid (Wd.alu 44 a b = Wd.lo ((Wd.sg a).tmod (Wd.sg b))) := (by show Wd.rm a b = _; unfold Wd.rm; rw [if_neg h0] : _ = _)
    obtain ⟨t1, t2⟩ := tdiv_bd (b := Wd.sg b) sa.1 sa.2
    obtain ⟨t3, t4⟩ := tmul_bd (b := Wd.sg b) sa.1 sa.2
    have E : Hid _ := Int.tdiv_mul_add_tmod (Wd.sg a) (Wd.sg b)
    go_enter Tryd.func66, Tryd.ntmps66
    go_wp2_with (first | (go_at_call 92; refine (Signed_any _ _ (by omega) (by omega)).mono ?_; rintro e w' ⟨rfl, rfl⟩) | (go_at_call 61; refine (Of_any _ _ (by omega) (by omega)).mono ?_; rintro e w' ⟨rfl, rfl⟩))
    go_ret
    exact ⟨ret_int (by rw [H.out]; congr 1; have := E.out; omega), rfl⟩

theorem alu_43 (a b : Int) (w : World) (ha : 0 ≤ a) (ha' : a < 4294967296) (hb : 0 ≤ b) (hb' : b < 4294967296) :
    Calls Tryd.prog 66 #[.int .i64 43, .int .u32 a, .int .u32 b] w fun e w' => e = .returned (.int .u32 (Wd.alu 43 a b)) ∧ w' = w := by
  have sa := Wd.sg_bd ha ha'
  have sb := Wd.sg_bd hb hb'
  by_cases h0 : b = 0
  · subst h0
    go_enter Tryd.func66, Tryd.ntmps66
    go_wp2_with (first | (go_at_call 92; refine (Signed_any _ _ (by omega) (by omega)).mono ?_; rintro e w' ⟨rfl, rfl⟩) | (go_at_call 61; refine (Of_any _ _ (by omega) (by omega)).mono ?_; rintro e w' ⟨rfl, rfl⟩))
    go_ret
    exact ⟨rfl, rfl⟩
  · have hz : ¬ Wd.sg b = 0 := fun h => h0 ((Wd.sg_zero hb hb').1 h)
    have hb0 : (b == 0) = false := by simpa using h0
    have H : Hid (Wd.alu 43 a b = a / b) := (by show Wd.dvu a b = _; unfold Wd.dvu; rw [if_neg h0] : _ = _)
    have q1 : 0 ≤ a / b := Int.ediv_nonneg ha hb
    have q2 : a / b ≤ a := Int.ediv_le_self _ ha
    go_enter Tryd.func66, Tryd.ntmps66
    go_wp2_with (first | (go_at_call 92; refine (Signed_any _ _ (by omega) (by omega)).mono ?_; rintro e w' ⟨rfl, rfl⟩) | (go_at_call 61; refine (Of_any _ _ (by omega) (by omega)).mono ?_; rintro e w' ⟨rfl, rfl⟩))
    go_ret
    exact ⟨ret_int ((lo_self q1 (by omega)).trans H.out.symm), rfl⟩

theorem alu_45 (a b : Int) (w : World) (ha : 0 ≤ a) (ha' : a < 4294967296) (hb : 0 ≤ b) (hb' : b < 4294967296) :
    Calls Tryd.prog 66 #[.int .i64 45, .int .u32 a, .int .u32 b] w fun e w' => e = .returned (.int .u32 (Wd.alu 45 a b)) ∧ w' = w := by
  have sa := Wd.sg_bd ha ha'
  have sb := Wd.sg_bd hb hb'
  by_cases h0 : b = 0
  · subst h0
    go_enter Tryd.func66, Tryd.ntmps66
    go_wp2_with (go_at_call 92; refine (Signed_any _ _ (by omega) (by omega)).mono ?_; rintro e w' ⟨rfl, rfl⟩)
    go_ret
    exact ⟨rfl, rfl⟩
  · have hz : ¬ Wd.sg b = 0 := fun h => h0 ((Wd.sg_zero hb hb').1 h)
    have hb0 : (b == 0) = false := by simpa using h0
    have H : Hid (Wd.alu 45 a b = a % b) := (by show Wd.rmu a b = _; unfold Wd.rmu; rw [if_neg h0] : _ = _)
    have q1 : 0 ≤ a % b := Int.emod_nonneg _ h0
    have q2 : a % b < b := Int.emod_lt_of_pos _ (by omega)
    go_enter Tryd.func66, Tryd.ntmps66
    go_wp2_with (first | (go_at_call 92; refine (Signed_any _ _ (by omega) (by omega)).mono ?_; rintro e w' ⟨rfl, rfl⟩) | (go_at_call 61; refine (Of_any _ _ (by omega) (by omega)).mono ?_; rintro e w' ⟨rfl, rfl⟩))
    go_ret
    exact ⟨ret_int ((lo_self q1 (by omega)).trans H.out.symm), rfl⟩

theorem alu_any (op a b : Int) (w : World) (ha : 0 ≤ a) (ha' : a < 4294967296) (hb : 0 ≤ b) (hb' : b < 4294967296) :
    Calls Tryd.prog 66 #[.int .i64 op, .int .u32 a, .int .u32 b] w fun e w' => e = .returned (.int .u32 (Wd.alu op a b)) ∧ ∃ m, w' = w.drewN m := by
  by_cases h28 : op = 28
  · subst h28; exact drawn (alu_28 a b w ha ha' hb hb')
  by_cases h29 : op = 29
  · subst h29; exact drawn (alu_29 a b w ha ha' hb hb')
  by_cases h37 : op = 37
  · subst h37; exact drawn (alu_37 a b w ha ha' hb hb')
  by_cases h36 : op = 36
  · subst h36; exact drawn (alu_36 a b w ha ha' hb hb')
  by_cases h33 : op = 33
  · subst h33; exact drawn (alu_33 a b w ha ha' hb hb')
  by_cases h30 : op = 30
  · subst h30; exact alu_30 a b w ha ha' hb hb'
  by_cases h34 : op = 34
  · subst h34; exact drawn (alu_34 a b w ha ha' hb hb')
  by_cases h35 : op = 35
  · subst h35; exact drawn (alu_35 a b w ha ha' hb hb')
  by_cases h31 : op = 31
  · subst h31; exact drawn (alu_31 a b w ha ha' hb hb')
  by_cases h32 : op = 32
  · subst h32; exact drawn (alu_32 a b w ha ha' hb hb')
  by_cases h38 : op = 38
  · subst h38; exact drawn (alu_38 a b w ha ha' hb hb')
  by_cases h39 : op = 39
  · subst h39; exact drawn (alu_39 a b w ha ha' hb hb')
  by_cases h40 : op = 40
  · subst h40; exact drawn (alu_40 a b w ha ha' hb hb')
  by_cases h41 : op = 41
  · subst h41; exact drawn (alu_41 a b w ha ha' hb hb')
  by_cases h42 : op = 42
  · subst h42; exact drawn (alu_42 a b w ha ha' hb hb')
  by_cases h44 : op = 44
  · subst h44; exact drawn (alu_44 a b w ha ha' hb hb')
  by_cases h43 : op = 43
  · subst h43; exact drawn (alu_43 a b w ha ha' hb hb')
  by_cases h45 : op = 45
  · subst h45; exact drawn (alu_45 a b w ha ha' hb hb')
  have H : Hid (Wd.alu op a b = 0) := (by unfold Wd.alu; rw [if_neg h28, if_neg h29, if_neg h37, if_neg h36, if_neg h33, if_neg h30, if_neg h34, if_neg h35, if_neg h31, if_neg h32, if_neg h38, if_neg h39, if_neg h40, if_neg h41, if_neg h42, if_neg h44, if_neg h43, if_neg h45] : _ = _)
  replace h28 : (op == 28) = false := beq_eq_false_iff_ne.2 h28
  replace h29 : (op == 29) = false := beq_eq_false_iff_ne.2 h29
  replace h37 : (op == 37) = false := beq_eq_false_iff_ne.2 h37
  replace h36 : (op == 36) = false := beq_eq_false_iff_ne.2 h36
  replace h33 : (op == 33) = false := beq_eq_false_iff_ne.2 h33
  replace h30 : (op == 30) = false := beq_eq_false_iff_ne.2 h30
  replace h34 : (op == 34) = false := beq_eq_false_iff_ne.2 h34
  replace h35 : (op == 35) = false := beq_eq_false_iff_ne.2 h35
  replace h31 : (op == 31) = false := beq_eq_false_iff_ne.2 h31
  replace h32 : (op == 32) = false := beq_eq_false_iff_ne.2 h32
  replace h38 : (op == 38) = false := beq_eq_false_iff_ne.2 h38
  replace h39 : (op == 39) = false := beq_eq_false_iff_ne.2 h39
  replace h40 : (op == 40) = false := beq_eq_false_iff_ne.2 h40
  replace h41 : (op == 41) = false := beq_eq_false_iff_ne.2 h41
  replace h42 : (op == 42) = false := beq_eq_false_iff_ne.2 h42
  replace h44 : (op == 44) = false := beq_eq_false_iff_ne.2 h44
  replace h43 : (op == 43) = false := beq_eq_false_iff_ne.2 h43
  replace h45 : (op == 45) = false := beq_eq_false_iff_ne.2 h45
  go_enter Tryd.func66, Tryd.ntmps66
  go_wp2_with (go_at_call 92; refine (Signed_any _ _ (by omega) (by omega)).mono ?_; rintro e w' ⟨rfl, rfl⟩)
  all_goals
    go_ret
    exact ⟨ret_int H.out.symm, 0, rfl⟩

theorem holds_5 (a b : Int) (w : World) (ha : 0 ≤ a) (ha' : a < 4294967296) (hb : 0 ≤ b) (hb' : b < 4294967296) :
    Calls Tryd.prog 64 #[.int .i64 5, .int .u32 a, .int .u32 b] w fun e w' => e = .returned (.bool (Wd.holds 5 a b)) ∧ w' = w := by
  go_enter Tryd.func64, Tryd.ntmps64
  go_wp2_with fail
  go_ret
  exact ⟨ret_bool (rfl), rfl⟩

theorem holds_6 (a b : Int) (w : World) (ha : 0 ≤ a) (ha' : a < 4294967296) (hb : 0 ≤ b) (hb' : b < 4294967296) :
    Calls Tryd.prog 64 #[.int .i64 6, .int .u32 a, .int .u32 b] w fun e w' => e = .returned (.bool (Wd.holds 6 a b)) ∧ w' = w := by
  go_enter Tryd.func64, Tryd.ntmps64
  go_wp2_with fail
  go_ret
  exact ⟨ret_bool (by show (a != b) = decide (a ≠ b); rw [Bool.eq_iff_iff]; simp), rfl⟩

theorem holds_7 (a b : Int) (w : World) (ha : 0 ≤ a) (ha' : a < 4294967296) (hb : 0 ≤ b) (hb' : b < 4294967296) :
    Calls Tryd.prog 64 #[.int .i64 7, .int .u32 a, .int .u32 b] w fun e w' => e = .returned (.bool (Wd.holds 7 a b)) ∧ w' = w := by
  go_enter Tryd.func64, Tryd.ntmps64
  go_wp2_with (go_at_call 92; refine (Signed_any _ _ (by omega) (by omega)).mono ?_; rintro e w' ⟨rfl, rfl⟩)
  go_ret
  exact ⟨ret_bool (rfl), rfl⟩

theorem holds_8 (a b : Int) (w : World) (ha : 0 ≤ a) (ha' : a < 4294967296) (hb : 0 ≤ b) (hb' : b < 4294967296) :
    Calls Tryd.prog 64 #[.int .i64 8, .int .u32 a, .int .u32 b] w fun e w' => e = .returned (.bool (Wd.holds 8 a b)) ∧ w' = w := by
  go_enter Tryd.func64, Tryd.ntmps64
  go_wp2_with (go_at_call 92; refine (Signed_any _ _ (by omega) (by omega)).mono ?_; rintro e w' ⟨rfl, rfl⟩)
  go_ret
  exact ⟨ret_bool (rfl), rfl⟩

theorem holds_9 (a b : Int) (w : World) (ha : 0 ≤ a) (ha' : a < 4294967296) (hb : 0 ≤ b) (hb' : b < 4294967296) :
    Calls Tryd.prog 64 #[.int .i64 9, .int .u32 a, .int .u32 b] w fun e w' => e = .returned (.bool (Wd.holds 9 a b)) ∧ w' = w := by
  go_enter Tryd.func64, Tryd.ntmps64
  go_wp2_with fail
  go_ret
  exact ⟨ret_bool (rfl), rfl⟩

theorem holds_10 (a b : Int) (w : World) (ha : 0 ≤ a) (ha' : a < 4294967296) (hb : 0 ≤ b) (hb' : b < 4294967296) :
    Calls Tryd.prog 64 #[.int .i64 10, .int .u32 a, .int .u32 b] w fun e w' => e = .returned (.bool (Wd.holds 10 a b)) ∧ w' = w := by
  go_enter Tryd.func64, Tryd.ntmps64
  go_wp2_with fail
  go_ret
  exact ⟨ret_bool (rfl), rfl⟩

theorem holds_any (op a b : Int) (w : World) (ha : 0 ≤ a) (ha' : a < 4294967296) (hb : 0 ≤ b) (hb' : b < 4294967296) :
    Calls Tryd.prog 64 #[.int .i64 op, .int .u32 a, .int .u32 b] w fun e w' => e = .returned (.bool (Wd.holds op a b)) ∧ w' = w := by
  by_cases h5 : op = 5
  · subst h5; exact holds_5 a b w ha ha' hb hb'
  by_cases h6 : op = 6
  · subst h6; exact holds_6 a b w ha ha' hb hb'
  by_cases h7 : op = 7
  · subst h7; exact holds_7 a b w ha ha' hb hb'
  by_cases h8 : op = 8
  · subst h8; exact holds_8 a b w ha ha' hb hb'
  by_cases h9 : op = 9
  · subst h9; exact holds_9 a b w ha ha' hb hb'
  by_cases h10 : op = 10
  · subst h10; exact holds_10 a b w ha ha' hb hb'
  have H : Hid (Wd.holds op a b = false) := (by unfold Wd.holds; rw [if_neg h5, if_neg h6, if_neg h7, if_neg h8, if_neg h9, if_neg h10] : _ = _)
  replace h5 : (op == 5) = false := beq_eq_false_iff_ne.2 h5
  replace h6 : (op == 6) = false := beq_eq_false_iff_ne.2 h6
  replace h7 : (op == 7) = false := beq_eq_false_iff_ne.2 h7
  replace h8 : (op == 8) = false := beq_eq_false_iff_ne.2 h8
  replace h9 : (op == 9) = false := beq_eq_false_iff_ne.2 h9
  replace h10 : (op == 10) = false := beq_eq_false_iff_ne.2 h10
  go_enter Tryd.func64, Tryd.ntmps64
  go_wp2_with fail
  all_goals
    go_ret
    exact ⟨ret_bool H.out.symm, rfl⟩

theorem amo_48 (a b : Int) (w : World) (ha : 0 ≤ a) (ha' : a < 4294967296) (hb : 0 ≤ b) (hb' : b < 4294967296) :
    Calls Tryd.prog 100 #[.int .i64 48, .int .u32 a, .int .u32 b] w fun e w' => e = .returned (.int .u32 (Wd.amo 48 a b)) ∧ w' = w := by
  go_enter Tryd.func100, Tryd.ntmps100
  go_wp2_with (go_at_call 92; refine (Signed_any _ _ (by omega) (by omega)).mono ?_; rintro e w' ⟨rfl, rfl⟩)
  all_goals
    go_ret
    exact ⟨rfl, rfl⟩

theorem amo_49 (a b : Int) (w : World) (ha : 0 ≤ a) (ha' : a < 4294967296) (hb : 0 ≤ b) (hb' : b < 4294967296) :
    Calls Tryd.prog 100 #[.int .i64 49, .int .u32 a, .int .u32 b] w fun e w' => e = .returned (.int .u32 (Wd.amo 49 a b)) ∧ ∃ m, w' = w.drewN m := by
  go_enter Tryd.func100, Tryd.ntmps100
  go_wp2_with (first | (go_at_call 66; refine (alu_any _ _ _ _ (by omega) (by omega) (by omega) (by omega)).mono ?_; rintro e w' ⟨rfl, m, rfl⟩) | (go_at_call 92; refine (Signed_any _ _ (by omega) (by omega)).mono ?_; rintro e w' ⟨rfl, rfl⟩))
  all_goals
    go_ret
    exact ⟨rfl, _, rfl⟩

theorem amo_50 (a b : Int) (w : World) (ha : 0 ≤ a) (ha' : a < 4294967296) (hb : 0 ≤ b) (hb' : b < 4294967296) :
    Calls Tryd.prog 100 #[.int .i64 50, .int .u32 a, .int .u32 b] w fun e w' => e = .returned (.int .u32 (Wd.amo 50 a b)) ∧ ∃ m, w' = w.drewN m := by
  go_enter Tryd.func100, Tryd.ntmps100
  go_wp2_with (first | (go_at_call 66; refine (alu_any _ _ _ _ (by omega) (by omega) (by omega) (by omega)).mono ?_; rintro e w' ⟨rfl, m, rfl⟩) | (go_at_call 92; refine (Signed_any _ _ (by omega) (by omega)).mono ?_; rintro e w' ⟨rfl, rfl⟩))
  all_goals
    go_ret
    exact ⟨rfl, _, rfl⟩

theorem amo_51 (a b : Int) (w : World) (ha : 0 ≤ a) (ha' : a < 4294967296) (hb : 0 ≤ b) (hb' : b < 4294967296) :
    Calls Tryd.prog 100 #[.int .i64 51, .int .u32 a, .int .u32 b] w fun e w' => e = .returned (.int .u32 (Wd.amo 51 a b)) ∧ ∃ m, w' = w.drewN m := by
  go_enter Tryd.func100, Tryd.ntmps100
  go_wp2_with (first | (go_at_call 66; refine (alu_any _ _ _ _ (by omega) (by omega) (by omega) (by omega)).mono ?_; rintro e w' ⟨rfl, m, rfl⟩) | (go_at_call 92; refine (Signed_any _ _ (by omega) (by omega)).mono ?_; rintro e w' ⟨rfl, rfl⟩))
  all_goals
    go_ret
    exact ⟨rfl, _, rfl⟩

theorem amo_52 (a b : Int) (w : World) (ha : 0 ≤ a) (ha' : a < 4294967296) (hb : 0 ≤ b) (hb' : b < 4294967296) :
    Calls Tryd.prog 100 #[.int .i64 52, .int .u32 a, .int .u32 b] w fun e w' => e = .returned (.int .u32 (Wd.amo 52 a b)) ∧ ∃ m, w' = w.drewN m := by
  go_enter Tryd.func100, Tryd.ntmps100
  go_wp2_with (first | (go_at_call 66; refine (alu_any _ _ _ _ (by omega) (by omega) (by omega) (by omega)).mono ?_; rintro e w' ⟨rfl, m, rfl⟩) | (go_at_call 92; refine (Signed_any _ _ (by omega) (by omega)).mono ?_; rintro e w' ⟨rfl, rfl⟩))
  all_goals
    go_ret
    exact ⟨rfl, _, rfl⟩

theorem amo_53 (a b : Int) (w : World) (ha : 0 ≤ a) (ha' : a < 4294967296) (hb : 0 ≤ b) (hb' : b < 4294967296) :
    Calls Tryd.prog 100 #[.int .i64 53, .int .u32 a, .int .u32 b] w fun e w' => e = .returned (.int .u32 (Wd.amo 53 a b)) ∧ w' = w := by
  by_cases hs : Wd.sg a < Wd.sg b
  · have hd : decide (Wd.sg a < Wd.sg b) = true := decide_eq_true hs
    have H : Hid _ := hs
    clear hs
    go_enter Tryd.func100, Tryd.ntmps100
    go_wp2_with (go_at_call 92; refine (Signed_any _ _ (by omega) (by omega)).mono ?_; rintro e w' ⟨rfl, rfl⟩)
    go_ret
    exact ⟨ret_int (by show _ = (if Wd.sg a < Wd.sg b then a else b); rw [if_pos (by have := H.out; omega)]), rfl⟩
  · have hd : decide (Wd.sg a < Wd.sg b) = false := decide_eq_false hs
    have H : Hid _ := hs
    clear hs
    go_enter Tryd.func100, Tryd.ntmps100
    go_wp2_with (go_at_call 92; refine (Signed_any _ _ (by omega) (by omega)).mono ?_; rintro e w' ⟨rfl, rfl⟩)
    go_ret
    exact ⟨ret_int (by show _ = (if Wd.sg a < Wd.sg b then a else b); rw [if_neg (by have := H.out; omega)]), rfl⟩

theorem amo_54 (a b : Int) (w : World) (ha : 0 ≤ a) (ha' : a < 4294967296) (hb : 0 ≤ b) (hb' : b < 4294967296) :
    Calls Tryd.prog 100 #[.int .i64 54, .int .u32 a, .int .u32 b] w fun e w' => e = .returned (.int .u32 (Wd.amo 54 a b)) ∧ w' = w := by
  by_cases hs : Wd.sg a < Wd.sg b
  · have hd : decide (Wd.sg a < Wd.sg b) = true := decide_eq_true hs
    have H : Hid _ := hs
    clear hs
    go_enter Tryd.func100, Tryd.ntmps100
    go_wp2_with (go_at_call 92; refine (Signed_any _ _ (by omega) (by omega)).mono ?_; rintro e w' ⟨rfl, rfl⟩)
    go_ret
    exact ⟨ret_int (by show _ = (if Wd.sg a < Wd.sg b then b else a); rw [if_pos (by have := H.out; omega)]), rfl⟩
  · have hd : decide (Wd.sg a < Wd.sg b) = false := decide_eq_false hs
    have H : Hid _ := hs
    clear hs
    go_enter Tryd.func100, Tryd.ntmps100
    go_wp2_with (go_at_call 92; refine (Signed_any _ _ (by omega) (by omega)).mono ?_; rintro e w' ⟨rfl, rfl⟩)
    go_ret
    exact ⟨ret_int (by show _ = (if Wd.sg a < Wd.sg b then b else a); rw [if_neg (by have := H.out; omega)]), rfl⟩

theorem amo_55 (a b : Int) (w : World) (ha : 0 ≤ a) (ha' : a < 4294967296) (hb : 0 ≤ b) (hb' : b < 4294967296) :
    Calls Tryd.prog 100 #[.int .i64 55, .int .u32 a, .int .u32 b] w fun e w' => e = .returned (.int .u32 (Wd.amo 55 a b)) ∧ w' = w := by
  by_cases hs : a < b
  · have hd : decide (a < b) = true := decide_eq_true hs
    have H : Hid _ := hs
    clear hs
    go_enter Tryd.func100, Tryd.ntmps100
    go_wp2_with (go_at_call 92; refine (Signed_any _ _ (by omega) (by omega)).mono ?_; rintro e w' ⟨rfl, rfl⟩)
    go_ret
    exact ⟨ret_int (by show _ = (if a < b then a else b); rw [if_pos (by have := H.out; omega)]), rfl⟩
  · have hd : decide (a < b) = false := decide_eq_false hs
    have H : Hid _ := hs
    clear hs
    go_enter Tryd.func100, Tryd.ntmps100
    go_wp2_with (go_at_call 92; refine (Signed_any _ _ (by omega) (by omega)).mono ?_; rintro e w' ⟨rfl, rfl⟩)
    go_ret
    exact ⟨ret_int (by show _ = (if a < b then a else b); rw [if_neg (by have := H.out; omega)]), rfl⟩

theorem amo_56 (a b : Int) (w : World) (ha : 0 ≤ a) (ha' : a < 4294967296) (hb : 0 ≤ b) (hb' : b < 4294967296) :
    Calls Tryd.prog 100 #[.int .i64 56, .int .u32 a, .int .u32 b] w fun e w' => e = .returned (.int .u32 (Wd.amo 56 a b)) ∧ w' = w := by
  by_cases hs : a < b
  · have hd : decide (a < b) = true := decide_eq_true hs
    have H : Hid _ := hs
    clear hs
    go_enter Tryd.func100, Tryd.ntmps100
    go_wp2_with (go_at_call 92; refine (Signed_any _ _ (by omega) (by omega)).mono ?_; rintro e w' ⟨rfl, rfl⟩)
    go_ret
    exact ⟨ret_int (by show _ = (if a < b then b else a); rw [if_pos (by have := H.out; omega)]), rfl⟩
  · have hd : decide (a < b) = false := decide_eq_false hs
    have H : Hid _ := hs
    clear hs
    go_enter Tryd.func100, Tryd.ntmps100
    go_wp2_with (go_at_call 92; refine (Signed_any _ _ (by omega) (by omega)).mono ?_; rintro e w' ⟨rfl, rfl⟩)
    go_ret
    exact ⟨ret_int (by show _ = (if a < b then b else a); rw [if_neg (by have := H.out; omega)]), rfl⟩

theorem amo_any (op a b : Int) (w : World) (ha : 0 ≤ a) (ha' : a < 4294967296) (hb : 0 ≤ b) (hb' : b < 4294967296) :
    Calls Tryd.prog 100 #[.int .i64 op, .int .u32 a, .int .u32 b] w fun e w' => e = .returned (.int .u32 (Wd.amo op a b)) ∧ ∃ m, w' = w.drewN m := by
  by_cases h48 : op = 48
  · subst h48; exact drawn (amo_48 a b w ha ha' hb hb')
  by_cases h49 : op = 49
  · subst h49; exact amo_49 a b w ha ha' hb hb'
  by_cases h50 : op = 50
  · subst h50; exact amo_50 a b w ha ha' hb hb'
  by_cases h51 : op = 51
  · subst h51; exact amo_51 a b w ha ha' hb hb'
  by_cases h52 : op = 52
  · subst h52; exact amo_52 a b w ha ha' hb hb'
  by_cases h53 : op = 53
  · subst h53; exact drawn (amo_53 a b w ha ha' hb hb')
  by_cases h54 : op = 54
  · subst h54; exact drawn (amo_54 a b w ha ha' hb hb')
  by_cases h55 : op = 55
  · subst h55; exact drawn (amo_55 a b w ha ha' hb hb')
  by_cases h56 : op = 56
  · subst h56; exact drawn (amo_56 a b w ha ha' hb hb')
  have H : Hid (Wd.amo op a b = 0) := (by unfold Wd.amo; rw [if_neg h48, if_neg h49, if_neg h50, if_neg h51, if_neg h52, if_neg h53, if_neg h54, if_neg h55, if_neg h56] : _ = _)
  replace h48 : (op == 48) = false := beq_eq_false_iff_ne.2 h48
  replace h49 : (op == 49) = false := beq_eq_false_iff_ne.2 h49
  replace h50 : (op == 50) = false := beq_eq_false_iff_ne.2 h50
  replace h51 : (op == 51) = false := beq_eq_false_iff_ne.2 h51
  replace h52 : (op == 52) = false := beq_eq_false_iff_ne.2 h52
  replace h53 : (op == 53) = false := beq_eq_false_iff_ne.2 h53
  replace h54 : (op == 54) = false := beq_eq_false_iff_ne.2 h54
  replace h55 : (op == 55) = false := beq_eq_false_iff_ne.2 h55
  replace h56 : (op == 56) = false := beq_eq_false_iff_ne.2 h56
  go_enter Tryd.func100, Tryd.ntmps100
  go_wp2_with (go_at_call 92; refine (Signed_any _ _ (by omega) (by omega)).mono ?_; rintro e w' ⟨rfl, rfl⟩)
  all_goals
    go_ret
    exact ⟨ret_int H.out.symm, 0, rfl⟩

end Go.Proofs.YtdiofidmlgliiaaDoor.Rw
