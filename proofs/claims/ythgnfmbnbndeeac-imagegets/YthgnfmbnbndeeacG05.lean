/-
  Ref1Alu, Ref4a, Ref3Walks: texts of ours that lie in one file.
-/
import Derived.Test.YthgnfmbnbndeeacG04
import Derived.Deep.QuietTactic
import Derived.BigQuiet
import Derived.Deep.RegionWith
import Derived.Test.YthgnfmbnbndeeacG01
/-
  What the functions Alu, Holds and Amo of package ferrybridgeref1 return, for every operation and every two words: 'Wd.alu', 'Wd.holds', 'Wd.amo', and nothing in memory turns. Conditions: the words are from 0 to 2^32 - 1.
-/
namespace Go.Proofs.Ythgnfmbnbndeeac.Rw
open Go.ChangeShapes Go.WideShapes Go.ChangeAt Go.RowKit
set_option linter.unusedVariables false

variable {a p b : Int}
theorem drawn {P : Program} {f : FuncId} {args : Array Value} {w : World} {v : Value} (h : Calls P f args w fun e w' => e = .returned v ∧ w' = w) : Calls P f args w fun e w' => e = .returned v ∧ ∃ m, w' = w.drewN m :=
  h.mono fun _ _ ⟨he, hm⟩ => ⟨he, 0, hm⟩
theorem lo_lo (n : Int) : Wd.lo (Wd.lo n) = Wd.lo n := by unfold Wd.lo; omega
theorem lo_self {n : Int} (h : 0 ≤ n) (h' : n < 4294967296) : Wd.lo n = n := by unfold Wd.lo; omega
theorem div_bd (ha : 0 ≤ a) (ha' : a < 4294967296) (hp : 1 ≤ p) : 0 ≤ a / p ∧ a / p < 4294967296 :=
  ⟨Int.ediv_nonneg ha (by omega), Int.lt_of_le_of_lt (Int.ediv_le_self _ ha) ha'⟩
theorem sdiv_bd (ha : -2147483648 ≤ a) (ha' : a < 2147483648) (hp : 1 ≤ p) : -2147483648 ≤ a / p ∧ a / p < 2147483648 := by
  constructor
  · rw [Int.le_ediv_iff_mul_le (by omega)]
    omega
  · rw [Int.ediv_lt_iff_lt_mul (by omega)]
    omega
theorem mul_sg (a b : Int) (ha : 0 ≤ a) (ha' : a < 4294967296) (hb : 0 ≤ b) (hb' : b < 4294967296) : Wd.lo (Wd.sg a * Wd.sg b) = Wd.lo (a * b) := by
  have h1 : (Wd.sg a) % 4294967296 = a % 4294967296 := by unfold Wd.sg; split <;> omega
  have h2 : (Wd.sg b) % 4294967296 = b % 4294967296 := by unfold Wd.sg; split <;> omega
  show Wd.sg a * Wd.sg b % 4294967296 = a * b % 4294967296
  rw [Int.mul_emod, h1, h2, ← Int.mul_emod]
theorem tdiv_bd (ha : -2147483648 ≤ a) (ha' : a < 2147483648) : -2147483648 ≤ a.tdiv b ∧ a.tdiv b ≤ 2147483648 := by
  have h := Int.natAbs_tdiv_le_natAbs a b
  omega
theorem tmul_bd (ha : -2147483648 ≤ a) (ha' : a < 2147483648) : -2147483648 ≤ a.tdiv b * b ∧ a.tdiv b * b ≤ 2147483648 := by
  have h1 : (a.tdiv b * b).natAbs ≤ a.natAbs := by
    rw [Int.natAbs_mul, Int.natAbs_tdiv]; exact Nat.div_mul_le_self _ _
  omega

set_option maxRecDepth 100000 in
theorem alu_30 (a b : Int) (w : World) (ha : 0 ≤ a) (ha' : a < 4294967296) (hb : 0 ≤ b) (hb' : b < 4294967296) :
    Calls Try.prog 52 #[.int .i64 30, .int .u32 a, .int .u32 b] w fun e w' => e = .returned (.int .u32 (Wd.alu 30 a b)) ∧ ∃ m, w' = w.drewN m := by
  have sa := Wd.sg_bd ha ha'
  have sb := Wd.sg_bd hb hb'
  obtain ⟨p1, p2⟩ := Wd.pw_bd b hb
  obtain ⟨q1, q2⟩ := sll_bd a b hb
  have E : Hid _ := sll_eq a b ha hb
  have el := Wd.lo_bd (a * Wd.pw b)
  have m0 : 0 ≤ a % ((2 ^ (32 - b.toNat % 32) : Nat) : Int) * Wd.pw b := by rw [E.out]; exact el.1
  have m1 : a % ((2 ^ (32 - b.toNat % 32) : Nat) : Int) * Wd.pw b < 4294967296 := by rw [E.out]; exact el.2
  clear el
  have hP : Hid (∀ w : World, _) := fun w => Power_rest b w hb
  have hP2 : Hid (∀ w : World, _) := fun w => Power_pw b w hb
  have hN : 0 < 2 ^ (32 - b.toNat % 32) := Nat.two_pow_pos _
  generalize 2 ^ (32 - b.toNat % 32) = P at *
  have hN1 : (0 : Int) < (P : Int) := by omega
  go_enter Try.func52, Try.ntmps52
  go_wp2_with (go_at_call 61; refine (Signed_any _ _ (by omega) (by omega)).mono ?_; rintro e w' ⟨rfl, rfl⟩)
  refine wp_region_quiet_lit (by kernel_rfl) (by kernel_rfl) ?_
  go_big_quiet_step (fail)
  go_big_quiet_step (fail)
  go_big_quiet_step (fail)
  go_big_quiet_step (exact Calls.quiet_of_same (hP.out _))
  go_big_quiet_step (fail)
  go_big_quiet_step (fail)
  go_big_quiet_step (exact Calls.quiet_of_same (hP2.out _))
  go_big_quiet_step (fail)
  go_big_quiet_step (exact Calls.quiet_of_same (Of_any _ _ (by omega) (by omega)))
  go_big_quiet_step (fail)
  refine wpQuiet_nil ?_
  intro _ hw1
  obtain ⟨nq, hw2⟩ := hw1
  subst hw2
  go_wp2
  go_ret
  exact ⟨ret_int ((lo_self (by rw [E.out]; exact (Wd.lo_bd _).1) (by rw [E.out]; exact (Wd.lo_bd _).2)).trans E.out), _, rfl⟩

theorem mulh_bd {x y : Int} (hx : -2147483648 ≤ x) (hx' : x < 2147483648) (hy : -2147483648 ≤ y) (hy' : y < 2147483648) : -4611686018427387904 ≤ x * y ∧ x * y ≤ 4611686018427387904 := by
  by_cases h : 0 ≤ x
  · have a1 : x * y ≤ x * 2147483648 := Int.mul_le_mul_of_nonneg_left (by omega) h
    have a2 : x * (-2147483648) ≤ x * y := Int.mul_le_mul_of_nonneg_left (by omega) h
    omega
  · have a1 : x * y ≤ x * (-2147483648) := Int.mul_le_mul_of_nonpos_left (by omega) (by omega)
    have a2 : x * 2147483648 ≤ x * y := Int.mul_le_mul_of_nonpos_left (by omega) (by omega)
    omega
theorem alu_34 (a b : Int) (w : World) (ha : 0 ≤ a) (ha' : a < 4294967296) (hb : 0 ≤ b) (hb' : b < 4294967296) :
    Calls Try.prog 52 #[.int .i64 34, .int .u32 a, .int .u32 b] w fun e w' => e = .returned (.int .u32 (Wd.alu 34 a b)) ∧ w' = w := by
  have sa := Wd.sg_bd ha ha'
  have sb := Wd.sg_bd hb hb'
  obtain ⟨p1, p2⟩ := Wd.pw_bd b hb
  obtain ⟨d1, d2⟩ := div_bd ha ha' p1
  go_enter Try.func52, Try.ntmps52
  go_wp2_with (go_at_call 61; refine (Signed_any _ _ (by omega) (by omega)).mono ?_; rintro e w' ⟨rfl, rfl⟩)
  refine (Power_pw b _ hb).mono ?_
  rintro e w' ⟨rfl, rfl⟩
  go_wp2_with (go_at_call 47; refine (Of_any _ _ (by omega) (by omega)).mono ?_; rintro e w' ⟨rfl, rfl⟩)
  go_ret
  exact ⟨ret_int (lo_self d1 d2), rfl⟩

theorem alu_35 (a b : Int) (w : World) (ha : 0 ≤ a) (ha' : a < 4294967296) (hb : 0 ≤ b) (hb' : b < 4294967296) :
    Calls Try.prog 52 #[.int .i64 35, .int .u32 a, .int .u32 b] w fun e w' => e = .returned (.int .u32 (Wd.alu 35 a b)) ∧ w' = w := by
  have sa := Wd.sg_bd ha ha'
  have sb := Wd.sg_bd hb hb'
  obtain ⟨p1, p2⟩ := Wd.pw_bd b hb
  obtain ⟨d1, d2⟩ := sdiv_bd sa.1 sa.2 p1
  go_enter Try.func52, Try.ntmps52
  go_wp2_with (go_at_call 61; refine (Signed_any _ _ (by omega) (by omega)).mono ?_; rintro e w' ⟨rfl, rfl⟩)
  refine (Power_pw b _ hb).mono ?_
  rintro e w' ⟨rfl, rfl⟩
  go_wp2_with (first | (go_at_call 47; refine (Of_any _ _ (by omega) (by omega)).mono ?_; rintro e w' ⟨rfl, rfl⟩) | (go_at_call 66; refine (floor_any _ _ _ (by omega) (by omega) (by omega) (by omega)).mono ?_; rintro e w' ⟨rfl, rfl⟩))
  go_ret
  exact ⟨ret_int (rfl), rfl⟩

theorem alu_31 (a b : Int) (w : World) (ha : 0 ≤ a) (ha' : a < 4294967296) (hb : 0 ≤ b) (hb' : b < 4294967296) :
    Calls Try.prog 52 #[.int .i64 31, .int .u32 a, .int .u32 b] w fun e w' => e = .returned (.int .u32 (Wd.alu 31 a b)) ∧ w' = w := by
  have sa := Wd.sg_bd ha ha'
  have sb := Wd.sg_bd hb hb'
  go_enter Try.func52, Try.ntmps52
  go_wp2_with (first | (go_at_call 61; refine (Signed_any _ _ (by omega) (by omega)).mono ?_; rintro e w' ⟨rfl, rfl⟩) | (go_at_call 67; refine (truth_any _ _).mono ?_; rintro e w' ⟨rfl, rfl⟩))
  go_ret
  exact ⟨ret_int (rfl), rfl⟩

theorem alu_32 (a b : Int) (w : World) (ha : 0 ≤ a) (ha' : a < 4294967296) (hb : 0 ≤ b) (hb' : b < 4294967296) :
    Calls Try.prog 52 #[.int .i64 32, .int .u32 a, .int .u32 b] w fun e w' => e = .returned (.int .u32 (Wd.alu 32 a b)) ∧ w' = w := by
  have sa := Wd.sg_bd ha ha'
  have sb := Wd.sg_bd hb hb'
  go_enter Try.func52, Try.ntmps52
  go_wp2_with (first | (go_at_call 61; refine (Signed_any _ _ (by omega) (by omega)).mono ?_; rintro e w' ⟨rfl, rfl⟩) | (go_at_call 67; refine (truth_any _ _).mono ?_; rintro e w' ⟨rfl, rfl⟩))
  go_ret
  exact ⟨ret_int (rfl), rfl⟩

theorem alu_38 (a b : Int) (w : World) (ha : 0 ≤ a) (ha' : a < 4294967296) (hb : 0 ≤ b) (hb' : b < 4294967296) :
    Calls Try.prog 52 #[.int .i64 38, .int .u32 a, .int .u32 b] w fun e w' => e = .returned (.int .u32 (Wd.alu 38 a b)) ∧ w' = w := by
  have sa := Wd.sg_bd ha ha'
  have sb := Wd.sg_bd hb hb'
  have mb := Wd.mul_bd (x := Wd.sg a) (y := Wd.sg b) (by omega) (by omega) (by omega) (by omega)
  go_enter Try.func52, Try.ntmps52
  go_wp2_with (first | (go_at_call 61; refine (Signed_any _ _ (by omega) (by omega)).mono ?_; rintro e w' ⟨rfl, rfl⟩) | (go_at_call 47; refine (Of_any _ _ (by omega) (by omega)).mono ?_; rintro e w' ⟨rfl, rfl⟩))
  go_ret
  exact ⟨ret_int (mul_sg a b ha ha' hb hb'), rfl⟩

theorem alu_39 (a b : Int) (w : World) (ha : 0 ≤ a) (ha' : a < 4294967296) (hb : 0 ≤ b) (hb' : b < 4294967296) :
    Calls Try.prog 52 #[.int .i64 39, .int .u32 a, .int .u32 b] w fun e w' => e = .returned (.int .u32 (Wd.alu 39 a b)) ∧ w' = w := by
  have sa := Wd.sg_bd ha ha'
  have sb := Wd.sg_bd hb hb'
  have mb : -4611686018427387904 ≤ Wd.sg a * Wd.sg b ∧ Wd.sg a * Wd.sg b ≤ 4611686018427387904 := mulh_bd sa.1 sa.2 sb.1 sb.2
  go_enter Try.func52, Try.ntmps52
  go_wp2_with (first | (go_at_call 61; refine (Signed_any _ _ (by omega) (by omega)).mono ?_; rintro e w' ⟨rfl, rfl⟩) | (go_at_call 47; refine (Of_any _ _ (by omega) (by omega)).mono ?_; rintro e w' ⟨rfl, rfl⟩) | (go_at_call 66; refine (floor_any _ _ _ (by omega) (by omega) (by omega) (by omega)).mono ?_; rintro e w' ⟨rfl, rfl⟩))
  go_ret
  exact ⟨ret_int (rfl), rfl⟩

theorem alu_40 (a b : Int) (w : World) (ha : 0 ≤ a) (ha' : a < 4294967296) (hb : 0 ≤ b) (hb' : b < 4294967296) :
    Calls Try.prog 52 #[.int .i64 40, .int .u32 a, .int .u32 b] w fun e w' => e = .returned (.int .u32 (Wd.alu 40 a b)) ∧ w' = w := by
  have sa := Wd.sg_bd ha ha'
  have sb := Wd.sg_bd hb hb'
  go_enter Try.func52, Try.ntmps52
  go_wp2_with (first | (go_at_call 61; refine (Signed_any _ _ (by omega) (by omega)).mono ?_; rintro e w' ⟨rfl, rfl⟩) | (go_at_call 68; refine (upper_any _ _ _ (by omega) (by omega) (by omega) (by omega)).mono ?_; rintro e w' ⟨rfl, rfl⟩))
  go_ret
  exact ⟨ret_int (rfl), rfl⟩

theorem alu_41 (a b : Int) (w : World) (ha : 0 ≤ a) (ha' : a < 4294967296) (hb : 0 ≤ b) (hb' : b < 4294967296) :
    Calls Try.prog 52 #[.int .i64 41, .int .u32 a, .int .u32 b] w fun e w' => e = .returned (.int .u32 (Wd.alu 41 a b)) ∧ w' = w := by
  have sa := Wd.sg_bd ha ha'
  have sb := Wd.sg_bd hb hb'
  go_enter Try.func52, Try.ntmps52
  go_wp2_with (first | (go_at_call 61; refine (Signed_any _ _ (by omega) (by omega)).mono ?_; rintro e w' ⟨rfl, rfl⟩) | (go_at_call 68; refine (upper_any _ _ _ (by omega) (by omega) (by omega) (by omega)).mono ?_; rintro e w' ⟨rfl, rfl⟩))
  go_ret
  exact ⟨ret_int (rfl), rfl⟩

theorem alu_42 (a b : Int) (w : World) (ha : 0 ≤ a) (ha' : a < 4294967296) (hb : 0 ≤ b) (hb' : b < 4294967296) :
    Calls Try.prog 52 #[.int .i64 42, .int .u32 a, .int .u32 b] w fun e w' => e = .returned (.int .u32 (Wd.alu 42 a b)) ∧ w' = w := by
  have sa := Wd.sg_bd ha ha'
  have sb := Wd.sg_bd hb hb'
  by_cases h0 : b = 0
  · subst h0
    go_enter Try.func52, Try.ntmps52
    go_wp2_with (first | (go_at_call 61; refine (Signed_any _ _ (by omega) (by omega)).mono ?_; rintro e w' ⟨rfl, rfl⟩) | (go_at_call 47; refine (Of_any _ _ (by omega) (by omega)).mono ?_; rintro e w' ⟨rfl, rfl⟩))
    go_ret
    exact ⟨rfl, rfl⟩
  · have hz : ¬ Wd.sg b = 0 := fun h => h0 ((Wd.sg_zero hb hb').1 h)
    have hb0 : (b == 0) = false := by simpa using h0
    have H : Hid (Wd.alu 42 a b = Wd.lo ((Wd.sg a).tdiv (Wd.sg b))) := (by show Wd.dv a b = _; unfold Wd.dv; rw [if_neg h0] : _ = _)
    obtain ⟨t1, t2⟩ := tdiv_bd (b := Wd.sg b) sa.1 sa.2
    go_enter Try.func52, Try.ntmps52
    go_wp2_with (first | (go_at_call 61; refine (Signed_any _ _ (by omega) (by omega)).mono ?_; rintro e w' ⟨rfl, rfl⟩) | (go_at_call 47; refine (Of_any _ _ (by omega) (by omega)).mono ?_; rintro e w' ⟨rfl, rfl⟩))
    go_ret
    exact ⟨ret_int (H.out.symm), rfl⟩

theorem alu_44 (a b : Int) (w : World) (ha : 0 ≤ a) (ha' : a < 4294967296) (hb : 0 ≤ b) (hb' : b < 4294967296) :
    Calls Try.prog 52 #[.int .i64 44, .int .u32 a, .int .u32 b] w fun e w' => e = .returned (.int .u32 (Wd.alu 44 a b)) ∧ w' = w := by
  have sa := Wd.sg_bd ha ha'
  have sb := Wd.sg_bd hb hb'
  by_cases h0 : b = 0
  · subst h0
    go_enter Try.func52, Try.ntmps52
    go_wp2_with (go_at_call 61; refine (Signed_any _ _ (by omega) (by omega)).mono ?_; rintro e w' ⟨rfl, rfl⟩)
    go_ret
    exact ⟨rfl, rfl⟩
  · have hz : ¬ Wd.sg b = 0 := fun h => h0 ((Wd.sg_zero hb hb').1 h)
    have hb0 : (b == 0) = false := by simpa using h0
    have H : Hid (Wd.alu 44 a b = Wd.lo ((Wd.sg a).tmod (Wd.sg b))) := (by show Wd.rm a b = _; unfold Wd.rm; rw [if_neg h0] : _ = _)
    obtain ⟨t1, t2⟩ := tdiv_bd (b := Wd.sg b) sa.1 sa.2
    obtain ⟨t3, t4⟩ := tmul_bd (b := Wd.sg b) sa.1 sa.2
    have E : Hid _ := Int.tdiv_mul_add_tmod (Wd.sg a) (Wd.sg b)
    go_enter Try.func52, Try.ntmps52
    go_wp2_with (first | (go_at_call 61; refine (Signed_any _ _ (by omega) (by omega)).mono ?_; rintro e w' ⟨rfl, rfl⟩) | (go_at_call 47; refine (Of_any _ _ (by omega) (by omega)).mono ?_; rintro e w' ⟨rfl, rfl⟩))
    go_ret
    exact ⟨ret_int (by rw [H.out]; congr 1; have := E.out; omega), rfl⟩

theorem alu_43 (a b : Int) (w : World) (ha : 0 ≤ a) (ha' : a < 4294967296) (hb : 0 ≤ b) (hb' : b < 4294967296) :
    Calls Try.prog 52 #[.int .i64 43, .int .u32 a, .int .u32 b] w fun e w' => e = .returned (.int .u32 (Wd.alu 43 a b)) ∧ w' = w := by
  have sa := Wd.sg_bd ha ha'
  have sb := Wd.sg_bd hb hb'
  by_cases h0 : b = 0
  · subst h0
    go_enter Try.func52, Try.ntmps52
    go_wp2_with (first | (go_at_call 61; refine (Signed_any _ _ (by omega) (by omega)).mono ?_; rintro e w' ⟨rfl, rfl⟩) | (go_at_call 47; refine (Of_any _ _ (by omega) (by omega)).mono ?_; rintro e w' ⟨rfl, rfl⟩))
    go_ret
    exact ⟨rfl, rfl⟩
  · have hz : ¬ Wd.sg b = 0 := fun h => h0 ((Wd.sg_zero hb hb').1 h)
    have hb0 : (b == 0) = false := by simpa using h0
    have H : Hid (Wd.alu 43 a b = a / b) := (by show Wd.dvu a b = _; unfold Wd.dvu; rw [if_neg h0] : _ = _)
    have q1 : 0 ≤ a / b := Int.ediv_nonneg ha hb
    have q2 : a / b ≤ a := Int.ediv_le_self _ ha
    go_enter Try.func52, Try.ntmps52
    go_wp2_with (first | (go_at_call 61; refine (Signed_any _ _ (by omega) (by omega)).mono ?_; rintro e w' ⟨rfl, rfl⟩) | (go_at_call 47; refine (Of_any _ _ (by omega) (by omega)).mono ?_; rintro e w' ⟨rfl, rfl⟩))
    go_ret
    exact ⟨ret_int ((lo_self q1 (by omega)).trans H.out.symm), rfl⟩

theorem alu_45 (a b : Int) (w : World) (ha : 0 ≤ a) (ha' : a < 4294967296) (hb : 0 ≤ b) (hb' : b < 4294967296) :
    Calls Try.prog 52 #[.int .i64 45, .int .u32 a, .int .u32 b] w fun e w' => e = .returned (.int .u32 (Wd.alu 45 a b)) ∧ w' = w := by
  have sa := Wd.sg_bd ha ha'
  have sb := Wd.sg_bd hb hb'
  by_cases h0 : b = 0
  · subst h0
    go_enter Try.func52, Try.ntmps52
    go_wp2_with (go_at_call 61; refine (Signed_any _ _ (by omega) (by omega)).mono ?_; rintro e w' ⟨rfl, rfl⟩)
    go_ret
    exact ⟨rfl, rfl⟩
  · have hz : ¬ Wd.sg b = 0 := fun h => h0 ((Wd.sg_zero hb hb').1 h)
    have hb0 : (b == 0) = false := by simpa using h0
    have H : Hid (Wd.alu 45 a b = a % b) := (by show Wd.rmu a b = _; unfold Wd.rmu; rw [if_neg h0] : _ = _)
    have q1 : 0 ≤ a % b := Int.emod_nonneg _ h0
    have q2 : a % b < b := Int.emod_lt_of_pos _ (by omega)
    go_enter Try.func52, Try.ntmps52
    go_wp2_with (first | (go_at_call 61; refine (Signed_any _ _ (by omega) (by omega)).mono ?_; rintro e w' ⟨rfl, rfl⟩) | (go_at_call 47; refine (Of_any _ _ (by omega) (by omega)).mono ?_; rintro e w' ⟨rfl, rfl⟩))
    go_ret
    exact ⟨ret_int ((lo_self q1 (by omega)).trans H.out.symm), rfl⟩

theorem alu_any (op a b : Int) (w : World) (ha : 0 ≤ a) (ha' : a < 4294967296) (hb : 0 ≤ b) (hb' : b < 4294967296) :
    Calls Try.prog 52 #[.int .i64 op, .int .u32 a, .int .u32 b] w fun e w' => e = .returned (.int .u32 (Wd.alu op a b)) ∧ ∃ m, w' = w.drewN m := by
  by_cases h28 : op = 28
  · subst h28; exact drawn (alu_28 a b w ha ha' hb hb')
  by_cases h29 : op = 29
  · subst h29; exact drawn (alu_29 a b w ha ha' hb hb')
  by_cases h37 : op = 37
  · subst h37; exact drawn (alu_37 a b w ha ha' hb hb')
  by_cases h36 : op = 36
  · subst h36; exact drawn (alu_36 a b w ha ha' hb hb')
  by_cases h33 : op = 33
  · subst h33; exact drawn (alu_33 a b w ha ha' hb hb')
  by_cases h30 : op = 30
  · subst h30; exact alu_30 a b w ha ha' hb hb'
  by_cases h34 : op = 34
  · subst h34; exact drawn (alu_34 a b w ha ha' hb hb')
  by_cases h35 : op = 35
  · subst h35; exact drawn (alu_35 a b w ha ha' hb hb')
  by_cases h31 : op = 31
  · subst h31; exact drawn (alu_31 a b w ha ha' hb hb')
  by_cases h32 : op = 32
  · subst h32; exact drawn (alu_32 a b w ha ha' hb hb')
  by_cases h38 : op = 38
  · subst h38; exact drawn (alu_38 a b w ha ha' hb hb')
  by_cases h39 : op = 39
  · subst h39; exact drawn (alu_39 a b w ha ha' hb hb')
  by_cases h40 : op = 40
  · subst h40; exact drawn (alu_40 a b w ha ha' hb hb')
  by_cases h41 : op = 41
  · subst h41; exact drawn (alu_41 a b w ha ha' hb hb')
  by_cases h42 : op = 42
  · subst h42; exact drawn (alu_42 a b w ha ha' hb hb')
  by_cases h44 : op = 44
  · subst h44; exact drawn (alu_44 a b w ha ha' hb hb')
  by_cases h43 : op = 43
  · subst h43; exact drawn (alu_43 a b w ha ha' hb hb')
  by_cases h45 : op = 45
  · subst h45; exact drawn (alu_45 a b w ha ha' hb hb')
  have H : Hid (Wd.alu op a b = 0) := (by unfold Wd.alu; rw [if_neg h28, if_neg h29, if_neg h37, if_neg h36, if_neg h33, if_neg h30, if_neg h34, if_neg h35, if_neg h31, if_neg h32, if_neg h38, if_neg h39, if_neg h40, if_neg h41, if_neg h42, if_neg h44, if_neg h43, if_neg h45] : _ = _)
  replace h28 : (op == 28) = false := beq_eq_false_iff_ne.2 h28
  replace h29 : (op == 29) = false := beq_eq_false_iff_ne.2 h29
  replace h37 : (op == 37) = false := beq_eq_false_iff_ne.2 h37
  replace h36 : (op == 36) = false := beq_eq_false_iff_ne.2 h36
  replace h33 : (op == 33) = false := beq_eq_false_iff_ne.2 h33
  replace h30 : (op == 30) = false := beq_eq_false_iff_ne.2 h30
  replace h34 : (op == 34) = false := beq_eq_false_iff_ne.2 h34
  replace h35 : (op == 35) = false := beq_eq_false_iff_ne.2 h35
  replace h31 : (op == 31) = false := beq_eq_false_iff_ne.2 h31
  replace h32 : (op == 32) = false := beq_eq_false_iff_ne.2 h32
  replace h38 : (op == 38) = false := beq_eq_false_iff_ne.2 h38
  replace h39 : (op == 39) = false := beq_eq_false_iff_ne.2 h39
  replace h40 : (op == 40) = false := beq_eq_false_iff_ne.2 h40
  replace h41 : (op == 41) = false := beq_eq_false_iff_ne.2 h41
  replace h42 : (op == 42) = false := beq_eq_false_iff_ne.2 h42
  replace h44 : (op == 44) = false := beq_eq_false_iff_ne.2 h44
  replace h43 : (op == 43) = false := beq_eq_false_iff_ne.2 h43
  replace h45 : (op == 45) = false := beq_eq_false_iff_ne.2 h45
  go_enter Try.func52, Try.ntmps52
  go_wp2_with (go_at_call 61; refine (Signed_any _ _ (by omega) (by omega)).mono ?_; rintro e w' ⟨rfl, rfl⟩)
  all_goals
    go_ret
    exact ⟨ret_int H.out.symm, 0, rfl⟩

theorem holds_5 (a b : Int) (w : World) (ha : 0 ≤ a) (ha' : a < 4294967296) (hb : 0 ≤ b) (hb' : b < 4294967296) :
    Calls Try.prog 50 #[.int .i64 5, .int .u32 a, .int .u32 b] w fun e w' => e = .returned (.bool (Wd.holds 5 a b)) ∧ w' = w := by
  go_enter Try.func50, Try.ntmps50
  go_wp2_with fail
  go_ret
  exact ⟨ret_bool (rfl), rfl⟩

theorem holds_6 (a b : Int) (w : World) (ha : 0 ≤ a) (ha' : a < 4294967296) (hb : 0 ≤ b) (hb' : b < 4294967296) :
    Calls Try.prog 50 #[.int .i64 6, .int .u32 a, .int .u32 b] w fun e w' => e = .returned (.bool (Wd.holds 6 a b)) ∧ w' = w := by
  go_enter Try.func50, Try.ntmps50
  go_wp2_with fail
  go_ret
  exact ⟨ret_bool (by show (a != b) = decide (a ≠ b); rw [Bool.eq_iff_iff]; simp), rfl⟩

theorem holds_7 (a b : Int) (w : World) (ha : 0 ≤ a) (ha' : a < 4294967296) (hb : 0 ≤ b) (hb' : b < 4294967296) :
    Calls Try.prog 50 #[.int .i64 7, .int .u32 a, .int .u32 b] w fun e w' => e = .returned (.bool (Wd.holds 7 a b)) ∧ w' = w := by
  go_enter Try.func50, Try.ntmps50
  go_wp2_with (go_at_call 61; refine (Signed_any _ _ (by omega) (by omega)).mono ?_; rintro e w' ⟨rfl, rfl⟩)
  go_ret
  exact ⟨ret_bool (rfl), rfl⟩

theorem holds_8 (a b : Int) (w : World) (ha : 0 ≤ a) (ha' : a < 4294967296) (hb : 0 ≤ b) (hb' : b < 4294967296) :
    Calls Try.prog 50 #[.int .i64 8, .int .u32 a, .int .u32 b] w fun e w' => e = .returned (.bool (Wd.holds 8 a b)) ∧ w' = w := by
  go_enter Try.func50, Try.ntmps50
  go_wp2_with (go_at_call 61; refine (Signed_any _ _ (by omega) (by omega)).mono ?_; rintro e w' ⟨rfl, rfl⟩)
  go_ret
  exact ⟨ret_bool (rfl), rfl⟩

theorem holds_9 (a b : Int) (w : World) (ha : 0 ≤ a) (ha' : a < 4294967296) (hb : 0 ≤ b) (hb' : b < 4294967296) :
    Calls Try.prog 50 #[.int .i64 9, .int .u32 a, .int .u32 b] w fun e w' => e = .returned (.bool (Wd.holds 9 a b)) ∧ w' = w := by
  go_enter Try.func50, Try.ntmps50
  go_wp2_with fail
  go_ret
  exact ⟨ret_bool (rfl), rfl⟩

theorem holds_10 (a b : Int) (w : World) (ha : 0 ≤ a) (ha' : a < 4294967296) (hb : 0 ≤ b) (hb' : b < 4294967296) :
    Calls Try.prog 50 #[.int .i64 10, .int .u32 a, .int .u32 b] w fun e w' => e = .returned (.bool (Wd.holds 10 a b)) ∧ w' = w := by
  go_enter Try.func50, Try.ntmps50
  go_wp2_with fail
  go_ret
  exact ⟨ret_bool (rfl), rfl⟩

theorem holds_any (op a b : Int) (w : World) (ha : 0 ≤ a) (ha' : a < 4294967296) (hb : 0 ≤ b) (hb' : b < 4294967296) :
    Calls Try.prog 50 #[.int .i64 op, .int .u32 a, .int .u32 b] w fun e w' => e = .returned (.bool (Wd.holds op a b)) ∧ w' = w := by
  by_cases h5 : op = 5
  · subst h5; exact holds_5 a b w ha ha' hb hb'
  by_cases h6 : op = 6
  · subst h6; exact holds_6 a b w ha ha' hb hb'
  by_cases h7 : op = 7
  · subst h7; exact holds_7 a b w ha ha' hb hb'
  by_cases h8 : op = 8
  · subst h8; exact holds_8 a b w ha ha' hb hb'
  by_cases h9 : op = 9
  · subst h9; exact holds_9 a b w ha ha' hb hb'
  by_cases h10 : op = 10
  · subst h10; exact holds_10 a b w ha ha' hb hb'
  have H : Hid (Wd.holds op a b = false) := (by unfold Wd.holds; rw [if_neg h5, if_neg h6, if_neg h7, if_neg h8, if_neg h9, if_neg h10] : _ = _)
  replace h5 : (op == 5) = false := beq_eq_false_iff_ne.2 h5
  replace h6 : (op == 6) = false := beq_eq_false_iff_ne.2 h6
  replace h7 : (op == 7) = false := beq_eq_false_iff_ne.2 h7
  replace h8 : (op == 8) = false := beq_eq_false_iff_ne.2 h8
  replace h9 : (op == 9) = false := beq_eq_false_iff_ne.2 h9
  replace h10 : (op == 10) = false := beq_eq_false_iff_ne.2 h10
  go_enter Try.func50, Try.ntmps50
  go_wp2_with fail
  all_goals
    go_ret
    exact ⟨ret_bool H.out.symm, rfl⟩

theorem amo_48 (a b : Int) (w : World) (ha : 0 ≤ a) (ha' : a < 4294967296) (hb : 0 ≤ b) (hb' : b < 4294967296) :
    Calls Try.prog 69 #[.int .i64 48, .int .u32 a, .int .u32 b] w fun e w' => e = .returned (.int .u32 (Wd.amo 48 a b)) ∧ w' = w := by
  go_enter Try.func69, Try.ntmps69
  go_wp2_with (go_at_call 61; refine (Signed_any _ _ (by omega) (by omega)).mono ?_; rintro e w' ⟨rfl, rfl⟩)
  all_goals
    go_ret
    exact ⟨rfl, rfl⟩

theorem amo_49 (a b : Int) (w : World) (ha : 0 ≤ a) (ha' : a < 4294967296) (hb : 0 ≤ b) (hb' : b < 4294967296) :
    Calls Try.prog 69 #[.int .i64 49, .int .u32 a, .int .u32 b] w fun e w' => e = .returned (.int .u32 (Wd.amo 49 a b)) ∧ ∃ m, w' = w.drewN m := by
  go_enter Try.func69, Try.ntmps69
  go_wp2_with (first | (go_at_call 52; refine (alu_any _ _ _ _ (by omega) (by omega) (by omega) (by omega)).mono ?_; rintro e w' ⟨rfl, m, rfl⟩) | (go_at_call 61; refine (Signed_any _ _ (by omega) (by omega)).mono ?_; rintro e w' ⟨rfl, rfl⟩))
  all_goals
    go_ret
    exact ⟨rfl, _, rfl⟩

theorem amo_50 (a b : Int) (w : World) (ha : 0 ≤ a) (ha' : a < 4294967296) (hb : 0 ≤ b) (hb' : b < 4294967296) :
    Calls Try.prog 69 #[.int .i64 50, .int .u32 a, .int .u32 b] w fun e w' => e = .returned (.int .u32 (Wd.amo 50 a b)) ∧ ∃ m, w' = w.drewN m := by
  go_enter Try.func69, Try.ntmps69
  go_wp2_with (first | (go_at_call 52; refine (alu_any _ _ _ _ (by omega) (by omega) (by omega) (by omega)).mono ?_; rintro e w' ⟨rfl, m, rfl⟩) | (go_at_call 61; refine (Signed_any _ _ (by omega) (by omega)).mono ?_; rintro e w' ⟨rfl, rfl⟩))
  all_goals
    go_ret
    exact ⟨rfl, _, rfl⟩

theorem amo_51 (a b : Int) (w : World) (ha : 0 ≤ a) (ha' : a < 4294967296) (hb : 0 ≤ b) (hb' : b < 4294967296) :
    Calls Try.prog 69 #[.int .i64 51, .int .u32 a, .int .u32 b] w fun e w' => e = .returned (.int .u32 (Wd.amo 51 a b)) ∧ ∃ m, w' = w.drewN m := by
  go_enter Try.func69, Try.ntmps69
  go_wp2_with (first | (go_at_call 52; refine (alu_any _ _ _ _ (by omega) (by omega) (by omega) (by omega)).mono ?_; rintro e w' ⟨rfl, m, rfl⟩) | (go_at_call 61; refine (Signed_any _ _ (by omega) (by omega)).mono ?_; rintro e w' ⟨rfl, rfl⟩))
  all_goals
    go_ret
    exact ⟨rfl, _, rfl⟩

theorem amo_52 (a b : Int) (w : World) (ha : 0 ≤ a) (ha' : a < 4294967296) (hb : 0 ≤ b) (hb' : b < 4294967296) :
    Calls Try.prog 69 #[.int .i64 52, .int .u32 a, .int .u32 b] w fun e w' => e = .returned (.int .u32 (Wd.amo 52 a b)) ∧ ∃ m, w' = w.drewN m := by
  go_enter Try.func69, Try.ntmps69
  go_wp2_with (first | (go_at_call 52; refine (alu_any _ _ _ _ (by omega) (by omega) (by omega) (by omega)).mono ?_; rintro e w' ⟨rfl, m, rfl⟩) | (go_at_call 61; refine (Signed_any _ _ (by omega) (by omega)).mono ?_; rintro e w' ⟨rfl, rfl⟩))
  all_goals
    go_ret
    exact ⟨rfl, _, rfl⟩

theorem amo_53 (a b : Int) (w : World) (ha : 0 ≤ a) (ha' : a < 4294967296) (hb : 0 ≤ b) (hb' : b < 4294967296) :
    Calls Try.prog 69 #[.int .i64 53, .int .u32 a, .int .u32 b] w fun e w' => e = .returned (.int .u32 (Wd.amo 53 a b)) ∧ w' = w := by
  by_cases hs : Wd.sg a < Wd.sg b
  · have hd : decide (Wd.sg a < Wd.sg b) = true := decide_eq_true hs
    have H : Hid _ := hs
    clear hs
    go_enter Try.func69, Try.ntmps69
    go_wp2_with (go_at_call 61; refine (Signed_any _ _ (by omega) (by omega)).mono ?_; rintro e w' ⟨rfl, rfl⟩)
    go_ret
    exact ⟨ret_int (by show _ = (if Wd.sg a < Wd.sg b then a else b); rw [if_pos (by have := H.out; omega)]), rfl⟩
  · have hd : decide (Wd.sg a < Wd.sg b) = false := decide_eq_false hs
    have H : Hid _ := hs
    clear hs
    go_enter Try.func69, Try.ntmps69
    go_wp2_with (go_at_call 61; refine (Signed_any _ _ (by omega) (by omega)).mono ?_; rintro e w' ⟨rfl, rfl⟩)
    go_ret
    exact ⟨ret_int (by show _ = (if Wd.sg a < Wd.sg b then a else b); rw [if_neg (by have := H.out; omega)]), rfl⟩

theorem amo_54 (a b : Int) (w : World) (ha : 0 ≤ a) (ha' : a < 4294967296) (hb : 0 ≤ b) (hb' : b < 4294967296) :
    Calls Try.prog 69 #[.int .i64 54, .int .u32 a, .int .u32 b] w fun e w' => e = .returned (.int .u32 (Wd.amo 54 a b)) ∧ w' = w := by
  by_cases hs : Wd.sg a < Wd.sg b
  · have hd : decide (Wd.sg a < Wd.sg b) = true := decide_eq_true hs
    have H : Hid _ := hs
    clear hs
    go_enter Try.func69, Try.ntmps69
    go_wp2_with (go_at_call 61; refine (Signed_any _ _ (by omega) (by omega)).mono ?_; rintro e w' ⟨rfl, rfl⟩)
    go_ret
    exact ⟨ret_int (by show _ = (if Wd.sg a < Wd.sg b then b else a); rw [if_pos (by have := H.out; omega)]), rfl⟩
  · have hd : decide (Wd.sg a < Wd.sg b) = false := decide_eq_false hs
    have H : Hid _ := hs
    clear hs
    go_enter Try.func69, Try.ntmps69
    go_wp2_with (go_at_call 61; refine (Signed_any _ _ (by omega) (by omega)).mono ?_; rintro e w' ⟨rfl, rfl⟩)
    go_ret
    exact ⟨ret_int (by show _ = (if Wd.sg a < Wd.sg b then b else a); rw [if_neg (by have := H.out; omega)]), rfl⟩

theorem amo_55 (a b : Int) (w : World) (ha : 0 ≤ a) (ha' : a < 4294967296) (hb : 0 ≤ b) (hb' : b < 4294967296) :
    Calls Try.prog 69 #[.int .i64 55, .int .u32 a, .int .u32 b] w fun e w' => e = .returned (.int .u32 (Wd.amo 55 a b)) ∧ w' = w := by
  by_cases hs : a < b
  · have hd : decide (a < b) = true := decide_eq_true hs
    have H : Hid _ := hs
    clear hs
    go_enter Try.func69, Try.ntmps69
    go_wp2_with (go_at_call 61; refine (Signed_any _ _ (by omega) (by omega)).mono ?_; rintro e w' ⟨rfl, rfl⟩)
    go_ret
    exact ⟨ret_int (by show _ = (if a < b then a else b); rw [if_pos (by have := H.out; omega)]), rfl⟩
  · have hd : decide (a < b) = false := decide_eq_false hs
    have H : Hid _ := hs
    clear hs
    go_enter Try.func69, Try.ntmps69
    go_wp2_with (go_at_call 61; refine (Signed_any _ _ (by omega) (by omega)).mono ?_; rintro e w' ⟨rfl, rfl⟩)
    go_ret
    exact ⟨ret_int (by show _ = (if a < b then a else b); rw [if_neg (by have := H.out; omega)]), rfl⟩

theorem amo_56 (a b : Int) (w : World) (ha : 0 ≤ a) (ha' : a < 4294967296) (hb : 0 ≤ b) (hb' : b < 4294967296) :
    Calls Try.prog 69 #[.int .i64 56, .int .u32 a, .int .u32 b] w fun e w' => e = .returned (.int .u32 (Wd.amo 56 a b)) ∧ w' = w := by
  by_cases hs : a < b
  · have hd : decide (a < b) = true := decide_eq_true hs
    have H : Hid _ := hs
    clear hs
    go_enter Try.func69, Try.ntmps69
    go_wp2_with (go_at_call 61; refine (Signed_any _ _ (by omega) (by omega)).mono ?_; rintro e w' ⟨rfl, rfl⟩)
    go_ret
    exact ⟨ret_int (by show _ = (if a < b then b else a); rw [if_pos (by have := H.out; omega)]), rfl⟩
  · have hd : decide (a < b) = false := decide_eq_false hs
    have H : Hid _ := hs
    clear hs
    go_enter Try.func69, Try.ntmps69
    go_wp2_with (go_at_call 61; refine (Signed_any _ _ (by omega) (by omega)).mono ?_; rintro e w' ⟨rfl, rfl⟩)
    go_ret
    exact ⟨ret_int (by show _ = (if a < b then b else a); rw [if_neg (by have := H.out; omega)]), rfl⟩

theorem amo_any (op a b : Int) (w : World) (ha : 0 ≤ a) (ha' : a < 4294967296) (hb : 0 ≤ b) (hb' : b < 4294967296) :
    Calls Try.prog 69 #[.int .i64 op, .int .u32 a, .int .u32 b] w fun e w' => e = .returned (.int .u32 (Wd.amo op a b)) ∧ ∃ m, w' = w.drewN m := by
  by_cases h48 : op = 48
  · subst h48; exact drawn (amo_48 a b w ha ha' hb hb')
  by_cases h49 : op = 49
  · subst h49; exact amo_49 a b w ha ha' hb hb'
  by_cases h50 : op = 50
  · subst h50; exact amo_50 a b w ha ha' hb hb'
  by_cases h51 : op = 51
  · subst h51; exact amo_51 a b w ha ha' hb hb'
  by_cases h52 : op = 52
  · subst h52; exact amo_52 a b w ha ha' hb hb'
  by_cases h53 : op = 53
  · subst h53; exact drawn (amo_53 a b w ha ha' hb hb')
  by_cases h54 : op = 54
  · subst h54; exact drawn (amo_54 a b w ha ha' hb hb')
  by_cases h55 : op = 55
  · subst h55; exact drawn (amo_55 a b w ha ha' hb hb')
  by_cases h56 : op = 56
  · subst h56; exact drawn (amo_56 a b w ha ha' hb hb')
  have H : Hid (Wd.amo op a b = 0) := (by unfold Wd.amo; rw [if_neg h48, if_neg h49, if_neg h50, if_neg h51, if_neg h52, if_neg h53, if_neg h54, if_neg h55, if_neg h56] : _ = _)
  replace h48 : (op == 48) = false := beq_eq_false_iff_ne.2 h48
  replace h49 : (op == 49) = false := beq_eq_false_iff_ne.2 h49
  replace h50 : (op == 50) = false := beq_eq_false_iff_ne.2 h50
  replace h51 : (op == 51) = false := beq_eq_false_iff_ne.2 h51
  replace h52 : (op == 52) = false := beq_eq_false_iff_ne.2 h52
  replace h53 : (op == 53) = false := beq_eq_false_iff_ne.2 h53
  replace h54 : (op == 54) = false := beq_eq_false_iff_ne.2 h54
  replace h55 : (op == 55) = false := beq_eq_false_iff_ne.2 h55
  replace h56 : (op == 56) = false := beq_eq_false_iff_ne.2 h56
  go_enter Try.func69, Try.ntmps69
  go_wp2_with (go_at_call 61; refine (Signed_any _ _ (by omega) (by omega)).mono ?_; rintro e w' ⟨rfl, rfl⟩)
  all_goals
    go_ret
    exact ⟨ret_int H.out.symm, 0, rfl⟩

end Go.Proofs.Ythgnfmbnbndeeac.Rw
/-
  What the small functions of package ferrybridgeref4 return: trap, set, each of every struct that a step did; and nothing old in memory turns.
-/
namespace Go.Proofs.Ythgnfmbnbndeeac.Hr
open Go.ChangeShapes Go.WideShapes Go.ChangeAt Go.RowKit Mm Hh
set_option linter.unusedVariables false
set_option linter.unusedSimpArgs false

variable {d : Dv}
theorem iD : (Try.prog.info? 81).map (·.size) = some 41 := by kernel_rfl
theorem iH : (Try.prog.info? 48).map (·.size) = some 37 := by kernel_rfl
theorem ret_int {k : IntKind} {a b : Int} (h : a = b) : Ending.returned (.int k a) = .returned (.int k b) := by rw [h]

theorem sum_any (a b : Int) (w : World) (ha : 0 ≤ a) (ha' : a < 4294967296) (hb : 0 ≤ b) (hb' : b < 4294967296) :
    Calls Try.prog 48 #[.int .u32 a, .int .u32 b] w fun e w' => e = .returned (.int .u32 (Wd.lo (a + b))) ∧ w' = w := by
  go_enter Try.func48, Try.ntmps48
  go_wp2_with (go_at_call 52; refine (Rw.alu_28 _ _ _ ha ha' hb hb').mono ?_; rintro e w' ⟨rfl, rfl⟩)
  go_ret
  exact ⟨ret_int rfl, rfl⟩
theorem operation_any (op : Int) (w : World) : Calls Try.prog 53 #[.int .i64 op] w fun e w' => e = .returned (.int .i64 (opn op)) ∧ w' = w := by
  go_enter Try.func53, Try.ntmps53
  go_wp2
  all_goals
    go_ret
    refine ⟨ret_int ?_, rfl⟩
    simp only [beq_iff_eq, beq_eq_false_iff_ne, ne_eq] at *
    unfold opn
    repeat' split
    all_goals omega

theorem trap_any (o : d.Ok) (c : Int) (w : World) :
    Calls Try.prog 45 #[.agg (dA d), .int .i64 c] w fun e w' => e = .returned (.agg (dA (d.setH (d.h.trap c)))) ∧ Gr w w' := by
  have o1 : Hv.Ok { d.h with state := 2 } := ⟨o.h.len, o.h.reg, o.h.pc0, o.h.pc1, o.h.at0, o.h.at1⟩
  have e1 : (dA d).setIfInBounds 35 (.int .i64 2) = dA { d with h := { d.h with state := 2 } } := dA_set o.h (by omega) (set_state o.h 2)
  have e2 : (dA { d with h := { d.h with state := 2 } }).setIfInBounds 36 (.int .i64 c) = dA (d.setH (d.h.trap c)) := dA_set (d := { d with h := { d.h with state := 2 } }) o1 (by omega) (set_cause o1 c)
  have hs := dA_size o.h
  have s1 : (dA { d with h := { d.h with state := 2 } }).size = 41 := dA_size (d := { d with h := { d.h with state := 2 } }) o1
  have S2 : Hid ((dA (d.setH (d.h.trap c))).size = 41) := dA_size (d := d.setH (d.h.trap c)) (o.h.trap c)
  have H1 : Hid ((dA (d.setH (d.h.trap c))).all (·.oneCell') = true) := one_dA (o.setH (o.h.trap c))
  generalize dA { d with h := { d.h with state := 2 } } = D1 at *
  generalize dA (d.setH (d.h.trap c)) = D2 at *
  generalize dA d = D0 at *
  clear o1 o
  go_enter Try.func45, Try.ntmps45
  go_wp2_with (first
    | (refine wpList_load_row rfl 81 _ rfl _ rfl _ _ _ _ (heap_alloc2_old w _ _) Try.underlying81 rfl (by rw [S2.out]; exact iD) ?_)
    | (refine wpList_store_row rfl 81 _ _ rfl _ _ rfl rfl _ _ (heap_alloc2_new w _ _) (by rw [S2.out]; exact iD) (by rw [S2.out]; rfl) H1.out ?_))
  refine bodyPost_ret (v := .agg D2) (results_cell_row rfl _ _ _ _ _ (0, 0) _ rfl (heap_setRow2 w _ _ _ _) Try.underlying81 rfl (by rw [S2.out]; exact iD)) rfl ⟨rfl, ?_⟩
  exact gr_setRow (((Gr.refl _).alloc _).alloc _) (Nat.le_succ _) _

set_option maxHeartbeats 400000 in
theorem set_any (o : d.Ok) (r x : Int) (w : World) (h0 : 0 ≤ r) (h1 : r < 32) (hx0 : 0 ≤ x) (hx1 : x < 4294967296) :
    Calls Try.prog 49 #[.agg (dA d), .int .i64 r, .int .u32 x] w fun e w' => e = .returned (.agg (dA (d.setH (d.h.set r.toNat x)))) ∧ Gr w w' := by
  have hs := dA_size o.h
  have S2 : Hid ((dA (d.setH (d.h.set r.toNat x))).size = 41) := dA_size (d := d.setH (d.h.set r.toNat x)) (o.h.set _ hx0 hx1)
  have H1 : Hid ((dA (d.setH (d.h.set r.toNat x))).all (·.oneCell') = true) := one_dA (o.setH (o.h.set _ hx0 hx1))
  obtain ⟨r, rfl⟩ := Int.eq_ofNat_of_zero_le h0
  simp only [Int.toNat_natCast] at *
  by_cases hr : r = 0
  · subst hr
    have e : d.setH (d.h.set 0 x) = d := rfl
    rw [e] at S2 H1 ⊢
    generalize dA d = D2 at *
    clear o e
    go_enter Try.func49, Try.ntmps49
    go_wp2_with (first
      | (refine wpList_load_row rfl 81 _ rfl _ rfl _ _ _ _ (heap_alloc2_old w _ _) Try.underlying81 rfl (by rw [S2.out]; exact iD) ?_)
      | (refine wpList_store_row rfl 81 _ _ rfl _ _ rfl rfl _ _ (heap_alloc2_new w _ _) (by rw [S2.out]; exact iD) (by rw [S2.out]; rfl) H1.out ?_))
    refine bodyPost_ret (v := .agg D2) (results_cell_row rfl _ _ _ _ _ (0, 0) _ rfl (heap_setRow2 w _ _ _ _) Try.underlying81 rfl (by rw [S2.out]; exact iD)) rfl ⟨rfl, ?_⟩
    exact gr_setRow (((Gr.refl _).alloc _).alloc _) (Nat.le_succ _) _
  · have e1 : (dA d).setIfInBounds r (.int .u32 x) = dA (d.setH (d.h.set r x)) := by
      have : d.h.set r x = { d.h with regs := d.h.regs.set r x } := if_neg hr
      rw [this]
      exact dA_set o.h (by omega) (set_reg o.h (by omega) x)
    have hr' : ¬ (r : Int) = 0 := by omega
    have hr2 : r < 32 := by omega
    have hget : (dA d)[r]? = some (.int .u32 (rg d.h r)) := by rw [dA_get o.h (by omega)]; exact hL_reg o.h hr2
    generalize rg d.h r = y at *
    generalize dA (d.setH (d.h.set r x)) = D2 at *
    generalize dA d = D0 at *
    clear o
    clear hs
    go_enter Try.func49, Try.ntmps49
    go_wp2_with (first
      | (refine wpList_load_row rfl 81 _ rfl _ rfl _ _ _ _ (heap_alloc2_old w _ _) Try.underlying81 rfl (by rw [S2.out]; exact iD) ?_)
      | (refine wpList_store_row rfl 81 _ _ rfl _ _ rfl rfl _ _ (heap_alloc2_new w _ _) (by rw [S2.out]; exact iD) (by rw [S2.out]; rfl) H1.out ?_))
    refine bodyPost_ret (v := .agg D2) (results_cell_row rfl _ _ _ _ _ (0, 0) _ rfl (heap_setRow2 w _ _ _ _) Try.underlying81 rfl (by rw [S2.out]; exact iD)) rfl ⟨rfl, ?_⟩
    exact gr_setRow (((Gr.refl _).alloc _).alloc _) (Nat.le_succ _) _
end Go.Proofs.Ythgnfmbnbndeeac.Hr
/-
  What the functions of package ferrybridgeref3, and ferrybridgeref4.Bytes, return, each for every memory, op, place and word: as package mem's do; Bytes whether two memories are the same. Conditions: the words are from 0 to 2^32 - 1; the memory is one that a machine can hold.
-/
namespace Go.Proofs.Ythgnfmbnbndeeac.Mr
open Go.ChangeShapes Go.WideShapes Go.ChangeAt Go.RowKit Mm
set_option linter.unusedVariables false
set_option linter.unusedSimpArgs false

variable {k n : Nat} {op X P x b a : Int} {ao : Option Addr} {l : List UInt8} {w : World}
theorem Size_load (op : Int) (w : World) : Calls Try.prog 57 #[.int .i64 op, .bool false] w fun e w' => e = .returned (.int .i64 (lsz op : Nat)) ∧ w' = w := by
  go_enter Try.func57, Try.ntmps57
  go_wp2
  all_goals
    go_ret
    refine ⟨ret_int ?_, rfl⟩
    simp only [beq_iff_eq, beq_eq_false_iff_ne, ne_eq] at *
    unfold lsz
    repeat' split
    all_goals omega
theorem Size_store (op : Int) (w : World) : Calls Try.prog 57 #[.int .i64 op, .bool true] w fun e w' => e = .returned (.int .i64 (ssz op : Nat)) ∧ w' = w := by
  go_enter Try.func57, Try.ntmps57
  go_wp2
  all_goals
    go_ret
    refine ⟨ret_int ?_, rfl⟩
    simp only [beq_iff_eq, beq_eq_false_iff_ne, ne_eq] at *
    unfold ssz
    repeat' split
    all_goals omega

theorem there_any (ao : Option Addr) (n cap : Nat) (s : Nat) (a : Int) (w : World) (hn : n ≤ 140737488351232) (hs : s ≤ 4) (h0 : 0 ≤ a) (h1 : a < 4294967296) :
    Calls Try.prog 58 #[.slice ao n cap, .int .u32 a, .int .i64 (s : Nat)] w fun e w' => e = .returned (.bool (thr n s a)) ∧ w' = w := by
  by_cases hs0 : s = 0
  · subst hs0
    go_enter Try.func58, Try.ntmps58
    go_wp2
    go_ret
    exact ⟨ret_bool (thr_f (by omega)), rfl⟩
  by_cases hm : a % (s : Int) = 0
  · by_cases hl : a + s ≤ n
    · go_enter Try.func58, Try.ntmps58
      go_wp2
      go_ret
      exact ⟨ret_bool (thr_t (by omega) hm hl), rfl⟩
    · go_enter Try.func58, Try.ntmps58
      go_wp2
      go_ret
      exact ⟨ret_bool (thr_f (by omega)), rfl⟩
  · go_enter Try.func58, Try.ntmps58
    go_wp2
    go_ret
    exact ⟨ret_bool (thr_f (by omega)), rfl⟩

theorem Load_no (ao : Option Addr) (n cap : Nat) (op a : Int) (w : World) (hn : n ≤ 140737488351232) (h0 : 0 ≤ a) (h1 : a < 4294967296) (hok : thr n (lsz op) a = false) :
    Calls Try.prog 44 #[.slice ao n cap, .int .i64 op, .int .u32 a] w fun e w' => e = .returned (.tuple #[.int .u32 0, .bool false]) ∧ w' = w := by
  have hs := lsz_le op
  go_enter Try.func44, Try.ntmps44
  go_wp2_with (first | (go_at_call 57; refine (Size_load _ _).mono ?_; rintro e w' ⟨rfl, rfl⟩) | (go_at_call 58; refine (there_any _ _ _ _ _ _ hn hs (by omega) (by omega)).mono ?_; rintro e w' ⟨rfl, rfl⟩))
  go_ret2
  exact ⟨rfl, rfl⟩
def p8 (k : Nat) : Int := 256 ^ k
theorem p8_succ (k : Nat) : p8 (k + 1) = 256 * p8 k := by unfold p8; rw [Int.pow_succ, Int.mul_comm]
theorem p8_bd (hk : k ≤ 4) : 1 ≤ p8 k ∧ p8 k ≤ 4294967296 := by
  have h : k = 0 ∨ k = 1 ∨ k = 2 ∨ k = 3 ∨ k = 4 := by omega
  rcases h with rfl | rfl | rfl | rfl | rfl <;> decide
theorem p8_bd3 (hk : k < 4) : 1 ≤ p8 k ∧ p8 k ≤ 16777216 := by
  have h : k = 0 ∨ k = 1 ∨ k = 2 ∨ k = 3 := by omega
  rcases h with rfl | rfl | rfl | rfl <;> decide
theorem wide_neg (h11 : op = 11 → P = 256) (h12 : op = 12 → P = 65536) (h : op = 11 ∨ op = 12) (h0 : 0 ≤ X) (h1 : X < P) (hg : P / 2 ≤ X) : Wd.lo (X - P) = wide op X := by
  unfold Wd.lo wide
  rcases h with h | h
  · have := h11 h; rw [if_pos h, if_neg (by omega)]; omega
  · have := h12 h; rw [if_neg (by omega), if_pos h, if_neg (by omega)]; omega
theorem wide_pos (h11 : op = 11 → P = 256) (h12 : op = 12 → P = 65536) (h : (op = 11 ∨ op = 12) → ¬ P / 2 ≤ X) (h0 : 0 ≤ X) (h1 : X < P) (hP : P ≤ 4294967296) : Wd.lo X = wide op X := by
  unfold Wd.lo wide
  by_cases e1 : op = 11
  · have := h11 e1; have := h (.inl e1); rw [if_pos e1, if_pos (by omega)]; omega
  · by_cases e2 : op = 12
    · have := h12 e2; have := h (.inr e2); rw [if_neg e1, if_pos e2, if_pos (by omega)]; omega
    · rw [if_neg e1, if_neg e2]; omega
theorem ret2 {k : IntKind} {y : Int} {b : Bool} (h : x = y) : Ending.returned (.tuple #[.int k x, .bool b]) = .returned (.tuple #[.int k y, .bool b]) := by rw [h]
theorem beq_t (h : a = b) : (a == b) = true := by simp [h]
theorem beq_f (h : ¬ a = b) : (a == b) = false := by simp [h]
theorem Load_yes (b o n cap : Nat) (l : List UInt8) (op : Int) (a : Nat) (w : World) (hn : n ≤ 140737488351232) (hl : l.length = n) (ha : a < 4294967296)
    (hc : ∀ t, t < n → w.cell? ⟨b, o + t, none⟩ = some (.int .u8 (bv l t))) (hok : thr n (lsz op) (a : Int) = true) :
    Calls Try.prog 44 #[.slice (some ⟨b, o, none⟩) n cap, .int .i64 op, .int .u32 a] w fun e w' => e = .returned (.tuple #[.int .u32 (wide op (raw l a (lsz op))), .bool true]) ∧ w' = w := by
  have hs := lsz_le op
  have hk := hok
  simp only [thr, decide_eq_true_eq] at hk
  obtain ⟨k0, k1, k2⟩ := hk
  have hroom := lsz_room k1 ha k0
  go_enter Try.func44, Try.ntmps44
  go_wp2_with (first | (go_at_call 57; refine (Size_load _ _).mono ?_; rintro e w' ⟨rfl, rfl⟩) | (go_at_call 58; refine (there_any _ _ _ _ _ _ hn hs (by omega) (by omega)).mono ?_; rintro e w' ⟨rfl, rfl⟩))
  go_loop [9, 10, 11] (fun x p i => ∃ k : Nat, k ≤ lsz op ∧ i = .int .i64 k ∧ p = .int .i64 (p8 k) ∧ x = .int .i64 (raw l a k)) (fun _ _ i => lsz op - (intOf i).toNat)
  case atStart => exact ⟨0, Nat.zero_le _, rfl, rfl, rfl⟩
  case round =>
    obtain ⟨k, hk, rfl, rfl, rfl⟩ := hrel
    have rb := raw_bd l a k
    change _ ∧ _ < p8 k at rb
    have bb := bv_bd l (a + k)
    have pb := p8_bd (show k ≤ 4 by omega)
    by_cases hlt : k < lsz op
    · have hck := hc (a + k) (by omega)
      have pb3 := p8_bd3 (show k < 4 by omega)
      have hm0 : 0 ≤ bv l (a + k) * p8 k := Int.mul_nonneg bb.1 (by omega)
      have hm1 : bv l (a + k) * p8 k ≤ 255 * p8 k := Int.mul_le_mul_of_nonneg_right bb.2 (by omega)
      have HP : Hid (p8 (k + 1) = 256 * p8 k) := p8_succ k
      have HR : Hid (raw l a (k + 1) = raw l a k + bv l (a + k) * p8 k) := rfl
      clear hc
      go_wp2
      go_round
      case rel => exact ⟨k + 1, by omega, by go_num, by rw [HP.out], by rw [HR.out]⟩
      case measure => simp [intOf]; omega
    · obtain rfl : k = lsz op := by omega
      have c11 : Hid (op = 11 → p8 (lsz op) = 256) := fun e => by subst e; rfl
      have c12 : Hid (op = 12 → p8 (lsz op) = 65536) := fun e => by subst e; rfl
      clear hc hok hroom k1 k2 bb hk
      by_cases e1 : op = 11
      · have E : Hid (op = 11 ∨ op = 12) := Or.inl e1
        have b1 := beq_t e1
        clear e1
        by_cases hge : p8 (lsz op) / 2 ≤ raw l a (lsz op)
        · have F : Hid (Wd.lo (raw l a (lsz op) - p8 (lsz op)) = wide op (raw l a (lsz op))) := wide_neg c11.out c12.out E.out rb.1 rb.2 hge
          go_wp2_with (go_at_call 47; refine (Rw.Of_any _ _ (by omega) (by omega)).mono ?_; rintro e w' ⟨rfl, rfl⟩)
          go_ret2
          exact ⟨ret2 F.out, rfl⟩
        · have F : Hid (Wd.lo (raw l a (lsz op)) = wide op (raw l a (lsz op))) := wide_pos c11.out c12.out (fun _ => hge) rb.1 rb.2 pb.2
          go_wp2_with (go_at_call 47; refine (Rw.Of_any _ _ (by omega) (by omega)).mono ?_; rintro e w' ⟨rfl, rfl⟩)
          go_ret2
          exact ⟨ret2 F.out, rfl⟩
      by_cases e2 : op = 12
      · have E : Hid (op = 11 ∨ op = 12) := Or.inr e2
        have b1 := beq_f e1
        have b2 := beq_t e2
        clear e1 e2
        by_cases hge : p8 (lsz op) / 2 ≤ raw l a (lsz op)
        · have F : Hid (Wd.lo (raw l a (lsz op) - p8 (lsz op)) = wide op (raw l a (lsz op))) := wide_neg c11.out c12.out E.out rb.1 rb.2 hge
          go_wp2_with (go_at_call 47; refine (Rw.Of_any _ _ (by omega) (by omega)).mono ?_; rintro e w' ⟨rfl, rfl⟩)
          go_ret2
          exact ⟨ret2 F.out, rfl⟩
        · have F : Hid (Wd.lo (raw l a (lsz op)) = wide op (raw l a (lsz op))) := wide_pos c11.out c12.out (fun _ => hge) rb.1 rb.2 pb.2
          go_wp2_with (go_at_call 47; refine (Rw.Of_any _ _ (by omega) (by omega)).mono ?_; rintro e w' ⟨rfl, rfl⟩)
          go_ret2
          exact ⟨ret2 F.out, rfl⟩
      · have F : Hid (Wd.lo (raw l a (lsz op)) = wide op (raw l a (lsz op))) := wide_pos c11.out c12.out (fun h => absurd h (by omega)) rb.1 rb.2 pb.2
        have b1 := beq_f e1
        have b2 := beq_f e2
        clear e1 e2
        go_wp2_with (go_at_call 47; refine (Rw.Of_any _ _ (by omega) (by omega)).mono ?_; rintro e w' ⟨rfl, rfl⟩)
        go_ret2
        exact ⟨ret2 F.out, rfl⟩
/-- Load, of every memory, op and place. -/
theorem Load_any (cap : Nat) (op a : Int) (M : Mem w ao n l) (hn : n ≤ 140737488351232) (h0 : 0 ≤ a) (h1 : a < 4294967296) :
    Calls Try.prog 44 #[.slice ao n cap, .int .i64 op, .int .u32 a] w fun e w' => e = .returned (.tuple #[.int .u32 (ldV l op a), .bool (ldOk l op a)]) ∧ w' = w := by
  have hl := M.len
  cases hok : thr n (lsz op) a with
  | false =>
    have e1 : ldOk l op a = false := by unfold ldOk; rw [hl]; exact hok
    have e2 : ldV l op a = 0 := by unfold ldV; rw [e1]; rfl
    rw [e1, e2]
    exact Load_no ao n cap op a w hn h0 h1 hok
  | true =>
    have e1 : ldOk l op a = true := by unfold ldOk; rw [hl]; exact hok
    have e2 : ldV l op a = wide op (raw l a.toNat (lsz op)) := by unfold ldV; rw [e1]; rfl
    rw [e1, e2]
    obtain ⟨b, o, rfl, _, hc⟩ := M.spot (thr_pos hok h0)
    obtain ⟨a, rfl⟩ := Int.eq_ofNat_of_zero_le h0
    exact Load_yes b o n cap l op a w hn hl (by omega) hc hok

theorem Store_no (ao : Option Addr) (n cap : Nat) (op a x : Int) (w : World) (hn : n ≤ 140737488351232) (h0 : 0 ≤ a) (h1 : a < 4294967296) (hok : thr n (ssz op) a = false) :
    Calls Try.prog 63 #[.slice ao n cap, .int .i64 op, .int .u32 a, .int .u32 x] w fun e w' => e = .returned (.tuple #[.slice none 0 0, .bool false]) ∧ w' = w := by
  have hs := ssz_le op
  go_enter Try.func63, Try.ntmps63
  go_wp2_with (first | (go_at_call 57; refine (Size_store _ _).mono ?_; rintro e w' ⟨rfl, rfl⟩) | (go_at_call 58; refine (there_any _ _ _ _ _ _ hn hs (by omega) (by omega)).mono ?_; rintro e w' ⟨rfl, rfl⟩))
  go_ret2
  exact ⟨rfl, rfl⟩
theorem own_shape {base : Nat} {v : Value} (h : w.ownsRow base 5 1 v (0 + n) ([] ++ bc l)) (hv : ¬ v = .slice none 0 0) :
    ∃ g cap, v = .slice (some ⟨g, 0, none⟩) n cap ∧ Row w g l ∧ base ≤ g ∧ n ≤ cap := by
  obtain ⟨hlen, hc⟩ := h
  rcases hc with ⟨h0, _⟩ | ⟨g', cap', cur, rfl, hb, hg, hn, hm, hs, htake⟩
  · exact absurd h0 hv
  · refine ⟨g', cap', by simp, ⟨cur.toList.drop ((0 + n) * 1), ?_⟩, hb, by omega⟩
    have : bc l = cur.toList.take ((0 + n) * 1) := by rw [htake]; rfl
    rw [this, List.take_append_drop]
    simpa using hg
def q8 (x : Int) (k : Nat) : Int := x / 256 ^ k
theorem q8_succ (x : Int) (k : Nat) : q8 x (k + 1) = q8 x k / 256 := by
  unfold q8
  rw [Int.pow_succ, Int.ediv_ediv_of_nonneg (by exact Int.pow_nonneg (by omega))]
theorem q8_bd (h0 : 0 ≤ x) (h1 : x < 4294967296) (k : Nat) : 0 ≤ q8 x k ∧ q8 x k < 4294967296 := by
  unfold q8
  exact ⟨Int.ediv_nonneg h0 (Int.pow_nonneg (by omega)), Int.lt_of_le_of_lt (Int.ediv_le_self _ h0) h1⟩
theorem Store_yes (b o n cap : Nat) (l : List UInt8) (op x : Int) (a : Nat) (w : World) (hn : n ≤ 140737488351232) (hl : l.length = n) (ha : a < 4294967296) (hb : b < w.heap.size) (hx0 : 0 ≤ x) (hx1 : x < 4294967296)
    (hc : ∀ t, t < n → w.cell? ⟨b, o + t, none⟩ = some (.int .u8 (bv l t))) (hok : thr n (ssz op) (a : Int) = true) :
    Calls Try.prog 63 #[.slice (some ⟨b, o, none⟩) n cap, .int .i64 op, .int .u32 a, .int .u32 x] w fun e w' => ∃ g cap', e = .returned (.tuple #[.slice (some ⟨g, 0, none⟩) n cap', .bool true]) ∧ Row w' g (put l a x (ssz op)) ∧ Gr w w' ∧ w.heap.size ≤ g ∧ n ≤ cap' := by
  have hs := ssz_le op
  have hk := hok
  simp only [thr, decide_eq_true_eq] at hk
  obtain ⟨k0, k1, k2⟩ := hk
  have hroom := ssz_room k1 ha k0
  obtain ⟨i0, hi, hz0, hz1, hz2⟩ := info_parts info5
  have HC : Hid _ := hc
  clear hc
  go_enter Try.func63, Try.ntmps63
  go_wp2_with (first
    | (go_at_call 57; refine (Size_store _ _).mono ?_; rintro e w' ⟨rfl, rfl⟩)
    | (go_at_call 58; refine (there_any _ _ _ _ _ _ hn hs (by omega) (by omega)).mono ?_; rintro e w' ⟨rfl, rfl⟩)
    | (at_builtin; refine wpList_append_own _ rfl (.tmp 21) (.tmp 22) 22 rfl _ 5 i0 (.int .u8 0) 1 1 Try.underlying22 hi hz0 hz1 hz2 rfl (by decide) _ 0 [] rfl (World.ownsRow_made _ #[] 0 (Nat.le_refl _) (by unfold maxLen; omega) rfl) _ n _ (bc l) rfl (by rw [bc_len, hl]; simp) (bc_src hl (fun t ht => (Gr.cell ((Gr.refl _).alloc _) _ (by exact hb)).trans (HC.out t ht))) (bc_one l) (by unfold maxLen; omega) (by omega) (by simp) ?_; intro v' w1 hown1 hgrow1 hnil; obtain ⟨g, cap', rfl, R0, hgb, hroo⟩ := own_shape hown1 (fun h => by have h2 := (hnil.1 h).1; cases h2); have B0 := Gr.grown ((Gr.refl _).alloc _) hgrow1 (fun k hk => by cases hk; exact Nat.le_refl _); clear hown1 hgrow1 hnil))
  clear HC hi hz0 hz1 hz2
  have hq0 : q8 x 0 = x := by unfold q8; simp
  have HQ : Hid _ := hq0
  clear hq0
  go_loopw [12, 13] (fun y i wr => ∃ k : Nat, k ≤ ssz op ∧ i = .int .i64 k ∧ y = .int .i64 (q8 x k) ∧ Row wr g (put l a x k) ∧ Gr w' wr) (fun _ i _ => ssz op - (intOf i).toNat)
  case atStart => exact ⟨0, Nat.zero_le _, rfl, by rw [HQ.out], R0, B0⟩
  case round =>
    obtain ⟨k, hk, rfl, rfl, R, G⟩ := hrel
    have qb := q8_bd hx0 hx1 k
    by_cases hlt : k < ssz op
    · have hp := len_put l a x k
      have hck := R.cell (t := a + k) (by omega)
      have hfk := R.frozen (a + k)
      have HS : Hid (Row (wr.setCell ⟨g, a + k, none⟩ (.int .u8 (q8 x k % 256))) g (put l a x (k + 1))) := R.set (t := a + k) (by omega) (q8 x k % 256) (by omega) (by omega)
      have HG : Hid _ := G
      have HN : Hid (q8 x (k + 1) = q8 x k / 256) := q8_succ x k
      clear R G R0 B0 hp
      go_wp2
      go_roundw
      case rel => exact ⟨k + 1, by omega, by go_num, by rw [HN.out], HS.out, HG.out.setCell hgb _⟩
      case measure => simp [intOf]; omega
    · obtain rfl : k = ssz op := by omega
      have HR : Hid _ := R
      have HG : Hid _ := G
      clear R G R0 B0
      go_wp2
      go_ret2
      exact ⟨g, cap', rfl, HR.out, HG.out, hgb, hroo⟩
/-- Store, of every memory, op, place and word. -/
theorem Store_new (cap : Nat) (op a x : Int) (M : Mem w ao n l) (hn : n ≤ 140737488351232) (h0 : 0 ≤ a) (h1 : a < 4294967296) (hx0 : 0 ≤ x) (hx1 : x < 4294967296) :
    Calls Try.prog 63 #[.slice ao n cap, .int .i64 op, .int .u32 a, .int .u32 x] w fun e w' =>
      ∃ ao' n' cap', e = .returned (.tuple #[.slice ao' n' cap', .bool (stOk l op a)]) ∧ Mem w' ao' n' (stL l op a x) ∧ Gr w w' ∧ ∀ ad, ao' = some ad → w.heap.size ≤ ad.block ∧ n' ≤ cap' := by
  have hl := M.len
  cases hok : thr n (ssz op) a with
  | false =>
    have e1 : stOk l op a = false := by unfold stOk; rw [hl]; exact hok
    have e2 : stL l op a x = [] := by unfold stL; rw [e1]; rfl
    rw [e1, e2]
    refine (Store_no ao n cap op a x w hn h0 h1 hok).mono ?_
    rintro e w' ⟨rfl, rfl⟩
    exact ⟨none, 0, 0, rfl, Mem.none _, Gr.refl _, fun ad h => by cases h⟩
  | true =>
    have e1 : stOk l op a = true := by unfold stOk; rw [hl]; exact hok
    have e2 : stL l op a x = put l a.toNat x (ssz op) := by unfold stL; rw [e1]; rfl
    rw [e1, e2]
    obtain ⟨b, o, rfl, hb, hc⟩ := M.spot (thr_pos hok h0)
    obtain ⟨a, rfl⟩ := Int.eq_ofNat_of_zero_le h0
    refine (Store_yes b o n cap l op x a w hn hl (by omega) hb hx0 hx1 hc hok).mono ?_
    rintro e w' ⟨g, cap', rfl, R, G, hg⟩
    refine ⟨_, _, _, rfl, ?_, G, fun ad h => by cases h; exact hg⟩
    have := R.mem
    rwa [len_put, hl] at this

/-- Store, of every memory, op, place and word. -/
theorem Store_any (cap : Nat) (op a x : Int) (M : Mem w ao n l) (hn : n ≤ 140737488351232) (h0 : 0 ≤ a) (h1 : a < 4294967296) (hx0 : 0 ≤ x) (hx1 : x < 4294967296) :
    Calls Try.prog 63 #[.slice ao n cap, .int .i64 op, .int .u32 a, .int .u32 x] w fun e w' =>
      ∃ ao' n' cap', e = .returned (.tuple #[.slice ao' n' cap', .bool (stOk l op a)]) ∧ Mem w' ao' n' (stL l op a x) ∧ Gr w w' := by
  refine (Store_new cap op a x M hn h0 h1 hx0 hx1).mono ?_
  rintro e w' ⟨a1, n1, c1, rfl, M1, G1, _⟩
  exact ⟨a1, n1, c1, rfl, M1, G1⟩

/-- The string of the bytes l. -/
def sof (l : List UInt8) : ByteArray := ⟨l.toArray⟩
theorem sof_eq (a b : List UInt8) : ((sof a).toList == (sof b).toList) = decide (a = b) := by
  rw [ByteArray.toList_eq, ByteArray.toList_eq]
  show (a == b) = _
  exact (Bool.eq_iff_iff.2 (by simp))
theorem conv_any (cap : Nat) (M : Mem w ao n l) : (convert 22 9 (.slice ao n cap)).run Try.prog w = .ok (.string (sof l)) w := by
  have hl := M.len
  cases ao with
  | none =>
    have h0 := M.nil rfl
    subst h0
    obtain rfl : l = [] := List.length_eq_zero_iff.1 hl
    rw [run_convert_bytes_string w 22 9 5 none 0 cap Try.underlying22 Try.underlying5 Try.underlying9]
    rfl
  | some ad =>
    subst hl
    exact run_convert_bytes_back w 22 9 5 ad cap l Try.underlying22 Try.underlying5 Try.underlying9 (fun j hj => by rw [M.cell ad rfl j hj, bv_of hj])
theorem Bytes_any {bo : Option Addr} {m : Nat} (ca cb : Nat) {k : List UInt8} (A : Mem w ao n l) (B : Mem w bo m k) :
    Calls Try.prog 16 #[.slice ao n ca, .slice bo m cb] w fun e w' => e = .returned (.bool (decide (l = k))) ∧ w' = w := by
  have hA := conv_any ca A
  have hB := conv_any cb B
  have HE : Hid (((sof l).toList == (sof k).toList) = decide (l = k)) := sof_eq l k
  clear A B
  go_enter Try.func16, Try.ntmps16
  go_wp2
  go_ret
  exact ⟨ret_bool HE.out, rfl⟩
end Go.Proofs.Ythgnfmbnbndeeac.Mr
