/-
  WordWalks, Hm1, Hk: texts of ours that lie in one file.
-/
import Derived.Test.YtjooaobmbndkfaaDoorRows
import Derived.Test.YtjooaobmbndkfaaDoorK01
import Derived.WalkKit
import Derived.ProofKit
import Derived.OpenShut
import Derived.Test.YtjooaobmbndkfaaDoorK04
import Derived.Great.BuildSlice
/-
  What the functions of package word return, each for every two words: word.Alu returns 'Wd.alu', word.Holds 'Wd.holds', word.Amo 'Wd.amo', and nothing in memory turns. Conditions: the words are from 0 to 2^32 - 1.
-/
namespace Go.Proofs.YtjooaobmbndkfaaDoor.Ww
open Go.ChangeShapes Go.WideShapes Go.ChangeAt Go.RowKit
set_option linter.unusedVariables false

theorem ret_int {k : IntKind} {a b : Int} (h : a = b) : Ending.returned (.int k a) = .returned (.int k b) := by rw [h]
theorem ret_bool {a b : Bool} (h : a = b) : Ending.returned (.bool a) = .returned (.bool b) := by rw [h]
theorem wrap_u32' (n : Int) : IntKind.u32.wrap n = n % 4294967296 := by rfl
theorem ofInt32 (a : Nat) (ha : (a : Int) < 4294967296) : (BitVec.ofInt 32 (a : Int)).toNat = a := by
  rw [BitVec.ofInt_natCast, BitVec.toNat_ofNat]; exact Nat.mod_eq_of_lt (by omega)
theorem bits_and_u32 (a b : Int) (ha : 0 ≤ a) (ha' : a < 4294967296) (hb : 0 ≤ b) (hb' : b < 4294967296) : bits .and .u32 a b = Wd.band a b := by
  obtain ⟨a, rfl⟩ := Int.eq_ofNat_of_zero_le ha
  obtain ⟨b, rfl⟩ := Int.eq_ofNat_of_zero_le hb
  have hx : a &&& b < 2 ^ 32 := Nat.and_lt_two_pow _ (by omega)
  show IntKind.u32.wrap ((BitVec.ofInt 32 (a : Int) &&& BitVec.ofInt 32 (b : Int)).toNat : Int) = _
  rw [BitVec.toNat_and, ofInt32 a ha', ofInt32 b hb', wrap_u32']
  simp only [Wd.band, Int.toNat_natCast]
  omega
theorem bits_or_u32 (a b : Int) (ha : 0 ≤ a) (ha' : a < 4294967296) (hb : 0 ≤ b) (hb' : b < 4294967296) : bits .or .u32 a b = Wd.bor a b := by
  obtain ⟨a, rfl⟩ := Int.eq_ofNat_of_zero_le ha
  obtain ⟨b, rfl⟩ := Int.eq_ofNat_of_zero_le hb
  have hx : a ||| b < 2 ^ 32 := Nat.or_lt_two_pow (by omega) (by omega)
  show IntKind.u32.wrap ((BitVec.ofInt 32 (a : Int) ||| BitVec.ofInt 32 (b : Int)).toNat : Int) = _
  rw [BitVec.toNat_or, ofInt32 a ha', ofInt32 b hb', wrap_u32']
  simp only [Wd.bor, Int.toNat_natCast]
  omega
theorem bits_xor_u32 (a b : Int) (ha : 0 ≤ a) (ha' : a < 4294967296) (hb : 0 ≤ b) (hb' : b < 4294967296) : bits .xor .u32 a b = Wd.bxor a b := by
  obtain ⟨a, rfl⟩ := Int.eq_ofNat_of_zero_le ha
  obtain ⟨b, rfl⟩ := Int.eq_ofNat_of_zero_le hb
  have hx : a ^^^ b < 2 ^ 32 := Nat.xor_lt_two_pow (by omega) (by omega)
  show IntKind.u32.wrap ((BitVec.ofInt 32 (a : Int) ^^^ BitVec.ofInt 32 (b : Int)).toNat : Int) = _
  rw [BitVec.toNat_xor, ofInt32 a ha', ofInt32 b hb', wrap_u32']
  simp only [Wd.bxor, Int.toNat_natCast]
  omega
theorem wrap32_sg (a : Int) (ha : 0 ≤ a) (ha' : a < 4294967296) : wrap32 a = Wd.sg a := by
  unfold wrap32 Wd.sg; split <;> omega
theorem wrap32_lo (n : Int) : wrap32 n % 4294967296 = Wd.lo n := by
  unfold wrap32 Wd.lo; omega
theorem band_31 (a : Int) (ha : 0 ≤ a) : Wd.band a 31 = a % 32 := by
  unfold Wd.band
  have h : a.toNat &&& (31 : Int).toNat = a.toNat % 32 := Nat.and_two_pow_sub_one_eq_mod a.toNat 5
  rw [h]; omega
theorem upper_hi (a : Int) : IntKind.u64.wrap a / 4294967296 % 4294967296 = Wd.hi a := by
  rw [IntKind.wrap_u64]; unfold Wd.hi; omega

theorem signed_any (a : Int) (w : World) (ha : 0 ≤ a) (ha' : a < 4294967296) :
    Calls Tryd.prog 87 #[.int .u32 a] w fun e w' => e = .returned (.int .i32 (Wd.sg a)) ∧ w' = w := by
  go_enter Tryd.func87, Tryd.ntmps87
  go_wp2
  go_ret
  exact ⟨ret_int (wrap32_sg a ha ha'), rfl⟩
theorem places_any (a : Int) (w : World) (ha : 0 ≤ a) (ha' : a < 4294967296) :
    Calls Tryd.prog 89 #[.int .u32 a] w fun e w' => e = .returned (.int .u32 (a % 32)) ∧ w' = w := by
  go_enter Tryd.func89, Tryd.ntmps89
  go_wp2
  go_ret
  exact ⟨ret_int ((bits_and_u32 a 31 ha ha' (by omega) (by omega)).trans (band_31 a ha)), rfl⟩
theorem truth_any (b : Bool) (w : World) :
    Calls Tryd.prog 90 #[.bool b] w fun e w' => e = .returned (.int .u32 (Wd.tr b)) ∧ w' = w := by
  cases b
  all_goals
    go_enter Tryd.func90, Tryd.ntmps90
    go_wp2
    go_ret
    exact ⟨rfl, rfl⟩
theorem upper_any (a : Int) (w : World) (ha : -9223372036854775808 ≤ a) (ha' : a ≤ 9223372036854775807) :
    Calls Tryd.prog 91 #[.int .i64 a] w fun e w' => e = .returned (.int .u32 (Wd.hi a)) ∧ w' = w := by
  go_enter Tryd.func91, Tryd.ntmps91
  go_wp2
  go_ret
  exact ⟨ret_int (upper_hi a), rfl⟩

theorem quotient_any (a b : Int) (w : World) (ha : 0 ≤ a) (ha' : a < 4294967296) (hb : 0 ≤ b) (hb' : b < 4294967296) :
    Calls Tryd.prog 92 #[.int .u32 a, .int .u32 b] w fun e w' => e = .returned (.int .u32 (Wd.dv a b)) ∧ w' = w := by
  by_cases h0 : b = 0
  · subst h0
    go_enter Tryd.func92, Tryd.ntmps92
    go_wp2
    go_ret
    exact ⟨rfl, rfl⟩
  · have hz : ¬ Wd.sg b = 0 := fun h => h0 ((Wd.sg_zero hb hb').1 h)
    have hb0 : (b == 0) = false := by simpa using h0
    have sa := Wd.sg_bd ha ha'
    have sb := Wd.sg_bd hb hb'
    have H : Hid (Wd.dv a b = Wd.lo ((Wd.sg a).tdiv (Wd.sg b))) := (by unfold Wd.dv; rw [if_neg h0] : _ = _)
    go_enter Tryd.func92, Tryd.ntmps92
    go_wp2_with (go_at_call 87; refine (signed_any _ _ (by omega) (by omega)).mono ?_; rintro e w' ⟨rfl, rfl⟩)
    go_ret
    exact ⟨ret_int ((wrap32_lo _).trans H.out.symm), rfl⟩

theorem remainder_any (a b : Int) (w : World) (ha : 0 ≤ a) (ha' : a < 4294967296) (hb : 0 ≤ b) (hb' : b < 4294967296) :
    Calls Tryd.prog 93 #[.int .u32 a, .int .u32 b] w fun e w' => e = .returned (.int .u32 (Wd.rm a b)) ∧ w' = w := by
  by_cases h0 : b = 0
  · subst h0
    go_enter Tryd.func93, Tryd.ntmps93
    go_wp2
    go_ret
    exact ⟨rfl, rfl⟩
  · have hz : ¬ Wd.sg b = 0 := fun h => h0 ((Wd.sg_zero hb hb').1 h)
    have hb0 : (b == 0) = false := by simpa using h0
    have sa := Wd.sg_bd ha ha'
    have sb := Wd.sg_bd hb hb'
    have H : Hid (Wd.rm a b = Wd.lo ((Wd.sg a).tmod (Wd.sg b))) := (by unfold Wd.rm; rw [if_neg h0] : _ = _)
    go_enter Tryd.func93, Tryd.ntmps93
    go_wp2_with (go_at_call 87; refine (signed_any _ _ (by omega) (by omega)).mono ?_; rintro e w' ⟨rfl, rfl⟩)
    go_ret
    exact ⟨ret_int (H.out.symm), rfl⟩

theorem plainQuotient_any (a b : Int) (w : World) (ha : 0 ≤ a) (ha' : a < 4294967296) (hb : 0 ≤ b) (hb' : b < 4294967296) :
    Calls Tryd.prog 94 #[.int .u32 a, .int .u32 b] w fun e w' => e = .returned (.int .u32 (Wd.dvu a b)) ∧ w' = w := by
  by_cases h0 : b = 0
  · subst h0
    go_enter Tryd.func94, Tryd.ntmps94
    go_wp2
    go_ret
    exact ⟨rfl, rfl⟩
  · have hb0 : (b == 0) = false := by simpa using h0
    have H : Hid (Wd.dvu a b = a / b) := (by unfold Wd.dvu; rw [if_neg h0] : _ = _)
    go_enter Tryd.func94, Tryd.ntmps94
    go_wp2
    go_ret
    exact ⟨ret_int H.out.symm, rfl⟩

theorem plainRemainder_any (a b : Int) (w : World) (ha : 0 ≤ a) (ha' : a < 4294967296) (hb : 0 ≤ b) (hb' : b < 4294967296) :
    Calls Tryd.prog 95 #[.int .u32 a, .int .u32 b] w fun e w' => e = .returned (.int .u32 (Wd.rmu a b)) ∧ w' = w := by
  by_cases h0 : b = 0
  · subst h0
    go_enter Tryd.func95, Tryd.ntmps95
    go_wp2
    go_ret
    exact ⟨rfl, rfl⟩
  · have hb0 : (b == 0) = false := by simpa using h0
    have H : Hid (Wd.rmu a b = a % b) := (by unfold Wd.rmu; rw [if_neg h0] : _ = _)
    go_enter Tryd.func95, Tryd.ntmps95
    go_wp2
    go_ret
    exact ⟨ret_int H.out.symm, rfl⟩

theorem alu_28 (a b : Int) (w : World) (ha : 0 ≤ a) (ha' : a < 4294967296) (hb : 0 ≤ b) (hb' : b < 4294967296) :
    Calls Tryd.prog 84 #[.int .i64 28, .int .u32 a, .int .u32 b] w fun e w' => e = .returned (.int .u32 (Wd.alu 28 a b)) ∧ w' = w := by
  go_enter Tryd.func84, Tryd.ntmps84
  go_wp2
  go_ret
  exact ⟨ret_int (rfl), rfl⟩

theorem alu_29 (a b : Int) (w : World) (ha : 0 ≤ a) (ha' : a < 4294967296) (hb : 0 ≤ b) (hb' : b < 4294967296) :
    Calls Tryd.prog 84 #[.int .i64 29, .int .u32 a, .int .u32 b] w fun e w' => e = .returned (.int .u32 (Wd.alu 29 a b)) ∧ w' = w := by
  go_enter Tryd.func84, Tryd.ntmps84
  go_wp2
  go_ret
  exact ⟨ret_int (rfl), rfl⟩

theorem alu_37 (a b : Int) (w : World) (ha : 0 ≤ a) (ha' : a < 4294967296) (hb : 0 ≤ b) (hb' : b < 4294967296) :
    Calls Tryd.prog 84 #[.int .i64 37, .int .u32 a, .int .u32 b] w fun e w' => e = .returned (.int .u32 (Wd.alu 37 a b)) ∧ w' = w := by
  go_enter Tryd.func84, Tryd.ntmps84
  go_wp2
  go_ret
  exact ⟨ret_int (bits_and_u32 a b ha ha' hb hb'), rfl⟩

theorem alu_36 (a b : Int) (w : World) (ha : 0 ≤ a) (ha' : a < 4294967296) (hb : 0 ≤ b) (hb' : b < 4294967296) :
    Calls Tryd.prog 84 #[.int .i64 36, .int .u32 a, .int .u32 b] w fun e w' => e = .returned (.int .u32 (Wd.alu 36 a b)) ∧ w' = w := by
  go_enter Tryd.func84, Tryd.ntmps84
  go_wp2
  go_ret
  exact ⟨ret_int (bits_or_u32 a b ha ha' hb hb'), rfl⟩

theorem alu_33 (a b : Int) (w : World) (ha : 0 ≤ a) (ha' : a < 4294967296) (hb : 0 ≤ b) (hb' : b < 4294967296) :
    Calls Tryd.prog 84 #[.int .i64 33, .int .u32 a, .int .u32 b] w fun e w' => e = .returned (.int .u32 (Wd.alu 33 a b)) ∧ w' = w := by
  go_enter Tryd.func84, Tryd.ntmps84
  go_wp2
  go_ret
  exact ⟨ret_int (bits_xor_u32 a b ha ha' hb hb'), rfl⟩

theorem alu_30 (a b : Int) (w : World) (ha : 0 ≤ a) (ha' : a < 4294967296) (hb : 0 ≤ b) (hb' : b < 4294967296) :
    Calls Tryd.prog 84 #[.int .i64 30, .int .u32 a, .int .u32 b] w fun e w' => e = .returned (.int .u32 (Wd.alu 30 a b)) ∧ w' = w := by
  go_enter Tryd.func84, Tryd.ntmps84
  go_wp2_with (first | (go_at_call 87; refine (signed_any _ _ (by omega) (by omega)).mono ?_; rintro e w' ⟨rfl, rfl⟩) | (go_at_call 89; refine (places_any _ _ (by omega) (by omega)).mono ?_; rintro e w' ⟨rfl, rfl⟩) | (go_at_call 90; refine (truth_any _ _).mono ?_; rintro e w' ⟨rfl, rfl⟩) | (go_at_call 92; refine (quotient_any _ _ _ (by omega) (by omega) (by omega) (by omega)).mono ?_; rintro e w' ⟨rfl, rfl⟩) | (go_at_call 93; refine (remainder_any _ _ _ (by omega) (by omega) (by omega) (by omega)).mono ?_; rintro e w' ⟨rfl, rfl⟩) | (go_at_call 94; refine (plainQuotient_any _ _ _ (by omega) (by omega) (by omega) (by omega)).mono ?_; rintro e w' ⟨rfl, rfl⟩) | (go_at_call 95; refine (plainRemainder_any _ _ _ (by omega) (by omega) (by omega) (by omega)).mono ?_; rintro e w' ⟨rfl, rfl⟩) | (go_at_call 91; refine (upper_any _ _ (by omega) (by omega)).mono ?_; rintro e w' ⟨rfl, rfl⟩))
  go_ret
  exact ⟨ret_int (rfl), rfl⟩

theorem alu_34 (a b : Int) (w : World) (ha : 0 ≤ a) (ha' : a < 4294967296) (hb : 0 ≤ b) (hb' : b < 4294967296) :
    Calls Tryd.prog 84 #[.int .i64 34, .int .u32 a, .int .u32 b] w fun e w' => e = .returned (.int .u32 (Wd.alu 34 a b)) ∧ w' = w := by
  go_enter Tryd.func84, Tryd.ntmps84
  go_wp2_with (first | (go_at_call 87; refine (signed_any _ _ (by omega) (by omega)).mono ?_; rintro e w' ⟨rfl, rfl⟩) | (go_at_call 89; refine (places_any _ _ (by omega) (by omega)).mono ?_; rintro e w' ⟨rfl, rfl⟩) | (go_at_call 90; refine (truth_any _ _).mono ?_; rintro e w' ⟨rfl, rfl⟩) | (go_at_call 92; refine (quotient_any _ _ _ (by omega) (by omega) (by omega) (by omega)).mono ?_; rintro e w' ⟨rfl, rfl⟩) | (go_at_call 93; refine (remainder_any _ _ _ (by omega) (by omega) (by omega) (by omega)).mono ?_; rintro e w' ⟨rfl, rfl⟩) | (go_at_call 94; refine (plainQuotient_any _ _ _ (by omega) (by omega) (by omega) (by omega)).mono ?_; rintro e w' ⟨rfl, rfl⟩) | (go_at_call 95; refine (plainRemainder_any _ _ _ (by omega) (by omega) (by omega) (by omega)).mono ?_; rintro e w' ⟨rfl, rfl⟩) | (go_at_call 91; refine (upper_any _ _ (by omega) (by omega)).mono ?_; rintro e w' ⟨rfl, rfl⟩))
  go_ret
  exact ⟨ret_int (rfl), rfl⟩

theorem alu_35 (a b : Int) (w : World) (ha : 0 ≤ a) (ha' : a < 4294967296) (hb : 0 ≤ b) (hb' : b < 4294967296) :
    Calls Tryd.prog 84 #[.int .i64 35, .int .u32 a, .int .u32 b] w fun e w' => e = .returned (.int .u32 (Wd.alu 35 a b)) ∧ w' = w := by
  go_enter Tryd.func84, Tryd.ntmps84
  go_wp2_with (first | (go_at_call 87; refine (signed_any _ _ (by omega) (by omega)).mono ?_; rintro e w' ⟨rfl, rfl⟩) | (go_at_call 89; refine (places_any _ _ (by omega) (by omega)).mono ?_; rintro e w' ⟨rfl, rfl⟩) | (go_at_call 90; refine (truth_any _ _).mono ?_; rintro e w' ⟨rfl, rfl⟩) | (go_at_call 92; refine (quotient_any _ _ _ (by omega) (by omega) (by omega) (by omega)).mono ?_; rintro e w' ⟨rfl, rfl⟩) | (go_at_call 93; refine (remainder_any _ _ _ (by omega) (by omega) (by omega) (by omega)).mono ?_; rintro e w' ⟨rfl, rfl⟩) | (go_at_call 94; refine (plainQuotient_any _ _ _ (by omega) (by omega) (by omega) (by omega)).mono ?_; rintro e w' ⟨rfl, rfl⟩) | (go_at_call 95; refine (plainRemainder_any _ _ _ (by omega) (by omega) (by omega) (by omega)).mono ?_; rintro e w' ⟨rfl, rfl⟩) | (go_at_call 91; refine (upper_any _ _ (by omega) (by omega)).mono ?_; rintro e w' ⟨rfl, rfl⟩))
  go_ret
  exact ⟨ret_int (rfl), rfl⟩

theorem alu_31 (a b : Int) (w : World) (ha : 0 ≤ a) (ha' : a < 4294967296) (hb : 0 ≤ b) (hb' : b < 4294967296) :
    Calls Tryd.prog 84 #[.int .i64 31, .int .u32 a, .int .u32 b] w fun e w' => e = .returned (.int .u32 (Wd.alu 31 a b)) ∧ w' = w := by
  go_enter Tryd.func84, Tryd.ntmps84
  go_wp2_with (first | (go_at_call 87; refine (signed_any _ _ (by omega) (by omega)).mono ?_; rintro e w' ⟨rfl, rfl⟩) | (go_at_call 89; refine (places_any _ _ (by omega) (by omega)).mono ?_; rintro e w' ⟨rfl, rfl⟩) | (go_at_call 90; refine (truth_any _ _).mono ?_; rintro e w' ⟨rfl, rfl⟩) | (go_at_call 92; refine (quotient_any _ _ _ (by omega) (by omega) (by omega) (by omega)).mono ?_; rintro e w' ⟨rfl, rfl⟩) | (go_at_call 93; refine (remainder_any _ _ _ (by omega) (by omega) (by omega) (by omega)).mono ?_; rintro e w' ⟨rfl, rfl⟩) | (go_at_call 94; refine (plainQuotient_any _ _ _ (by omega) (by omega) (by omega) (by omega)).mono ?_; rintro e w' ⟨rfl, rfl⟩) | (go_at_call 95; refine (plainRemainder_any _ _ _ (by omega) (by omega) (by omega) (by omega)).mono ?_; rintro e w' ⟨rfl, rfl⟩) | (go_at_call 91; refine (upper_any _ _ (by omega) (by omega)).mono ?_; rintro e w' ⟨rfl, rfl⟩))
  go_ret
  exact ⟨ret_int (rfl), rfl⟩

theorem alu_32 (a b : Int) (w : World) (ha : 0 ≤ a) (ha' : a < 4294967296) (hb : 0 ≤ b) (hb' : b < 4294967296) :
    Calls Tryd.prog 84 #[.int .i64 32, .int .u32 a, .int .u32 b] w fun e w' => e = .returned (.int .u32 (Wd.alu 32 a b)) ∧ w' = w := by
  go_enter Tryd.func84, Tryd.ntmps84
  go_wp2_with (first | (go_at_call 87; refine (signed_any _ _ (by omega) (by omega)).mono ?_; rintro e w' ⟨rfl, rfl⟩) | (go_at_call 89; refine (places_any _ _ (by omega) (by omega)).mono ?_; rintro e w' ⟨rfl, rfl⟩) | (go_at_call 90; refine (truth_any _ _).mono ?_; rintro e w' ⟨rfl, rfl⟩) | (go_at_call 92; refine (quotient_any _ _ _ (by omega) (by omega) (by omega) (by omega)).mono ?_; rintro e w' ⟨rfl, rfl⟩) | (go_at_call 93; refine (remainder_any _ _ _ (by omega) (by omega) (by omega) (by omega)).mono ?_; rintro e w' ⟨rfl, rfl⟩) | (go_at_call 94; refine (plainQuotient_any _ _ _ (by omega) (by omega) (by omega) (by omega)).mono ?_; rintro e w' ⟨rfl, rfl⟩) | (go_at_call 95; refine (plainRemainder_any _ _ _ (by omega) (by omega) (by omega) (by omega)).mono ?_; rintro e w' ⟨rfl, rfl⟩) | (go_at_call 91; refine (upper_any _ _ (by omega) (by omega)).mono ?_; rintro e w' ⟨rfl, rfl⟩))
  go_ret
  exact ⟨ret_int (rfl), rfl⟩

theorem alu_38 (a b : Int) (w : World) (ha : 0 ≤ a) (ha' : a < 4294967296) (hb : 0 ≤ b) (hb' : b < 4294967296) :
    Calls Tryd.prog 84 #[.int .i64 38, .int .u32 a, .int .u32 b] w fun e w' => e = .returned (.int .u32 (Wd.alu 38 a b)) ∧ w' = w := by
  go_enter Tryd.func84, Tryd.ntmps84
  go_wp2
  go_ret
  exact ⟨ret_int (rfl), rfl⟩

theorem alu_39 (a b : Int) (w : World) (ha : 0 ≤ a) (ha' : a < 4294967296) (hb : 0 ≤ b) (hb' : b < 4294967296) :
    Calls Tryd.prog 84 #[.int .i64 39, .int .u32 a, .int .u32 b] w fun e w' => e = .returned (.int .u32 (Wd.alu 39 a b)) ∧ w' = w := by
  have sa := Wd.sg_bd ha ha'
  have sb := Wd.sg_bd hb hb'
  have mb := Wd.mul_bd (x := Wd.sg a) (y := Wd.sg b) (by omega) (by omega) (by omega) (by omega)
  go_enter Tryd.func84, Tryd.ntmps84
  go_wp2_with (first | (go_at_call 87; refine (signed_any _ _ (by omega) (by omega)).mono ?_; rintro e w' ⟨rfl, rfl⟩) | (go_at_call 89; refine (places_any _ _ (by omega) (by omega)).mono ?_; rintro e w' ⟨rfl, rfl⟩) | (go_at_call 90; refine (truth_any _ _).mono ?_; rintro e w' ⟨rfl, rfl⟩) | (go_at_call 92; refine (quotient_any _ _ _ (by omega) (by omega) (by omega) (by omega)).mono ?_; rintro e w' ⟨rfl, rfl⟩) | (go_at_call 93; refine (remainder_any _ _ _ (by omega) (by omega) (by omega) (by omega)).mono ?_; rintro e w' ⟨rfl, rfl⟩) | (go_at_call 94; refine (plainQuotient_any _ _ _ (by omega) (by omega) (by omega) (by omega)).mono ?_; rintro e w' ⟨rfl, rfl⟩) | (go_at_call 95; refine (plainRemainder_any _ _ _ (by omega) (by omega) (by omega) (by omega)).mono ?_; rintro e w' ⟨rfl, rfl⟩) | (go_at_call 91; refine (upper_any _ _ (by omega) (by omega)).mono ?_; rintro e w' ⟨rfl, rfl⟩))
  go_ret
  exact ⟨ret_int (rfl), rfl⟩

theorem alu_40 (a b : Int) (w : World) (ha : 0 ≤ a) (ha' : a < 4294967296) (hb : 0 ≤ b) (hb' : b < 4294967296) :
    Calls Tryd.prog 84 #[.int .i64 40, .int .u32 a, .int .u32 b] w fun e w' => e = .returned (.int .u32 (Wd.alu 40 a b)) ∧ w' = w := by
  have sa := Wd.sg_bd ha ha'
  have sb := Wd.sg_bd hb hb'
  have mb := Wd.mul_bd (x := Wd.sg a) (y := b) (by omega) (by omega) (by omega) (by omega)
  go_enter Tryd.func84, Tryd.ntmps84
  go_wp2_with (first | (go_at_call 87; refine (signed_any _ _ (by omega) (by omega)).mono ?_; rintro e w' ⟨rfl, rfl⟩) | (go_at_call 89; refine (places_any _ _ (by omega) (by omega)).mono ?_; rintro e w' ⟨rfl, rfl⟩) | (go_at_call 90; refine (truth_any _ _).mono ?_; rintro e w' ⟨rfl, rfl⟩) | (go_at_call 92; refine (quotient_any _ _ _ (by omega) (by omega) (by omega) (by omega)).mono ?_; rintro e w' ⟨rfl, rfl⟩) | (go_at_call 93; refine (remainder_any _ _ _ (by omega) (by omega) (by omega) (by omega)).mono ?_; rintro e w' ⟨rfl, rfl⟩) | (go_at_call 94; refine (plainQuotient_any _ _ _ (by omega) (by omega) (by omega) (by omega)).mono ?_; rintro e w' ⟨rfl, rfl⟩) | (go_at_call 95; refine (plainRemainder_any _ _ _ (by omega) (by omega) (by omega) (by omega)).mono ?_; rintro e w' ⟨rfl, rfl⟩) | (go_at_call 91; refine (upper_any _ _ (by omega) (by omega)).mono ?_; rintro e w' ⟨rfl, rfl⟩))
  go_ret
  exact ⟨ret_int (rfl), rfl⟩

theorem alu_41 (a b : Int) (w : World) (ha : 0 ≤ a) (ha' : a < 4294967296) (hb : 0 ≤ b) (hb' : b < 4294967296) :
    Calls Tryd.prog 84 #[.int .i64 41, .int .u32 a, .int .u32 b] w fun e w' => e = .returned (.int .u32 (Wd.alu 41 a b)) ∧ w' = w := by
  have mb := Wd.mulu_bd ha ha' hb hb'
  go_enter Tryd.func84, Tryd.ntmps84
  go_wp2
  go_ret
  exact ⟨ret_int (by show _ = Wd.hi (a * b); unfold Wd.hi; omega), rfl⟩

theorem alu_42 (a b : Int) (w : World) (ha : 0 ≤ a) (ha' : a < 4294967296) (hb : 0 ≤ b) (hb' : b < 4294967296) :
    Calls Tryd.prog 84 #[.int .i64 42, .int .u32 a, .int .u32 b] w fun e w' => e = .returned (.int .u32 (Wd.alu 42 a b)) ∧ w' = w := by
  go_enter Tryd.func84, Tryd.ntmps84
  go_wp2_with (first | (go_at_call 87; refine (signed_any _ _ (by omega) (by omega)).mono ?_; rintro e w' ⟨rfl, rfl⟩) | (go_at_call 89; refine (places_any _ _ (by omega) (by omega)).mono ?_; rintro e w' ⟨rfl, rfl⟩) | (go_at_call 90; refine (truth_any _ _).mono ?_; rintro e w' ⟨rfl, rfl⟩) | (go_at_call 92; refine (quotient_any _ _ _ (by omega) (by omega) (by omega) (by omega)).mono ?_; rintro e w' ⟨rfl, rfl⟩) | (go_at_call 93; refine (remainder_any _ _ _ (by omega) (by omega) (by omega) (by omega)).mono ?_; rintro e w' ⟨rfl, rfl⟩) | (go_at_call 94; refine (plainQuotient_any _ _ _ (by omega) (by omega) (by omega) (by omega)).mono ?_; rintro e w' ⟨rfl, rfl⟩) | (go_at_call 95; refine (plainRemainder_any _ _ _ (by omega) (by omega) (by omega) (by omega)).mono ?_; rintro e w' ⟨rfl, rfl⟩) | (go_at_call 91; refine (upper_any _ _ (by omega) (by omega)).mono ?_; rintro e w' ⟨rfl, rfl⟩))
  go_ret
  exact ⟨ret_int (rfl), rfl⟩

theorem alu_44 (a b : Int) (w : World) (ha : 0 ≤ a) (ha' : a < 4294967296) (hb : 0 ≤ b) (hb' : b < 4294967296) :
    Calls Tryd.prog 84 #[.int .i64 44, .int .u32 a, .int .u32 b] w fun e w' => e = .returned (.int .u32 (Wd.alu 44 a b)) ∧ w' = w := by
  go_enter Tryd.func84, Tryd.ntmps84
  go_wp2_with (first | (go_at_call 87; refine (signed_any _ _ (by omega) (by omega)).mono ?_; rintro e w' ⟨rfl, rfl⟩) | (go_at_call 89; refine (places_any _ _ (by omega) (by omega)).mono ?_; rintro e w' ⟨rfl, rfl⟩) | (go_at_call 90; refine (truth_any _ _).mono ?_; rintro e w' ⟨rfl, rfl⟩) | (go_at_call 92; refine (quotient_any _ _ _ (by omega) (by omega) (by omega) (by omega)).mono ?_; rintro e w' ⟨rfl, rfl⟩) | (go_at_call 93; refine (remainder_any _ _ _ (by omega) (by omega) (by omega) (by omega)).mono ?_; rintro e w' ⟨rfl, rfl⟩) | (go_at_call 94; refine (plainQuotient_any _ _ _ (by omega) (by omega) (by omega) (by omega)).mono ?_; rintro e w' ⟨rfl, rfl⟩) | (go_at_call 95; refine (plainRemainder_any _ _ _ (by omega) (by omega) (by omega) (by omega)).mono ?_; rintro e w' ⟨rfl, rfl⟩) | (go_at_call 91; refine (upper_any _ _ (by omega) (by omega)).mono ?_; rintro e w' ⟨rfl, rfl⟩))
  go_ret
  exact ⟨ret_int (rfl), rfl⟩

theorem alu_43 (a b : Int) (w : World) (ha : 0 ≤ a) (ha' : a < 4294967296) (hb : 0 ≤ b) (hb' : b < 4294967296) :
    Calls Tryd.prog 84 #[.int .i64 43, .int .u32 a, .int .u32 b] w fun e w' => e = .returned (.int .u32 (Wd.alu 43 a b)) ∧ w' = w := by
  go_enter Tryd.func84, Tryd.ntmps84
  go_wp2_with (first | (go_at_call 87; refine (signed_any _ _ (by omega) (by omega)).mono ?_; rintro e w' ⟨rfl, rfl⟩) | (go_at_call 89; refine (places_any _ _ (by omega) (by omega)).mono ?_; rintro e w' ⟨rfl, rfl⟩) | (go_at_call 90; refine (truth_any _ _).mono ?_; rintro e w' ⟨rfl, rfl⟩) | (go_at_call 92; refine (quotient_any _ _ _ (by omega) (by omega) (by omega) (by omega)).mono ?_; rintro e w' ⟨rfl, rfl⟩) | (go_at_call 93; refine (remainder_any _ _ _ (by omega) (by omega) (by omega) (by omega)).mono ?_; rintro e w' ⟨rfl, rfl⟩) | (go_at_call 94; refine (plainQuotient_any _ _ _ (by omega) (by omega) (by omega) (by omega)).mono ?_; rintro e w' ⟨rfl, rfl⟩) | (go_at_call 95; refine (plainRemainder_any _ _ _ (by omega) (by omega) (by omega) (by omega)).mono ?_; rintro e w' ⟨rfl, rfl⟩) | (go_at_call 91; refine (upper_any _ _ (by omega) (by omega)).mono ?_; rintro e w' ⟨rfl, rfl⟩))
  go_ret
  exact ⟨ret_int (rfl), rfl⟩

theorem alu_45 (a b : Int) (w : World) (ha : 0 ≤ a) (ha' : a < 4294967296) (hb : 0 ≤ b) (hb' : b < 4294967296) :
    Calls Tryd.prog 84 #[.int .i64 45, .int .u32 a, .int .u32 b] w fun e w' => e = .returned (.int .u32 (Wd.alu 45 a b)) ∧ w' = w := by
  go_enter Tryd.func84, Tryd.ntmps84
  go_wp2_with (first | (go_at_call 87; refine (signed_any _ _ (by omega) (by omega)).mono ?_; rintro e w' ⟨rfl, rfl⟩) | (go_at_call 89; refine (places_any _ _ (by omega) (by omega)).mono ?_; rintro e w' ⟨rfl, rfl⟩) | (go_at_call 90; refine (truth_any _ _).mono ?_; rintro e w' ⟨rfl, rfl⟩) | (go_at_call 92; refine (quotient_any _ _ _ (by omega) (by omega) (by omega) (by omega)).mono ?_; rintro e w' ⟨rfl, rfl⟩) | (go_at_call 93; refine (remainder_any _ _ _ (by omega) (by omega) (by omega) (by omega)).mono ?_; rintro e w' ⟨rfl, rfl⟩) | (go_at_call 94; refine (plainQuotient_any _ _ _ (by omega) (by omega) (by omega) (by omega)).mono ?_; rintro e w' ⟨rfl, rfl⟩) | (go_at_call 95; refine (plainRemainder_any _ _ _ (by omega) (by omega) (by omega) (by omega)).mono ?_; rintro e w' ⟨rfl, rfl⟩) | (go_at_call 91; refine (upper_any _ _ (by omega) (by omega)).mono ?_; rintro e w' ⟨rfl, rfl⟩))
  go_ret
  exact ⟨ret_int (rfl), rfl⟩

theorem alu_any (op a b : Int) (w : World) (ha : 0 ≤ a) (ha' : a < 4294967296) (hb : 0 ≤ b) (hb' : b < 4294967296) :
    Calls Tryd.prog 84 #[.int .i64 op, .int .u32 a, .int .u32 b] w fun e w' => e = .returned (.int .u32 (Wd.alu op a b)) ∧ w' = w := by
  by_cases h28 : op = 28
  · subst h28; exact alu_28 a b w ha ha' hb hb'
  by_cases h29 : op = 29
  · subst h29; exact alu_29 a b w ha ha' hb hb'
  by_cases h37 : op = 37
  · subst h37; exact alu_37 a b w ha ha' hb hb'
  by_cases h36 : op = 36
  · subst h36; exact alu_36 a b w ha ha' hb hb'
  by_cases h33 : op = 33
  · subst h33; exact alu_33 a b w ha ha' hb hb'
  by_cases h30 : op = 30
  · subst h30; exact alu_30 a b w ha ha' hb hb'
  by_cases h34 : op = 34
  · subst h34; exact alu_34 a b w ha ha' hb hb'
  by_cases h35 : op = 35
  · subst h35; exact alu_35 a b w ha ha' hb hb'
  by_cases h31 : op = 31
  · subst h31; exact alu_31 a b w ha ha' hb hb'
  by_cases h32 : op = 32
  · subst h32; exact alu_32 a b w ha ha' hb hb'
  by_cases h38 : op = 38
  · subst h38; exact alu_38 a b w ha ha' hb hb'
  by_cases h39 : op = 39
  · subst h39; exact alu_39 a b w ha ha' hb hb'
  by_cases h40 : op = 40
  · subst h40; exact alu_40 a b w ha ha' hb hb'
  by_cases h41 : op = 41
  · subst h41; exact alu_41 a b w ha ha' hb hb'
  by_cases h42 : op = 42
  · subst h42; exact alu_42 a b w ha ha' hb hb'
  by_cases h44 : op = 44
  · subst h44; exact alu_44 a b w ha ha' hb hb'
  by_cases h43 : op = 43
  · subst h43; exact alu_43 a b w ha ha' hb hb'
  by_cases h45 : op = 45
  · subst h45; exact alu_45 a b w ha ha' hb hb'
  have H : Hid (Wd.alu op a b = 0) := (by unfold Wd.alu; rw [if_neg h28, if_neg h29, if_neg h37, if_neg h36, if_neg h33, if_neg h30, if_neg h34, if_neg h35, if_neg h31, if_neg h32, if_neg h38, if_neg h39, if_neg h40, if_neg h41, if_neg h42, if_neg h44, if_neg h43, if_neg h45] : _ = _)
  replace h28 : (op == 28) = false := beq_eq_false_iff_ne.2 h28
  replace h29 : (op == 29) = false := beq_eq_false_iff_ne.2 h29
  replace h37 : (op == 37) = false := beq_eq_false_iff_ne.2 h37
  replace h36 : (op == 36) = false := beq_eq_false_iff_ne.2 h36
  replace h33 : (op == 33) = false := beq_eq_false_iff_ne.2 h33
  replace h30 : (op == 30) = false := beq_eq_false_iff_ne.2 h30
  replace h34 : (op == 34) = false := beq_eq_false_iff_ne.2 h34
  replace h35 : (op == 35) = false := beq_eq_false_iff_ne.2 h35
  replace h31 : (op == 31) = false := beq_eq_false_iff_ne.2 h31
  replace h32 : (op == 32) = false := beq_eq_false_iff_ne.2 h32
  replace h38 : (op == 38) = false := beq_eq_false_iff_ne.2 h38
  replace h39 : (op == 39) = false := beq_eq_false_iff_ne.2 h39
  replace h40 : (op == 40) = false := beq_eq_false_iff_ne.2 h40
  replace h41 : (op == 41) = false := beq_eq_false_iff_ne.2 h41
  replace h42 : (op == 42) = false := beq_eq_false_iff_ne.2 h42
  replace h44 : (op == 44) = false := beq_eq_false_iff_ne.2 h44
  replace h43 : (op == 43) = false := beq_eq_false_iff_ne.2 h43
  replace h45 : (op == 45) = false := beq_eq_false_iff_ne.2 h45
  go_enter Tryd.func84, Tryd.ntmps84
  go_wp2
  go_ret
  exact ⟨ret_int H.out.symm, rfl⟩

theorem holds_5 (a b : Int) (w : World) (ha : 0 ≤ a) (ha' : a < 4294967296) (hb : 0 ≤ b) (hb' : b < 4294967296) :
    Calls Tryd.prog 81 #[.int .i64 5, .int .u32 a, .int .u32 b] w fun e w' => e = .returned (.bool (Wd.holds 5 a b)) ∧ w' = w := by
  go_enter Tryd.func81, Tryd.ntmps81
  go_wp2_with (go_at_call 87; refine (signed_any _ _ (by omega) (by omega)).mono ?_; rintro e w' ⟨rfl, rfl⟩)
  go_ret
  exact ⟨ret_bool (rfl), rfl⟩

theorem holds_6 (a b : Int) (w : World) (ha : 0 ≤ a) (ha' : a < 4294967296) (hb : 0 ≤ b) (hb' : b < 4294967296) :
    Calls Tryd.prog 81 #[.int .i64 6, .int .u32 a, .int .u32 b] w fun e w' => e = .returned (.bool (Wd.holds 6 a b)) ∧ w' = w := by
  go_enter Tryd.func81, Tryd.ntmps81
  go_wp2_with (go_at_call 87; refine (signed_any _ _ (by omega) (by omega)).mono ?_; rintro e w' ⟨rfl, rfl⟩)
  go_ret
  exact ⟨ret_bool (by show (a != b) = decide (a ≠ b); rw [Bool.eq_iff_iff]; simp), rfl⟩

theorem holds_7 (a b : Int) (w : World) (ha : 0 ≤ a) (ha' : a < 4294967296) (hb : 0 ≤ b) (hb' : b < 4294967296) :
    Calls Tryd.prog 81 #[.int .i64 7, .int .u32 a, .int .u32 b] w fun e w' => e = .returned (.bool (Wd.holds 7 a b)) ∧ w' = w := by
  go_enter Tryd.func81, Tryd.ntmps81
  go_wp2_with (go_at_call 87; refine (signed_any _ _ (by omega) (by omega)).mono ?_; rintro e w' ⟨rfl, rfl⟩)
  go_ret
  exact ⟨ret_bool (rfl), rfl⟩

theorem holds_8 (a b : Int) (w : World) (ha : 0 ≤ a) (ha' : a < 4294967296) (hb : 0 ≤ b) (hb' : b < 4294967296) :
    Calls Tryd.prog 81 #[.int .i64 8, .int .u32 a, .int .u32 b] w fun e w' => e = .returned (.bool (Wd.holds 8 a b)) ∧ w' = w := by
  go_enter Tryd.func81, Tryd.ntmps81
  go_wp2_with (go_at_call 87; refine (signed_any _ _ (by omega) (by omega)).mono ?_; rintro e w' ⟨rfl, rfl⟩)
  go_ret
  exact ⟨ret_bool (rfl), rfl⟩

theorem holds_9 (a b : Int) (w : World) (ha : 0 ≤ a) (ha' : a < 4294967296) (hb : 0 ≤ b) (hb' : b < 4294967296) :
    Calls Tryd.prog 81 #[.int .i64 9, .int .u32 a, .int .u32 b] w fun e w' => e = .returned (.bool (Wd.holds 9 a b)) ∧ w' = w := by
  go_enter Tryd.func81, Tryd.ntmps81
  go_wp2_with (go_at_call 87; refine (signed_any _ _ (by omega) (by omega)).mono ?_; rintro e w' ⟨rfl, rfl⟩)
  go_ret
  exact ⟨ret_bool (rfl), rfl⟩

theorem holds_10 (a b : Int) (w : World) (ha : 0 ≤ a) (ha' : a < 4294967296) (hb : 0 ≤ b) (hb' : b < 4294967296) :
    Calls Tryd.prog 81 #[.int .i64 10, .int .u32 a, .int .u32 b] w fun e w' => e = .returned (.bool (Wd.holds 10 a b)) ∧ w' = w := by
  go_enter Tryd.func81, Tryd.ntmps81
  go_wp2_with (go_at_call 87; refine (signed_any _ _ (by omega) (by omega)).mono ?_; rintro e w' ⟨rfl, rfl⟩)
  go_ret
  exact ⟨ret_bool (rfl), rfl⟩

theorem holds_any (op a b : Int) (w : World) (ha : 0 ≤ a) (ha' : a < 4294967296) (hb : 0 ≤ b) (hb' : b < 4294967296) :
    Calls Tryd.prog 81 #[.int .i64 op, .int .u32 a, .int .u32 b] w fun e w' => e = .returned (.bool (Wd.holds op a b)) ∧ w' = w := by
  by_cases h5 : op = 5
  · subst h5; exact holds_5 a b w ha ha' hb hb'
  by_cases h6 : op = 6
  · subst h6; exact holds_6 a b w ha ha' hb hb'
  by_cases h7 : op = 7
  · subst h7; exact holds_7 a b w ha ha' hb hb'
  by_cases h8 : op = 8
  · subst h8; exact holds_8 a b w ha ha' hb hb'
  by_cases h9 : op = 9
  · subst h9; exact holds_9 a b w ha ha' hb hb'
  by_cases h10 : op = 10
  · subst h10; exact holds_10 a b w ha ha' hb hb'
  have H : Hid (Wd.holds op a b = false) := (by unfold Wd.holds; rw [if_neg h5, if_neg h6, if_neg h7, if_neg h8, if_neg h9, if_neg h10] : _ = _)
  replace h5 : (op == 5) = false := beq_eq_false_iff_ne.2 h5
  replace h6 : (op == 6) = false := beq_eq_false_iff_ne.2 h6
  replace h7 : (op == 7) = false := beq_eq_false_iff_ne.2 h7
  replace h8 : (op == 8) = false := beq_eq_false_iff_ne.2 h8
  replace h9 : (op == 9) = false := beq_eq_false_iff_ne.2 h9
  replace h10 : (op == 10) = false := beq_eq_false_iff_ne.2 h10
  go_enter Tryd.func81, Tryd.ntmps81
  go_wp2
  go_ret
  exact ⟨ret_bool H.out.symm, rfl⟩

theorem amo_48 (a b : Int) (w : World) (ha : 0 ≤ a) (ha' : a < 4294967296) (hb : 0 ≤ b) (hb' : b < 4294967296) :
    Calls Tryd.prog 98 #[.int .i64 48, .int .u32 a, .int .u32 b] w fun e w' => e = .returned (.int .u32 (Wd.amo 48 a b)) ∧ w' = w := by
  go_enter Tryd.func98, Tryd.ntmps98
  go_wp2_with (first | (go_at_call 87; refine (signed_any _ _ (by omega) (by omega)).mono ?_; rintro e w' ⟨rfl, rfl⟩) | (go_at_call 84; refine (alu_any _ _ _ _ (by omega) (by omega) (by omega) (by omega)).mono ?_; rintro e w' ⟨rfl, rfl⟩))
  go_ret
  exact ⟨ret_int (rfl), rfl⟩

theorem amo_49 (a b : Int) (w : World) (ha : 0 ≤ a) (ha' : a < 4294967296) (hb : 0 ≤ b) (hb' : b < 4294967296) :
    Calls Tryd.prog 98 #[.int .i64 49, .int .u32 a, .int .u32 b] w fun e w' => e = .returned (.int .u32 (Wd.amo 49 a b)) ∧ w' = w := by
  go_enter Tryd.func98, Tryd.ntmps98
  go_wp2_with (first | (go_at_call 87; refine (signed_any _ _ (by omega) (by omega)).mono ?_; rintro e w' ⟨rfl, rfl⟩) | (go_at_call 84; refine (alu_any _ _ _ _ (by omega) (by omega) (by omega) (by omega)).mono ?_; rintro e w' ⟨rfl, rfl⟩))
  go_ret
  exact ⟨ret_int (rfl), rfl⟩

theorem amo_50 (a b : Int) (w : World) (ha : 0 ≤ a) (ha' : a < 4294967296) (hb : 0 ≤ b) (hb' : b < 4294967296) :
    Calls Tryd.prog 98 #[.int .i64 50, .int .u32 a, .int .u32 b] w fun e w' => e = .returned (.int .u32 (Wd.amo 50 a b)) ∧ w' = w := by
  go_enter Tryd.func98, Tryd.ntmps98
  go_wp2_with (first | (go_at_call 87; refine (signed_any _ _ (by omega) (by omega)).mono ?_; rintro e w' ⟨rfl, rfl⟩) | (go_at_call 84; refine (alu_any _ _ _ _ (by omega) (by omega) (by omega) (by omega)).mono ?_; rintro e w' ⟨rfl, rfl⟩))
  go_ret
  exact ⟨ret_int (rfl), rfl⟩

theorem amo_51 (a b : Int) (w : World) (ha : 0 ≤ a) (ha' : a < 4294967296) (hb : 0 ≤ b) (hb' : b < 4294967296) :
    Calls Tryd.prog 98 #[.int .i64 51, .int .u32 a, .int .u32 b] w fun e w' => e = .returned (.int .u32 (Wd.amo 51 a b)) ∧ w' = w := by
  go_enter Tryd.func98, Tryd.ntmps98
  go_wp2_with (first | (go_at_call 87; refine (signed_any _ _ (by omega) (by omega)).mono ?_; rintro e w' ⟨rfl, rfl⟩) | (go_at_call 84; refine (alu_any _ _ _ _ (by omega) (by omega) (by omega) (by omega)).mono ?_; rintro e w' ⟨rfl, rfl⟩))
  go_ret
  exact ⟨ret_int (rfl), rfl⟩

theorem amo_52 (a b : Int) (w : World) (ha : 0 ≤ a) (ha' : a < 4294967296) (hb : 0 ≤ b) (hb' : b < 4294967296) :
    Calls Tryd.prog 98 #[.int .i64 52, .int .u32 a, .int .u32 b] w fun e w' => e = .returned (.int .u32 (Wd.amo 52 a b)) ∧ w' = w := by
  go_enter Tryd.func98, Tryd.ntmps98
  go_wp2_with (first | (go_at_call 87; refine (signed_any _ _ (by omega) (by omega)).mono ?_; rintro e w' ⟨rfl, rfl⟩) | (go_at_call 84; refine (alu_any _ _ _ _ (by omega) (by omega) (by omega) (by omega)).mono ?_; rintro e w' ⟨rfl, rfl⟩))
  go_ret
  exact ⟨ret_int (rfl), rfl⟩

theorem amo_53 (a b : Int) (w : World) (ha : 0 ≤ a) (ha' : a < 4294967296) (hb : 0 ≤ b) (hb' : b < 4294967296) :
    Calls Tryd.prog 98 #[.int .i64 53, .int .u32 a, .int .u32 b] w fun e w' => e = .returned (.int .u32 (Wd.amo 53 a b)) ∧ w' = w := by
  have la : Hid (Wd.sg a % 4294967296 = a) := Wd.sg_lo ha ha'
  have lb : Hid (Wd.sg b % 4294967296 = b) := Wd.sg_lo hb hb'
  go_enter Tryd.func98, Tryd.ntmps98
  go_wp2_with (go_at_call 87; refine (signed_any _ _ (by omega) (by omega)).mono ?_; rintro e w' ⟨rfl, rfl⟩)
  all_goals
    go_ret
    exact ⟨ret_int (by have := la.out; have := lb.out; show _ = (if Wd.sg a < Wd.sg b then a else b); split <;> omega), rfl⟩

theorem amo_54 (a b : Int) (w : World) (ha : 0 ≤ a) (ha' : a < 4294967296) (hb : 0 ≤ b) (hb' : b < 4294967296) :
    Calls Tryd.prog 98 #[.int .i64 54, .int .u32 a, .int .u32 b] w fun e w' => e = .returned (.int .u32 (Wd.amo 54 a b)) ∧ w' = w := by
  have la : Hid (Wd.sg a % 4294967296 = a) := Wd.sg_lo ha ha'
  have lb : Hid (Wd.sg b % 4294967296 = b) := Wd.sg_lo hb hb'
  go_enter Tryd.func98, Tryd.ntmps98
  go_wp2_with (go_at_call 87; refine (signed_any _ _ (by omega) (by omega)).mono ?_; rintro e w' ⟨rfl, rfl⟩)
  all_goals
    go_ret
    exact ⟨ret_int (by have := la.out; have := lb.out; show _ = (if Wd.sg a < Wd.sg b then b else a); split <;> omega), rfl⟩

theorem amo_55 (a b : Int) (w : World) (ha : 0 ≤ a) (ha' : a < 4294967296) (hb : 0 ≤ b) (hb' : b < 4294967296) :
    Calls Tryd.prog 98 #[.int .i64 55, .int .u32 a, .int .u32 b] w fun e w' => e = .returned (.int .u32 (Wd.amo 55 a b)) ∧ w' = w := by
  have la : Hid (Wd.sg a % 4294967296 = a) := Wd.sg_lo ha ha'
  have lb : Hid (Wd.sg b % 4294967296 = b) := Wd.sg_lo hb hb'
  go_enter Tryd.func98, Tryd.ntmps98
  go_wp2_with (go_at_call 87; refine (signed_any _ _ (by omega) (by omega)).mono ?_; rintro e w' ⟨rfl, rfl⟩)
  all_goals
    go_ret
    exact ⟨ret_int (by have := la.out; have := lb.out; show _ = (if a < b then a else b); split <;> omega), rfl⟩

theorem amo_56 (a b : Int) (w : World) (ha : 0 ≤ a) (ha' : a < 4294967296) (hb : 0 ≤ b) (hb' : b < 4294967296) :
    Calls Tryd.prog 98 #[.int .i64 56, .int .u32 a, .int .u32 b] w fun e w' => e = .returned (.int .u32 (Wd.amo 56 a b)) ∧ w' = w := by
  have la : Hid (Wd.sg a % 4294967296 = a) := Wd.sg_lo ha ha'
  have lb : Hid (Wd.sg b % 4294967296 = b) := Wd.sg_lo hb hb'
  go_enter Tryd.func98, Tryd.ntmps98
  go_wp2_with (go_at_call 87; refine (signed_any _ _ (by omega) (by omega)).mono ?_; rintro e w' ⟨rfl, rfl⟩)
  all_goals
    go_ret
    exact ⟨ret_int (by have := la.out; have := lb.out; show _ = (if a < b then b else a); split <;> omega), rfl⟩

theorem amo_any (op a b : Int) (w : World) (ha : 0 ≤ a) (ha' : a < 4294967296) (hb : 0 ≤ b) (hb' : b < 4294967296) :
    Calls Tryd.prog 98 #[.int .i64 op, .int .u32 a, .int .u32 b] w fun e w' => e = .returned (.int .u32 (Wd.amo op a b)) ∧ w' = w := by
  by_cases h48 : op = 48
  · subst h48; exact amo_48 a b w ha ha' hb hb'
  by_cases h49 : op = 49
  · subst h49; exact amo_49 a b w ha ha' hb hb'
  by_cases h50 : op = 50
  · subst h50; exact amo_50 a b w ha ha' hb hb'
  by_cases h51 : op = 51
  · subst h51; exact amo_51 a b w ha ha' hb hb'
  by_cases h52 : op = 52
  · subst h52; exact amo_52 a b w ha ha' hb hb'
  by_cases h53 : op = 53
  · subst h53; exact amo_53 a b w ha ha' hb hb'
  by_cases h54 : op = 54
  · subst h54; exact amo_54 a b w ha ha' hb hb'
  by_cases h55 : op = 55
  · subst h55; exact amo_55 a b w ha ha' hb hb'
  by_cases h56 : op = 56
  · subst h56; exact amo_56 a b w ha ha' hb hb'
  have H : Hid (Wd.amo op a b = 0) := (by unfold Wd.amo; rw [if_neg h48, if_neg h49, if_neg h50, if_neg h51, if_neg h52, if_neg h53, if_neg h54, if_neg h55, if_neg h56] : _ = _)
  replace h48 : (op == 48) = false := beq_eq_false_iff_ne.2 h48
  replace h49 : (op == 49) = false := beq_eq_false_iff_ne.2 h49
  replace h50 : (op == 50) = false := beq_eq_false_iff_ne.2 h50
  replace h51 : (op == 51) = false := beq_eq_false_iff_ne.2 h51
  replace h52 : (op == 52) = false := beq_eq_false_iff_ne.2 h52
  replace h53 : (op == 53) = false := beq_eq_false_iff_ne.2 h53
  replace h54 : (op == 54) = false := beq_eq_false_iff_ne.2 h54
  replace h55 : (op == 55) = false := beq_eq_false_iff_ne.2 h55
  replace h56 : (op == 56) = false := beq_eq_false_iff_ne.2 h56
  go_enter Tryd.func98, Tryd.ntmps98
  go_wp2
  go_ret
  exact ⟨ret_int H.out.symm, rfl⟩

end Go.Proofs.YtjooaobmbndkfaaDoor.Ww
/-
  What the small functions and methods of package hart return, and what becomes of the core: within, May, Trap, Set, Load, next, of every hart; and ferrybridgeref4.May.
-/
namespace Go.Proofs.YtjooaobmbndkfaaDoor.Hc
open Go.ChangeShapes Go.WideShapes Go.ChangeAt Go.RowKit Mm Hh
set_option linter.unusedVariables false
set_option linter.unusedSimpArgs false

theorem within_any (n a b : Int) (w : World) : Calls Tryd.prog 34 #[.int .i64 n, .int .i64 a, .int .i64 b] w fun e w' => e = .returned (.bool (decide (a ≤ n) && decide (n ≤ b))) ∧ w' = w := by
  by_cases h1 : a ≤ n
  · by_cases h2 : n ≤ b
    · go_enter Tryd.func34, Tryd.ntmps34
      go_wp2
      go_ret
      exact ⟨ret_bool (by simp [h1, h2]), rfl⟩
    · go_enter Tryd.func34, Tryd.ntmps34
      go_wp2
      go_ret
      exact ⟨ret_bool (by simp [h1, h2]), rfl⟩
  · go_enter Tryd.func34, Tryd.ntmps34
    go_wp2
    go_ret
    exact ⟨ret_bool (by simp; omega), rfl⟩

theorem may_get (h : Hv) (o : h.Ok) : (hA h)[0]? = some (.int .u32 (rg h 0)) ∧ (hA h)[33]? = some (.bool h.held) ∧ (hA h)[34]? = some (.int .u32 h.heldAt) ∧ (hA h)[35]? = some (.int .i64 h.state) ∧ (hA h)[36]? = some (.int .i64 h.cause) := by
  unfold hA
  simp only [List.getElem?_toArray]
  exact ⟨hL_reg o (by omega), hL_fld o 1, hL_fld o 2, hL_fld o 3, hL_fld o 4⟩


set_option maxHeartbeats 1000000 in
theorem may_any {h : Hv} (o : h.Ok) (w : World) : Calls Tryd.prog 14 #[.agg (hA h)] w fun e w' => e = .returned (.bool (may h)) ∧ Gr w w' := by
  obtain ⟨c0, c1, c2, c3, c4⟩ := may_get h o
  have HM : Hid (may h = decide (rg h 0 = 0 ∧ (h.held = false → h.heldAt = 0) ∧ (((h.state = 0 ∨ h.state = 1) ∧ h.cause = 0) ∨ (h.state = 2 ∧ 1 ≤ h.cause ∧ h.cause ≤ 6)))) := rfl
  generalize may h = M at *
  generalize hA h = A at *
  generalize rg h 0 = x0 at *
  generalize h.held = x1 at *
  generalize h.heldAt = x2 at *
  generalize h.state = x3 at *
  generalize h.cause = x4 at *
  clear o
  cases x1
  all_goals
    go_enter Tryd.func14, Tryd.ntmps14
    go_wp2_with (go_at_call 34; refine (within_any _ _ _ _).mono ?_; rintro e w' ⟨rfl, rfl⟩)
    all_goals
      clear c0 c1 c2 c3 c4
      go_ret
      refine ⟨ret_bool ?_, (Gr.refl _).alloc _⟩
      rw [HM.out, Bool.eq_iff_iff]
      simp at *
      omega

set_option maxHeartbeats 1000000 in
theorem rmay_any {h : Hv} (o : h.Ok) (w : World) : Calls Tryd.prog 15 #[.agg (hA h)] w fun e w' => e = .returned (.bool (may h)) ∧ Gr w w' := by
  obtain ⟨c0, c1, c2, c3, c4⟩ := may_get h o
  have HM : Hid (may h = decide (rg h 0 = 0 ∧ (h.held = false → h.heldAt = 0) ∧ (((h.state = 0 ∨ h.state = 1) ∧ h.cause = 0) ∨ (h.state = 2 ∧ 1 ≤ h.cause ∧ h.cause ≤ 6)))) := rfl
  generalize may h = M at *
  generalize hA h = A at *
  generalize rg h 0 = x0 at *
  generalize h.held = x1 at *
  generalize h.heldAt = x2 at *
  generalize h.state = x3 at *
  generalize h.cause = x4 at *
  clear o
  cases x1
  all_goals
    go_enter Tryd.func15, Tryd.ntmps15
    go_wp2
    all_goals
      clear c0 c1 c2 c3 c4
      go_ret
      refine ⟨ret_bool ?_, (Gr.refl _).alloc _⟩
      rw [HM.out, Bool.eq_iff_iff]
      simp at *
      omega

theorem trap_any {w : World} {base g : Nat} {h : Hv} {l : List UInt8} {os : List Int} {ss : List (Int × Int)} (I : In w base g h l os ss) (c : Int) :
    Calls Tryd.prog 60 #[.pointer (some ⟨g, 0, none⟩), .int .i64 c] w fun e w' => e = .returned (.tuple #[]) ∧ In w' base g (h.trap c) l os ss ∧ Ch g w w' := by
  obtain ⟨c0, rfl, I⟩ := I
  have k1 : w.cell? ⟨g, 35, none⟩ = some (.int .i64 c0.h.state) := (I.hcell (by omega)).trans (hL_fld I.ok 3)
  have k2 : w.cell? ⟨g, 36, none⟩ = some (.int .i64 c0.h.cause) := (I.hcell (by omega)).trans (hL_fld I.ok 4)
  have fz := I.fz
  have o1 : Hv.Ok { c0.h with state := 2 } := ⟨I.ok.len, I.ok.reg, I.ok.pc0, I.ok.pc1, I.ok.at0, I.ok.at1⟩
  have J : Hid (Inv ((w.setCell ⟨g, 35, none⟩ (.int .i64 2)).setCell ⟨g, 36, none⟩ (.int .i64 c)) base g { c0 with h := c0.h.trap c } l os ss) :=
    (I.set (by omega) (set_state I.ok 2) o1).set (c := { c0 with h := { c0.h with state := 2 } }) (by omega) (set_cause o1 c) (I.ok.trap c)
  generalize c0.h.state = x1 at k1
  generalize c0.h.cause = x2 at k2
  clear I o1
  go_enter Tryd.func60, Tryd.ntmps60
  go_wp2
  go_end0
  exact ⟨rfl, ⟨_, rfl, J.out⟩, ((Ch.refl g w).setCell _ _).setCell _ _⟩

theorem set_any {w : World} {base g : Nat} {h : Hv} {l : List UInt8} {os : List Int} {ss : List (Int × Int)} (I : In w base g h l os ss) (r x : Int) (h0 : 0 ≤ r) (h1 : r < 32) (hx0 : 0 ≤ x) (hx1 : x < 4294967296) :
    Calls Tryd.prog 78 #[.pointer (some ⟨g, 0, none⟩), .int .i64 r, .int .u32 x] w fun e w' => e = .returned (.tuple #[]) ∧ In w' base g (h.set r.toNat x) l os ss ∧ Ch g w w' := by
  obtain ⟨c0, rfl, I⟩ := I
  obtain ⟨r, rfl⟩ := Int.eq_ofNat_of_zero_le h0
  simp only [Int.toNat_natCast]
  by_cases hr : r = 0
  · subst hr
    have J : Hid (Inv w base g c0 l os ss) := I
    clear I
    go_enter Tryd.func78, Tryd.ntmps78
    go_wp2
    go_end0
    exact ⟨rfl, ⟨c0, rfl, J.out⟩, Ch.refl g w⟩
  · have hr2 : r < 32 := by omega
    have k1 := I.reg hr2
    have fz := I.fz
    have e : c0.h.set r x = { c0.h with regs := c0.h.regs.set r x } := if_neg hr
    have ok := I.ok.set r hx0 hx1
    rw [e] at ok ⊢
    have J : Hid (Inv (w.setCell ⟨g, r, none⟩ (.int .u32 x)) base g { c0 with h := { c0.h with regs := c0.h.regs.set r x } } l os ss) := I.set (by omega) (set_reg I.ok hr2 x) ok
    have hr' : ¬ (r : Int) = 0 := by omega
    generalize rg c0.h r = y at k1
    clear I e ok
    go_enter Tryd.func78, Tryd.ntmps78
    go_wp2
    go_end0
    exact ⟨rfl, ⟨_, rfl, J.out⟩, (Ch.refl g w).setCell _ _⟩

theorem Load_any {w : World} {base g : Nat} {h : Hv} {l : List UInt8} {os : List Int} {ss : List (Int × Int)} (I : In w base g h l os ss) (hl : l.length ≤ 140737488351232) (op a : Int) (h0 : 0 ≤ a) (h1 : a < 4294967296) :
    Calls Tryd.prog 82 #[.pointer (some ⟨g, 0, none⟩), .int .i64 op, .int .u32 a] w fun e w' => e = .returned (.tuple #[.int .u32 (ldV l op a), .bool (ldOk l op a)]) ∧ In w' base g (if ldOk l op a = true then h else h.trap 3) l os ss ∧ Ch g w w' := by
  have T : Hid (∀ c, Calls Tryd.prog 60 #[.pointer (some ⟨g, 0, none⟩), .int .i64 c] w fun e w' => e = .returned (.tuple #[]) ∧ In w' base g (h.trap c) l os ss ∧ Ch g w w') := fun c => trap_any I c
  have HI : Hid (In w base g h l os ss) := I
  obtain ⟨c0, rfl, I⟩ := I
  obtain ⟨ao, cap, hm, M⟩ := I.mem.mem
  have k1 : w.cell? ⟨g, 37, none⟩ = some (.slice ao l.length cap) := (I.fcell 0).trans (by rw [hm]; rfl)
  have L : Hid (Calls Tryd.prog 59 #[.slice ao l.length cap, .int .i64 op, .int .u32 a] w fun e w' => e = .returned (.tuple #[.int .u32 (ldV l op a), .bool (ldOk l op a)]) ∧ w' = w) := Mm.Load_any cap op a M hl h0 h1
  generalize ldV l op a = X at *
  generalize ldOk l op a = B at *
  clear I M hm
  generalize l.length = n at *
  cases B
  · go_enter Tryd.func82, Tryd.ntmps82
    go_wp2_with fail
    refine L.out.mono ?_
    rintro e w' ⟨rfl, rfl⟩
    clear L
    go_wp2_with fail
    refine (T.out 3).mono ?_
    rintro e w2 ⟨rfl, I2, C2⟩
    have HI2 : Hid (In w2 base g (c0.h.trap 3) l os ss) := I2
    clear T I2 k1
    go_wp2
    go_ret2
    exact ⟨rfl, HI2.out, C2⟩
  · go_enter Tryd.func82, Tryd.ntmps82
    go_wp2_with fail
    refine L.out.mono ?_
    rintro e w' ⟨rfl, rfl⟩
    clear L T k1
    go_wp2
    go_ret2
    exact ⟨rfl, HI.out, Ch.refl _ _⟩

theorem andNot1 (x : Int) (h0 : 0 ≤ x) (h1 : x < 4294967296) : bits .andNot .u32 x 1 = x - x % 2 := by
  obtain ⟨x, rfl⟩ := Int.eq_ofNat_of_zero_le h0
  show IntKind.u32.wrap ((BitVec.ofInt 32 (x : Int) &&& ~~~ BitVec.ofInt 32 1).toNat : Int) = _
  have e : (~~~ BitVec.ofInt 32 1).toNat = (2 ^ 31 - 1) * 2 ^ 1 := by decide
  rw [BitVec.toNat_and, ofInt32 x h1, e, Dc.nand_mask]
  show ((x / 2 ^ 1 % 2 ^ 31 * 2 ^ 1 : Nat) : Int) % 4294967296 = _
  omega
theorem next_any {w : World} {base g : Nat} {h : Hv} {l : List UInt8} {os : List Int} {ss : List (Int × Int)} (I : In w base g h l os ss) (op a b n : Int) (ha : 0 ≤ a) (ha' : a < 4294967296) (hb : 0 ≤ b) (hb' : b < 4294967296) (hn : 0 ≤ n) (hn' : n < 4294967296) :
    Calls Tryd.prog 76 #[.pointer (some ⟨g, 0, none⟩), .int .i64 op, .int .u32 a, .int .u32 b, .int .u32 n] w fun e w' => e = .returned (.int .u32 (nxt h op a b n)) ∧ w' = w := by
  obtain ⟨c0, rfl, I⟩ := I
  have k1 : w.cell? ⟨g, 32, none⟩ = some (.int .u32 c0.h.pc) := (I.hcell (by omega)).trans (hL_fld I.ok 0)
  have p0 := I.ok.pc0
  have p1 := I.ok.pc1
  have HN : Hid (nxt c0.h op a b n = if op = 4 then Wd.lo (a + n) - Wd.lo (a + n) % 2 else if op = 3 ∨ Wd.holds op a b = true then Wd.lo (c0.h.pc + n) else Wd.lo (c0.h.pc + 4)) := rfl
  generalize nxt c0.h op a b n = N at *
  generalize c0.h.pc = pc at *
  clear I
  have H : Hid (∀ w, Calls Tryd.prog 81 #[.int .i64 op, .int .u32 a, .int .u32 b] w fun e w' => e = .returned (.bool (Wd.holds op a b)) ∧ w' = w) := fun w => Ww.holds_any op a b w ha ha' hb hb'
  by_cases h4 : op = 4
  · have b4 : (op == 4) = true := by simp [h4]
    have HE : Hid (N = Wd.lo (a + n) - Wd.lo (a + n) % 2) := by unfold Hid; rw [HN.out, if_pos h4]
    clear h4 HN
    go_enter Tryd.func76, Tryd.ntmps76
    go_wp2_with fail
    go_ret
    refine ⟨ret_int ?_, rfl⟩
    rw [HE.out, andNot1 _ (by omega) (by omega)]
    rfl
  · have b4 : (op == 4) = false := by simp [h4]
    by_cases h3 : op = 3
    · have b3 : (op == 3) = true := by simp [h3]
      have HE : Hid (N = Wd.lo (pc + n)) := by unfold Hid; rw [HN.out, if_neg h4, if_pos (.inl h3)]
      clear h4 h3 HN
      go_enter Tryd.func76, Tryd.ntmps76
      go_wp2_with fail
      go_ret
      exact ⟨ret_int (by rw [HE.out]; rfl), rfl⟩
    · have b3 : (op == 3) = false := by simp [h3]
      have HE : Hid (N = if Wd.holds op a b = true then Wd.lo (pc + n) else Wd.lo (pc + 4)) := by unfold Hid; rw [HN.out, if_neg h4]; simp [h3]
      clear h4 h3 HN
      generalize Wd.holds op a b = B at *
      cases B
      · go_enter Tryd.func76, Tryd.ntmps76
        go_wp2_with fail
        refine (H.out _).mono ?_
        rintro e w' ⟨rfl, rfl⟩
        go_wp2_with fail
        go_ret
        exact ⟨ret_int (by rw [HE.out]; rfl), rfl⟩
      · go_enter Tryd.func76, Tryd.ntmps76
        go_wp2_with fail
        refine (H.out _).mono ?_
        rintro e w' ⟨rfl, rfl⟩
        go_wp2_with fail
        go_ret
        exact ⟨ret_int (by rw [HE.out]; rfl), rfl⟩
end Go.Proofs.YtjooaobmbndkfaaDoor.Hc
/-
  How a struct that begins with a hart and a slice is built; steps of a region that draws its order: a load, a build, a store of a whole struct.
-/
namespace Go.Proofs.YtjooaobmbndkfaaDoor.Hc
open Go.ChangeShapes Go.WideShapes Go.ChangeAt Go.RowKit Mm Hh
set_option linter.unusedVariables false
set_option linter.unusedSimpArgs false

theorem fold_set (off : Nat) (v cs : Array Value) : (v.zipIdx.foldl (fun cs (x : Value × Nat) => cs.setIfInBounds (off + x.2) x.1) cs).size = cs.size ∧
    ∀ k, (v.zipIdx.foldl (fun cs (x : Value × Nat) => cs.setIfInBounds (off + x.2) x.1) cs)[k]? = if off ≤ k ∧ k < off + v.size ∧ k < cs.size then v[k - off]? else cs[k]? := by
  have h := Great.foldl_set off v.toList 0 cs
  rw [← Array.foldl_toList, Array.toList_zipIdx]
  refine ⟨h.1, fun k => ?_⟩
  rw [h.2 k]
  simp
/-- A struct whose first field has n cells, and whose second field has one. -/
theorem built_two {P : Program} {t : TypeId} {it : TypeInfo} {z : Value} {fs : Array Field} {ps : List (Nat × Nat)} (hi : P.info? t = some it) (hu : P.underlying t = some (.struct fs)) (hz : it.zero = some z)
    (hp : fs.toList.mapM (fun f => (P.info? f.type).map fun i => (f.offset, i.size)) = some ps) {n : Nat} (p0 : ps.toArray[0]? = some (0, n)) (p1 : ps.toArray[1]? = some (n, 1)) (A : Array Value) (hA : A.size = n) (v : Value) (hv : v.cells = #[v]) (hs : n + 1 ≤ z.cells.size)
    (R : Array Value) (hR : R.size = z.cells.size) (h1 : ∀ k, k < n → R[k]? = A[k]?) (h2 : R[n]? = some v) (h3 : ∀ k, n < k → R[k]? = z.cells[k]?) : P.built t [(0, .agg A), (1, v)] = some R := by
  unfold Program.built
  simp only [hi, hu, hz, hp]
  have a1 := fold_set 0 A z.cells
  have a2 := fold_set n #[v] (A.zipIdx.foldl (fun cs (x : Value × Nat) => cs.setIfInBounds (0 + x.2) x.1) z.cells)
  unfold Instr.fill
  simp only [p0]
  have e : (Value.agg A).cells = A := rfl
  rw [e, if_neg (by simp [hA]; omega)]
  unfold Instr.fill
  simp only [p1]
  rw [hv, if_neg (by rw [a1.1]; simp; omega)]
  unfold Instr.fill
  congr 1
  apply Array.ext_getElem?
  intro k
  rw [a2.2 k, a1.2 k, a1.1]
  by_cases hk : k < n
  · rw [if_neg (by omega), if_pos (by omega), h1 k hk]; simp
  · by_cases hk2 : k = n
    · subst hk2
      rw [if_pos (by simp; omega), h2]; simp
    · rw [if_neg (by simp; omega), if_neg (by omega), h3 k (by omega)]
theorem info_zero {P : Program} {t : TypeId} {v : Value} (h : (P.info? t).bind (·.zero) = some v) : ∃ it, P.info? t = some it ∧ it.zero = some v := by
  cases hi : P.info? t with
  | none => simp [hi] at h
  | some it => exact ⟨it, rfl, by simpa [hi] using h⟩

/-- The empty hart. -/
def h0 : Hv := ⟨List.replicate 32 0, 0, false, 0, 0, 0⟩
theorem h0_ok : h0.Ok := ⟨rfl, fun i => by unfold rg h0; simp only [List.getD, List.getElem?_replicate]; split <;> simp, by decide, by decide, by decide, by decide⟩
def nilS : Value := .slice none 0 0
theorem one_cA (c : Cv) (h1 : c.m.oneCell' = true) (h2 : c.out.oneCell' = true) (h3 : c.sto.oneCell' = true) : (cA c).all (·.oneCell') = true := by
  refine all_oneCell_toArray ?_
  intro v hv
  simp only [hL, List.mem_append, List.mem_map, List.mem_cons, List.not_mem_nil, or_false] at hv
  rcases hv with (⟨n, _, rfl⟩ | rfl | rfl | rfl | rfl | rfl) | rfl | rfl | rfl <;> first | rfl | assumption
theorem zCore : (Tryd.prog.info? 81).bind (·.zero) = some (.agg (cA ⟨h0, nilS, nilS, nilS⟩)) := by kernel_rfl
theorem zDid : (Tryd.prog.info? 41).bind (·.zero) = some (.agg (dA ⟨h0, nilS, nilS, 0, 0⟩)) := by kernel_rfl
theorem zHart : (Tryd.prog.info? 34).bind (·.zero) = some (.agg (hA h0)) := by kernel_rfl
theorem built_core {h : Hv} (o : h.Ok) (v : Value) (hv : v.cells = #[v]) : Tryd.prog.built 81 [(0, .agg (hA h)), (1, v)] = some (cA ⟨h, v, nilS, nilS⟩) := by
  obtain ⟨it, hi, hz⟩ := info_zero zCore
  have hl := hL_len o
  have z := hL_len h0_ok
  refine built_two (n := 37) hi Tryd.underlying81 hz (ps := [(0, 37), (37, 1), (38, 1), (39, 1)]) (by kernel_rfl) rfl rfl (hA h) (hA_size o) v hv (by show 38 ≤ (cA _).size; rw [cA_size h0_ok]; omega) _ ?_ ?_ ?_ ?_
  · show (cA _).size = (cA _).size; rw [cA_size (c := ⟨h, v, nilS, nilS⟩) o, cA_size h0_ok]
  · intro k hk; rw [cA_get (c := ⟨h, v, nilS, nilS⟩) o hk]; simp [hA]
  · exact cA_fld (c := ⟨h, v, nilS, nilS⟩) o 0
  · intro k hk
    obtain ⟨j, rfl⟩ : ∃ j, k = 37 + (j + 1) := ⟨k - 38, by omega⟩
    show (cA _)[_]? = (cA _)[_]?
    rw [cA_fld (c := ⟨h, v, nilS, nilS⟩) o, cA_fld (c := ⟨h0, nilS, nilS, nilS⟩) h0_ok]
    rfl
theorem built_did {h : Hv} (o : h.Ok) (v : Value) (hv : v.cells = #[v]) : Tryd.prog.built 41 [(0, .agg (hA h)), (1, v)] = some (dA ⟨h, v, nilS, 0, 0⟩) := by
  obtain ⟨it, hi, hz⟩ := info_zero zDid
  have hl := hL_len o
  have z := hL_len h0_ok
  refine built_two (n := 37) hi Tryd.underlying41 hz (ps := [(0, 37), (37, 1), (38, 1), (39, 1), (40, 1)]) (by kernel_rfl) rfl rfl (hA h) (hA_size o) v hv (by show 38 ≤ (dA _).size; rw [dA_size h0_ok]; omega) _ ?_ ?_ ?_ ?_
  · show (dA _).size = (dA _).size; rw [dA_size (d := ⟨h, v, nilS, 0, 0⟩) o, dA_size h0_ok]
  · intro k hk; rw [dA_get (d := ⟨h, v, nilS, 0, 0⟩) o hk]; simp [hA]
  · exact dA_fld (d := ⟨h, v, nilS, 0, 0⟩) o 0
  · intro k hk
    obtain ⟨j, rfl⟩ : ∃ j, k = 37 + (j + 1) := ⟨k - 38, by omega⟩
    show (dA _)[_]? = (dA _)[_]?
    rw [dA_fld (d := ⟨h, v, nilS, 0, 0⟩) o, dA_fld (d := ⟨h0, nilS, nilS, 0, 0⟩) h0_ok]
    rfl
theorem built_h0 : Tryd.prog.built 34 [] = some (hA h0) := by kernel_rfl
theorem built_c0 : Tryd.prog.built 81 [] = some (cA ⟨h0, nilS, nilS, nilS⟩) := by kernel_rfl

/-! Steps of a region that draws its order -/
theorem step_load {P : Program} {ops : Array Oper} {o : Oper} {a : Act} {w : World} {K : Act → World → Prop} {Q : Exit → Act → World → Prop} {E : Prop} (hg : o.guard = none) (ty : TypeId) (x : Operand) (ho : o.op = .load ty x)
    (b : Nat) (hx : a.eval x = .pointer (some ⟨b, 0, none⟩)) (cs : List Value) (d : TypeDesc) (hc : w.rangeAt b 0 cs) (hu : P.underlying ty = some d) (hd : d.isRow = true) (hi : (P.info? ty).map (·.size) = some cs.length)
    (h : K (a.put o.dst (.agg cs.toArray)) w) : if Region.wanted o (yielded ops a.tmps) = true then Oper.wp P o a w K Q else E := by
  rw [if_pos (by simp [Region.wanted, hg])]
  exact wp_load_mid ty x ho b 0 hx cs d hc hu hd hi h
theorem step_load_row {P : Program} {ops : Array Oper} {o : Oper} {a : Act} {w : World} {K : Act → World → Prop} {Q : Exit → Act → World → Prop} {E : Prop} (hgd : o.guard = none) (ty : TypeId) (x : Operand) (ho : o.op = .load ty x)
    (g : Nat) (hx : a.eval x = .pointer (some ⟨g, 0, none⟩)) (t : TypeId) (cs : Array Value) (fr : Nat × Nat) (d : TypeDesc) (hg : w.heap[g]? = some (.cells cs t fr))
    (hu : P.underlying ty = some d) (hd : (match d with | .struct _ | .array _ _ => true | _ => false) = true) (hi : (P.info? ty).map (·.size) = some cs.size)
    (h : K (a.put o.dst (.agg cs)) w) : if Region.wanted o (yielded ops a.tmps) = true then Oper.wp P o a w K Q else E := by
  rw [if_pos (by simp [Region.wanted, hgd])]
  exact wp_load_row ty x ho g hx t cs fr d hg hu hd hi h
theorem step_build {P : Program} {ops : Array Oper} {o : Oper} {a : Act} {w : World} {K : Act → World → Prop} {Q : Exit → Act → World → Prop} {E : Prop} (hg : o.guard = none) (t : TypeId) (parts : Array (Nat × Operand)) (ho : o.op = .build t parts)
    (cells : Array Value) (hf : P.built t (parts.map fun (i, x) => (i, a.eval x)).toList = some cells) (h : K (a.put o.dst (.agg cells)) w) : if Region.wanted o (yielded ops a.tmps) = true then Oper.wp P o a w K Q else E := by
  rw [if_pos (by simp [Region.wanted, hg])]
  unfold Oper.wp execOp
  simp only [ho, Sem.run_bind, run_build w t _ _ hf, Result.andThen_ok]
  exact h
theorem step_store {P : Program} {ops : Array Oper} {o : Oper} {a : Act} {w : World} {K : Act → World → Prop} {Q : Exit → Act → World → Prop} {E : Prop} (hg : o.guard = none) (ty : TypeId) (x y : Operand) (ho : o.op = .store ty x y)
    (g : Nat) (cells : Array Value) (hx : a.eval x = .pointer (some ⟨g, 0, none⟩)) (hy : a.eval y = .agg cells) (t : TypeId) (old : Array Value) (hb : w.heap[g]? = some (.cells old t (0, 0))) (hi : (P.info? ty).map (·.size) = some cells.size)
    (hold : old.size = cells.size) (h1 : cells.all (·.oneCell') = true) (h : K (a.put o.dst undef) (w.setRow g cells)) : if Region.wanted o (yielded ops a.tmps) = true then Oper.wp P o a w K Q else E := by
  rw [if_pos (by simp [Region.wanted, hg])]
  unfold Oper.wp execOp
  simp only [ho, hx, hy, Instr.storeAt, Instr.sureAddr, Sem.run_bind, Sem.run_pure, Result.andThen_ok, run_storeVar_row w g t ty old cells hb hi hold h1]
  exact h
end Go.Proofs.YtjooaobmbndkfaaDoor.Hc
