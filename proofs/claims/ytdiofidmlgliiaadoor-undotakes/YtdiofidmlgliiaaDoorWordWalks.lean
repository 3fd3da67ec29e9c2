/-
  What the functions of package word return, each for every two words: word.Alu returns 'Wd.alu', word.Holds 'Wd.holds', word.Amo 'Wd.amo', and nothing in memory turns. Conditions: the words are from 0 to 2^32 - 1.
-/
import Derived.Test.YtdiofidmlgliiaaDoorRows
import Derived.Test.YtdiofidmlgliiaaDoorWord
import Derived.WalkKit
import Derived.ProofKit
import Derived.OpenShut
namespace Go.Proofs.YtdiofidmlgliiaaDoor.Ww
open Go.ChangeShapes Go.WideShapes Go.ChangeAt Go.RowKit
set_option linter.unusedVariables false

theorem ret_int {k : IntKind} {a b : Int} (h : a = b) : Ending.returned (.int k a) = .returned (.int k b) := by rw [h]
theorem ret_bool {a b : Bool} (h : a = b) : Ending.returned (.bool a) = .returned (.bool b) := by rw [h]
theorem wrap_u32' (n : Int) : IntKind.u32.wrap n = n % 4294967296 := by rfl
theorem ofInt32 (a : Nat) (ha : (a : Int) < 4294967296) : (BitVec.ofInt 32 (a : Int)).toNat = a := by
  rw [BitVec.ofInt_natCast, BitVec.toNat_ofNat]; exact Nat.mod_eq_of_lt (by omega)
theorem bits_and_u32 (a b : Int) (ha : 0 ≤ a) (ha' : a < 4294967296) (hb : 0 ≤ b) (hb' : b < 4294967296) : bits .and .u32 a b = Wd.band a b := by
  obtain ⟨a, rfl⟩ := Int.eq_ofNat_of_zero_le ha
  obtain ⟨b, rfl⟩ := Int.eq_ofNat_of_zero_le hb
  have hx : a &&& b < 2 ^ 32 := Nat.and_lt_two_pow _ (by omega)
  show IntKind.u32.wrap ((BitVec.ofInt 32 (a : Int) &&& BitVec.ofInt 32 (b : Int)).toNat : Int) = _
  rw [BitVec.toNat_and, ofInt32 a ha', ofInt32 b hb', wrap_u32']
  simp only [Wd.band, Int.toNat_natCast]
  omega
theorem bits_or_u32 (a b : Int) (ha : 0 ≤ a) (ha' : a < 4294967296) (hb : 0 ≤ b) (hb' : b < 4294967296) : bits .or .u32 a b = Wd.bor a b := by
  obtain ⟨a, rfl⟩ := Int.eq_ofNat_of_zero_le ha
  obtain ⟨b, rfl⟩ := Int.eq_ofNat_of_zero_le hb
  have hx : a ||| b < 2 ^ 32 := Nat.or_lt_two_pow (by omega) (by omega)
  show IntKind.u32.wrap ((BitVec.ofInt 32 (a : Int) ||| BitVec.ofInt 32 (b : Int)).toNat : Int) = _
  rw [BitVec.toNat_or, ofInt32 a ha', ofInt32 b hb', wrap_u32']
  simp only [Wd.bor, Int.toNat_natCast]
  omega
theorem bits_xor_u32 (a b : Int) (ha : 0 ≤ a) (ha' : a < 4294967296) (hb : 0 ≤ b) (hb' : b < 4294967296) : bits .xor .u32 a b = Wd.bxor a b := by
  obtain ⟨a, rfl⟩ := Int.eq_ofNat_of_zero_le ha
  obtain ⟨b, rfl⟩ := Int.eq_ofNat_of_zero_le hb
  have hx : a ^^^ b < 2 ^ 32 := Nat.xor_lt_two_pow (by omega) (by omega)
  show IntKind.u32.wrap ((BitVec.ofInt 32 (a : Int) ^^^ BitVec.ofInt 32 (b : Int)).toNat : Int) = _
  rw [BitVec.toNat_xor, ofInt32 a ha', ofInt32 b hb', wrap_u32']
  simp only [Wd.bxor, Int.toNat_natCast]
  omega
theorem wrap32_sg (a : Int) (ha : 0 ≤ a) (ha' : a < 4294967296) : wrap32 a = Wd.sg a := by
  unfold wrap32 Wd.sg; split <;> omega
theorem wrap32_lo (n : Int) : wrap32 n % 4294967296 = Wd.lo n := by
  unfold wrap32 Wd.lo; omega
theorem band_31 (a : Int) (ha : 0 ≤ a) : Wd.band a 31 = a % 32 := by
  unfold Wd.band
  have h : a.toNat &&& (31 : Int).toNat = a.toNat % 32 := Nat.and_two_pow_sub_one_eq_mod a.toNat 5
  rw [h]; omega
theorem upper_hi (a : Int) : IntKind.u64.wrap a / 4294967296 % 4294967296 = Wd.hi a := by
  rw [IntKind.wrap_u64]; unfold Wd.hi; omega

theorem signed_any (a : Int) (w : World) (ha : 0 ≤ a) (ha' : a < 4294967296) :
    Calls Tryd.prog 150 #[.int .u32 a] w fun e w' => e = .returned (.int .i32 (Wd.sg a)) ∧ w' = w := by
  go_enter Tryd.func150, Tryd.ntmps150
  go_wp2
  go_ret
  exact ⟨ret_int (wrap32_sg a ha ha'), rfl⟩
theorem places_any (a : Int) (w : World) (ha : 0 ≤ a) (ha' : a < 4294967296) :
    Calls Tryd.prog 152 #[.int .u32 a] w fun e w' => e = .returned (.int .u32 (a % 32)) ∧ w' = w := by
  go_enter Tryd.func152, Tryd.ntmps152
  go_wp2
  go_ret
  exact ⟨ret_int ((bits_and_u32 a 31 ha ha' (by omega) (by omega)).trans (band_31 a ha)), rfl⟩
theorem truth_any (b : Bool) (w : World) :
    Calls Tryd.prog 153 #[.bool b] w fun e w' => e = .returned (.int .u32 (Wd.tr b)) ∧ w' = w := by
  cases b
  all_goals
    go_enter Tryd.func153, Tryd.ntmps153
    go_wp2
    go_ret
    exact ⟨rfl, rfl⟩
theorem upper_any (a : Int) (w : World) (ha : -9223372036854775808 ≤ a) (ha' : a ≤ 9223372036854775807) :
    Calls Tryd.prog 154 #[.int .i64 a] w fun e w' => e = .returned (.int .u32 (Wd.hi a)) ∧ w' = w := by
  go_enter Tryd.func154, Tryd.ntmps154
  go_wp2
  go_ret
  exact ⟨ret_int (upper_hi a), rfl⟩

theorem quotient_any (a b : Int) (w : World) (ha : 0 ≤ a) (ha' : a < 4294967296) (hb : 0 ≤ b) (hb' : b < 4294967296) :
    Calls Tryd.prog 155 #[.int .u32 a, .int .u32 b] w fun e w' => e = .returned (.int .u32 (Wd.dv a b)) ∧ w' = w := by
  by_cases h0 : b = 0
  · subst h0
    go_enter Tryd.func155, Tryd.ntmps155
    go_wp2
    go_ret
    exact ⟨rfl, rfl⟩
  · have hz : ¬ Wd.sg b = 0 := fun h => h0 ((Wd.sg_zero hb hb').1 h)
    have hb0 : (b == 0) = false := by simpa using h0
    have sa := Wd.sg_bd ha ha'
    have sb := Wd.sg_bd hb hb'
    have H : Hid (Wd.dv a b = Wd.lo ((Wd.sg a).tdiv (Wd.sg b))) := (by unfold Wd.dv; rw [if_neg h0] : _ = _)
    go_enter Tryd.func155, Tryd.ntmps155
    go_wp2_with (go_at_call 150; refine (signed_any _ _ (by omega) (by omega)).mono ?_; rintro e w' ⟨rfl, rfl⟩)
    go_ret
    exact ⟨ret_int ((wrap32_lo _).trans H.out.symm), rfl⟩

theorem remainder_any (a b : Int) (w : World) (ha : 0 ≤ a) (ha' : a < 4294967296) (hb : 0 ≤ b) (hb' : b < 4294967296) :
    Calls Tryd.prog 156 #[.int .u32 a, .int .u32 b] w fun e w' => e = .returned (.int .u32 (Wd.rm a b)) ∧ w' = w := by
  by_cases h0 : b = 0
  · subst h0
    go_enter Tryd.func156, Tryd.ntmps156
    go_wp2
    go_ret
    exact ⟨rfl, rfl⟩
  · have hz : ¬ Wd.sg b = 0 := fun h => h0 ((Wd.sg_zero hb hb').1 h)
    have hb0 : (b == 0) = false := by simpa using h0
    have sa := Wd.sg_bd ha ha'
    have sb := Wd.sg_bd hb hb'
    have H : Hid (Wd.rm a b = Wd.lo ((Wd.sg a).tmod (Wd.sg b))) := (by unfold Wd.rm; rw [if_neg h0] : _ = _)
    go_enter Tryd.func156, Tryd.ntmps156
    go_wp2_with (go_at_call 150; refine (signed_any _ _ (by omega) (by omega)).mono ?_; rintro e w' ⟨rfl, rfl⟩)
    go_ret
    exact ⟨ret_int (H.out.symm), rfl⟩

theorem plainQuotient_any (a b : Int) (w : World) (ha : 0 ≤ a) (ha' : a < 4294967296) (hb : 0 ≤ b) (hb' : b < 4294967296) :
    Calls Tryd.prog 157 #[.int .u32 a, .int .u32 b] w fun e w' => e = .returned (.int .u32 (Wd.dvu a b)) ∧ w' = w := by
  by_cases h0 : b = 0
  · subst h0
    go_enter Tryd.func157, Tryd.ntmps157
    go_wp2
    go_ret
    exact ⟨rfl, rfl⟩
  · have hb0 : (b == 0) = false := by simpa using h0
    have H : Hid (Wd.dvu a b = a / b) := (by unfold Wd.dvu; rw [if_neg h0] : _ = _)
    go_enter Tryd.func157, Tryd.ntmps157
    go_wp2
    go_ret
    exact ⟨ret_int H.out.symm, rfl⟩

theorem plainRemainder_any (a b : Int) (w : World) (ha : 0 ≤ a) (ha' : a < 4294967296) (hb : 0 ≤ b) (hb' : b < 4294967296) :
    Calls Tryd.prog 158 #[.int .u32 a, .int .u32 b] w fun e w' => e = .returned (.int .u32 (Wd.rmu a b)) ∧ w' = w := by
  by_cases h0 : b = 0
  · subst h0
    go_enter Tryd.func158, Tryd.ntmps158
    go_wp2
    go_ret
    exact ⟨rfl, rfl⟩
  · have hb0 : (b == 0) = false := by simpa using h0
    have H : Hid (Wd.rmu a b = a % b) := (by unfold Wd.rmu; rw [if_neg h0] : _ = _)
    go_enter Tryd.func158, Tryd.ntmps158
    go_wp2
    go_ret
    exact ⟨ret_int H.out.symm, rfl⟩

theorem alu_28 (a b : Int) (w : World) (ha : 0 ≤ a) (ha' : a < 4294967296) (hb : 0 ≤ b) (hb' : b < 4294967296) :
    Calls Tryd.prog 139 #[.int .i64 28, .int .u32 a, .int .u32 b] w fun e w' => e = .returned (.int .u32 (Wd.alu 28 a b)) ∧ w' = w := by
  go_enter Tryd.func139, Tryd.ntmps139
  go_wp2
  go_ret
  exact ⟨ret_int (rfl), rfl⟩

theorem alu_29 (a b : Int) (w : World) (ha : 0 ≤ a) (ha' : a < 4294967296) (hb : 0 ≤ b) (hb' : b < 4294967296) :
    Calls Tryd.prog 139 #[.int .i64 29, .int .u32 a, .int .u32 b] w fun e w' => e = .returned (.int .u32 (Wd.alu 29 a b)) ∧ w' = w := by
  go_enter Tryd.func139, Tryd.ntmps139
  go_wp2
  go_ret
  exact ⟨ret_int (rfl), rfl⟩

theorem alu_37 (a b : Int) (w : World) (ha : 0 ≤ a) (ha' : a < 4294967296) (hb : 0 ≤ b) (hb' : b < 4294967296) :
    Calls Tryd.prog 139 #[.int .i64 37, .int .u32 a, .int .u32 b] w fun e w' => e = .returned (.int .u32 (Wd.alu 37 a b)) ∧ w' = w := by
  go_enter Tryd.func139, Tryd.ntmps139
  go_wp2
  go_ret
  exact ⟨ret_int (bits_and_u32 a b ha ha' hb hb'), rfl⟩

theorem alu_36 (a b : Int) (w : World) (ha : 0 ≤ a) (ha' : a < 4294967296) (hb : 0 ≤ b) (hb' : b < 4294967296) :
    Calls Tryd.prog 139 #[.int .i64 36, .int .u32 a, .int .u32 b] w fun e w' => e = .returned (.int .u32 (Wd.alu 36 a b)) ∧ w' = w := by
  go_enter Tryd.func139, Tryd.ntmps139
  go_wp2
  go_ret
  exact ⟨ret_int (bits_or_u32 a b ha ha' hb hb'), rfl⟩

theorem alu_33 (a b : Int) (w : World) (ha : 0 ≤ a) (ha' : a < 4294967296) (hb : 0 ≤ b) (hb' : b < 4294967296) :
    Calls Tryd.prog 139 #[.int .i64 33, .int .u32 a, .int .u32 b] w fun e w' => e = .returned (.int .u32 (Wd.alu 33 a b)) ∧ w' = w := by
  go_enter Tryd.func139, Tryd.ntmps139
  go_wp2
  go_ret
  exact ⟨ret_int (bits_xor_u32 a b ha ha' hb hb'), rfl⟩

theorem alu_30 (a b : Int) (w : World) (ha : 0 ≤ a) (ha' : a < 4294967296) (hb : 0 ≤ b) (hb' : b < 4294967296) :
    Calls Tryd.prog 139 #[.int .i64 30, .int .u32 a, .int .u32 b] w fun e w' => e = .returned (.int .u32 (Wd.alu 30 a b)) ∧ w' = w := by
  go_enter Tryd.func139, Tryd.ntmps139
  go_wp2_with (go_at_call 152; refine (places_any _ _ (by omega) (by omega)).mono ?_; rintro e w' ⟨rfl, rfl⟩)
  go_ret
  exact ⟨ret_int (rfl), rfl⟩

theorem alu_34 (a b : Int) (w : World) (ha : 0 ≤ a) (ha' : a < 4294967296) (hb : 0 ≤ b) (hb' : b < 4294967296) :
    Calls Tryd.prog 139 #[.int .i64 34, .int .u32 a, .int .u32 b] w fun e w' => e = .returned (.int .u32 (Wd.alu 34 a b)) ∧ w' = w := by
  go_enter Tryd.func139, Tryd.ntmps139
  go_wp2_with (go_at_call 152; refine (places_any _ _ (by omega) (by omega)).mono ?_; rintro e w' ⟨rfl, rfl⟩)
  go_ret
  exact ⟨ret_int (rfl), rfl⟩

theorem alu_35 (a b : Int) (w : World) (ha : 0 ≤ a) (ha' : a < 4294967296) (hb : 0 ≤ b) (hb' : b < 4294967296) :
    Calls Tryd.prog 139 #[.int .i64 35, .int .u32 a, .int .u32 b] w fun e w' => e = .returned (.int .u32 (Wd.alu 35 a b)) ∧ w' = w := by
  go_enter Tryd.func139, Tryd.ntmps139
  go_wp2_with (first | (go_at_call 150; refine (signed_any _ _ (by omega) (by omega)).mono ?_; rintro e w' ⟨rfl, rfl⟩) | (go_at_call 152; refine (places_any _ _ (by omega) (by omega)).mono ?_; rintro e w' ⟨rfl, rfl⟩))
  go_ret
  exact ⟨ret_int (rfl), rfl⟩

theorem alu_31 (a b : Int) (w : World) (ha : 0 ≤ a) (ha' : a < 4294967296) (hb : 0 ≤ b) (hb' : b < 4294967296) :
    Calls Tryd.prog 139 #[.int .i64 31, .int .u32 a, .int .u32 b] w fun e w' => e = .returned (.int .u32 (Wd.alu 31 a b)) ∧ w' = w := by
  go_enter Tryd.func139, Tryd.ntmps139
  go_wp2_with (first | (go_at_call 150; refine (signed_any _ _ (by omega) (by omega)).mono ?_; rintro e w' ⟨rfl, rfl⟩) | (go_at_call 153; refine (truth_any _ _).mono ?_; rintro e w' ⟨rfl, rfl⟩))
  go_ret
  exact ⟨ret_int (rfl), rfl⟩

theorem alu_32 (a b : Int) (w : World) (ha : 0 ≤ a) (ha' : a < 4294967296) (hb : 0 ≤ b) (hb' : b < 4294967296) :
    Calls Tryd.prog 139 #[.int .i64 32, .int .u32 a, .int .u32 b] w fun e w' => e = .returned (.int .u32 (Wd.alu 32 a b)) ∧ w' = w := by
  go_enter Tryd.func139, Tryd.ntmps139
  go_wp2_with (go_at_call 153; refine (truth_any _ _).mono ?_; rintro e w' ⟨rfl, rfl⟩)
  go_ret
  exact ⟨ret_int (rfl), rfl⟩

theorem alu_38 (a b : Int) (w : World) (ha : 0 ≤ a) (ha' : a < 4294967296) (hb : 0 ≤ b) (hb' : b < 4294967296) :
    Calls Tryd.prog 139 #[.int .i64 38, .int .u32 a, .int .u32 b] w fun e w' => e = .returned (.int .u32 (Wd.alu 38 a b)) ∧ w' = w := by
  go_enter Tryd.func139, Tryd.ntmps139
  go_wp2
  go_ret
  exact ⟨ret_int (rfl), rfl⟩

theorem alu_39 (a b : Int) (w : World) (ha : 0 ≤ a) (ha' : a < 4294967296) (hb : 0 ≤ b) (hb' : b < 4294967296) :
    Calls Tryd.prog 139 #[.int .i64 39, .int .u32 a, .int .u32 b] w fun e w' => e = .returned (.int .u32 (Wd.alu 39 a b)) ∧ w' = w := by
  have sa := Wd.sg_bd ha ha'
  have sb := Wd.sg_bd hb hb'
  have mb := Wd.mul_bd (x := Wd.sg a) (y := Wd.sg b) (by omega) (by omega) (by omega) (by omega)
  go_enter Tryd.func139, Tryd.ntmps139
  go_wp2_with (first | (go_at_call 150; refine (signed_any _ _ (by omega) (by omega)).mono ?_; rintro e w' ⟨rfl, rfl⟩) | (go_at_call 154; refine (upper_any _ _ (by omega) (by omega)).mono ?_; rintro e w' ⟨rfl, rfl⟩))
  go_ret
  exact ⟨ret_int (rfl), rfl⟩

theorem alu_40 (a b : Int) (w : World) (ha : 0 ≤ a) (ha' : a < 4294967296) (hb : 0 ≤ b) (hb' : b < 4294967296) :
    Calls Tryd.prog 139 #[.int .i64 40, .int .u32 a, .int .u32 b] w fun e w' => e = .returned (.int .u32 (Wd.alu 40 a b)) ∧ w' = w := by
  have sa := Wd.sg_bd ha ha'
  have sb := Wd.sg_bd hb hb'
  have mb := Wd.mul_bd (x := Wd.sg a) (y := b) (by omega) (by omega) (by omega) (by omega)
  go_enter Tryd.func139, Tryd.ntmps139
  go_wp2_with (first | (go_at_call 150; refine (signed_any _ _ (by omega) (by omega)).mono ?_; rintro e w' ⟨rfl, rfl⟩) | (go_at_call 154; refine (upper_any _ _ (by omega) (by omega)).mono ?_; rintro e w' ⟨rfl, rfl⟩))
  go_ret
  exact ⟨ret_int (rfl), rfl⟩

theorem alu_41 (a b : Int) (w : World) (ha : 0 ≤ a) (ha' : a < 4294967296) (hb : 0 ≤ b) (hb' : b < 4294967296) :
    Calls Tryd.prog 139 #[.int .i64 41, .int .u32 a, .int .u32 b] w fun e w' => e = .returned (.int .u32 (Wd.alu 41 a b)) ∧ w' = w := by
  have mb := Wd.mulu_bd ha ha' hb hb'
  go_enter Tryd.func139, Tryd.ntmps139
  go_wp2
  go_ret
  exact ⟨ret_int (by show _ = Wd.hi (a * b); unfold Wd.hi; omega), rfl⟩

theorem alu_42 (a b : Int) (w : World) (ha : 0 ≤ a) (ha' : a < 4294967296) (hb : 0 ≤ b) (hb' : b < 4294967296) :
    Calls Tryd.prog 139 #[.int .i64 42, .int .u32 a, .int .u32 b] w fun e w' => e = .returned (.int .u32 (Wd.alu 42 a b)) ∧ w' = w := by
  go_enter Tryd.func139, Tryd.ntmps139
  go_wp2_with (go_at_call 155; refine (quotient_any _ _ _ (by omega) (by omega) (by omega) (by omega)).mono ?_; rintro e w' ⟨rfl, rfl⟩)
  go_ret
  exact ⟨ret_int (rfl), rfl⟩

theorem alu_44 (a b : Int) (w : World) (ha : 0 ≤ a) (ha' : a < 4294967296) (hb : 0 ≤ b) (hb' : b < 4294967296) :
    Calls Tryd.prog 139 #[.int .i64 44, .int .u32 a, .int .u32 b] w fun e w' => e = .returned (.int .u32 (Wd.alu 44 a b)) ∧ w' = w := by
  go_enter Tryd.func139, Tryd.ntmps139
  go_wp2_with (go_at_call 156; refine (remainder_any _ _ _ (by omega) (by omega) (by omega) (by omega)).mono ?_; rintro e w' ⟨rfl, rfl⟩)
  go_ret
  exact ⟨ret_int (rfl), rfl⟩

theorem alu_43 (a b : Int) (w : World) (ha : 0 ≤ a) (ha' : a < 4294967296) (hb : 0 ≤ b) (hb' : b < 4294967296) :
    Calls Tryd.prog 139 #[.int .i64 43, .int .u32 a, .int .u32 b] w fun e w' => e = .returned (.int .u32 (Wd.alu 43 a b)) ∧ w' = w := by
  go_enter Tryd.func139, Tryd.ntmps139
  go_wp2_with (go_at_call 157; refine (plainQuotient_any _ _ _ (by omega) (by omega) (by omega) (by omega)).mono ?_; rintro e w' ⟨rfl, rfl⟩)
  go_ret
  exact ⟨ret_int (rfl), rfl⟩

theorem alu_45 (a b : Int) (w : World) (ha : 0 ≤ a) (ha' : a < 4294967296) (hb : 0 ≤ b) (hb' : b < 4294967296) :
    Calls Tryd.prog 139 #[.int .i64 45, .int .u32 a, .int .u32 b] w fun e w' => e = .returned (.int .u32 (Wd.alu 45 a b)) ∧ w' = w := by
  go_enter Tryd.func139, Tryd.ntmps139
  go_wp2_with (go_at_call 158; refine (plainRemainder_any _ _ _ (by omega) (by omega) (by omega) (by omega)).mono ?_; rintro e w' ⟨rfl, rfl⟩)
  go_ret
  exact ⟨ret_int (rfl), rfl⟩

theorem alu_any (op a b : Int) (w : World) (ha : 0 ≤ a) (ha' : a < 4294967296) (hb : 0 ≤ b) (hb' : b < 4294967296) :
    Calls Tryd.prog 139 #[.int .i64 op, .int .u32 a, .int .u32 b] w fun e w' => e = .returned (.int .u32 (Wd.alu op a b)) ∧ w' = w := by
  by_cases h28 : op = 28
  · subst h28; exact alu_28 a b w ha ha' hb hb'
  by_cases h29 : op = 29
  · subst h29; exact alu_29 a b w ha ha' hb hb'
  by_cases h37 : op = 37
  · subst h37; exact alu_37 a b w ha ha' hb hb'
  by_cases h36 : op = 36
  · subst h36; exact alu_36 a b w ha ha' hb hb'
  by_cases h33 : op = 33
  · subst h33; exact alu_33 a b w ha ha' hb hb'
  by_cases h30 : op = 30
  · subst h30; exact alu_30 a b w ha ha' hb hb'
  by_cases h34 : op = 34
  · subst h34; exact alu_34 a b w ha ha' hb hb'
  by_cases h35 : op = 35
  · subst h35; exact alu_35 a b w ha ha' hb hb'
  by_cases h31 : op = 31
  · subst h31; exact alu_31 a b w ha ha' hb hb'
  by_cases h32 : op = 32
  · subst h32; exact alu_32 a b w ha ha' hb hb'
  by_cases h38 : op = 38
  · subst h38; exact alu_38 a b w ha ha' hb hb'
  by_cases h39 : op = 39
  · subst h39; exact alu_39 a b w ha ha' hb hb'
  by_cases h40 : op = 40
  · subst h40; exact alu_40 a b w ha ha' hb hb'
  by_cases h41 : op = 41
  · subst h41; exact alu_41 a b w ha ha' hb hb'
  by_cases h42 : op = 42
  · subst h42; exact alu_42 a b w ha ha' hb hb'
  by_cases h44 : op = 44
  · subst h44; exact alu_44 a b w ha ha' hb hb'
  by_cases h43 : op = 43
  · subst h43; exact alu_43 a b w ha ha' hb hb'
  by_cases h45 : op = 45
  · subst h45; exact alu_45 a b w ha ha' hb hb'
  have H : Hid (Wd.alu op a b = 0) := (by unfold Wd.alu; rw [if_neg h28, if_neg h29, if_neg h37, if_neg h36, if_neg h33, if_neg h30, if_neg h34, if_neg h35, if_neg h31, if_neg h32, if_neg h38, if_neg h39, if_neg h40, if_neg h41, if_neg h42, if_neg h44, if_neg h43, if_neg h45] : _ = _)
  replace h28 : (op == 28) = false := beq_eq_false_iff_ne.2 h28
  replace h29 : (op == 29) = false := beq_eq_false_iff_ne.2 h29
  replace h37 : (op == 37) = false := beq_eq_false_iff_ne.2 h37
  replace h36 : (op == 36) = false := beq_eq_false_iff_ne.2 h36
  replace h33 : (op == 33) = false := beq_eq_false_iff_ne.2 h33
  replace h30 : (op == 30) = false := beq_eq_false_iff_ne.2 h30
  replace h34 : (op == 34) = false := beq_eq_false_iff_ne.2 h34
  replace h35 : (op == 35) = false := beq_eq_false_iff_ne.2 h35
  replace h31 : (op == 31) = false := beq_eq_false_iff_ne.2 h31
  replace h32 : (op == 32) = false := beq_eq_false_iff_ne.2 h32
  replace h38 : (op == 38) = false := beq_eq_false_iff_ne.2 h38
  replace h39 : (op == 39) = false := beq_eq_false_iff_ne.2 h39
  replace h40 : (op == 40) = false := beq_eq_false_iff_ne.2 h40
  replace h41 : (op == 41) = false := beq_eq_false_iff_ne.2 h41
  replace h42 : (op == 42) = false := beq_eq_false_iff_ne.2 h42
  replace h44 : (op == 44) = false := beq_eq_false_iff_ne.2 h44
  replace h43 : (op == 43) = false := beq_eq_false_iff_ne.2 h43
  replace h45 : (op == 45) = false := beq_eq_false_iff_ne.2 h45
  go_enter Tryd.func139, Tryd.ntmps139
  go_wp2
  go_ret
  exact ⟨ret_int H.out.symm, rfl⟩

theorem holds_5 (a b : Int) (w : World) (ha : 0 ≤ a) (ha' : a < 4294967296) (hb : 0 ≤ b) (hb' : b < 4294967296) :
    Calls Tryd.prog 136 #[.int .i64 5, .int .u32 a, .int .u32 b] w fun e w' => e = .returned (.bool (Wd.holds 5 a b)) ∧ w' = w := by
  go_enter Tryd.func136, Tryd.ntmps136
  go_wp2_with (go_at_call 150; refine (signed_any _ _ (by omega) (by omega)).mono ?_; rintro e w' ⟨rfl, rfl⟩)
  go_ret
  exact ⟨ret_bool (rfl), rfl⟩

theorem holds_6 (a b : Int) (w : World) (ha : 0 ≤ a) (ha' : a < 4294967296) (hb : 0 ≤ b) (hb' : b < 4294967296) :
    Calls Tryd.prog 136 #[.int .i64 6, .int .u32 a, .int .u32 b] w fun e w' => e = .returned (.bool (Wd.holds 6 a b)) ∧ w' = w := by
  go_enter Tryd.func136, Tryd.ntmps136
  go_wp2_with (go_at_call 150; refine (signed_any _ _ (by omega) (by omega)).mono ?_; rintro e w' ⟨rfl, rfl⟩)
  go_ret
  exact ⟨ret_bool (by show (a != b) = decide (a ≠ b); rw [Bool.eq_iff_iff]; simp), rfl⟩

theorem holds_7 (a b : Int) (w : World) (ha : 0 ≤ a) (ha' : a < 4294967296) (hb : 0 ≤ b) (hb' : b < 4294967296) :
    Calls Tryd.prog 136 #[.int .i64 7, .int .u32 a, .int .u32 b] w fun e w' => e = .returned (.bool (Wd.holds 7 a b)) ∧ w' = w := by
  go_enter Tryd.func136, Tryd.ntmps136
  go_wp2_with (go_at_call 150; refine (signed_any _ _ (by omega) (by omega)).mono ?_; rintro e w' ⟨rfl, rfl⟩)
  go_ret
  exact ⟨ret_bool (rfl), rfl⟩

theorem holds_8 (a b : Int) (w : World) (ha : 0 ≤ a) (ha' : a < 4294967296) (hb : 0 ≤ b) (hb' : b < 4294967296) :
    Calls Tryd.prog 136 #[.int .i64 8, .int .u32 a, .int .u32 b] w fun e w' => e = .returned (.bool (Wd.holds 8 a b)) ∧ w' = w := by
  go_enter Tryd.func136, Tryd.ntmps136
  go_wp2_with (go_at_call 150; refine (signed_any _ _ (by omega) (by omega)).mono ?_; rintro e w' ⟨rfl, rfl⟩)
  go_ret
  exact ⟨ret_bool (rfl), rfl⟩

theorem holds_9 (a b : Int) (w : World) (ha : 0 ≤ a) (ha' : a < 4294967296) (hb : 0 ≤ b) (hb' : b < 4294967296) :
    Calls Tryd.prog 136 #[.int .i64 9, .int .u32 a, .int .u32 b] w fun e w' => e = .returned (.bool (Wd.holds 9 a b)) ∧ w' = w := by
  go_enter Tryd.func136, Tryd.ntmps136
  go_wp2_with (go_at_call 150; refine (signed_any _ _ (by omega) (by omega)).mono ?_; rintro e w' ⟨rfl, rfl⟩)
  go_ret
  exact ⟨ret_bool (rfl), rfl⟩

theorem holds_10 (a b : Int) (w : World) (ha : 0 ≤ a) (ha' : a < 4294967296) (hb : 0 ≤ b) (hb' : b < 4294967296) :
    Calls Tryd.prog 136 #[.int .i64 10, .int .u32 a, .int .u32 b] w fun e w' => e = .returned (.bool (Wd.holds 10 a b)) ∧ w' = w := by
  go_enter Tryd.func136, Tryd.ntmps136
  go_wp2_with (go_at_call 150; refine (signed_any _ _ (by omega) (by omega)).mono ?_; rintro e w' ⟨rfl, rfl⟩)
  go_ret
  exact ⟨ret_bool (rfl), rfl⟩

theorem holds_any (op a b : Int) (w : World) (ha : 0 ≤ a) (ha' : a < 4294967296) (hb : 0 ≤ b) (hb' : b < 4294967296) :
    Calls Tryd.prog 136 #[.int .i64 op, .int .u32 a, .int .u32 b] w fun e w' => e = .returned (.bool (Wd.holds op a b)) ∧ w' = w := by
  by_cases h5 : op = 5
  · subst h5; exact holds_5 a b w ha ha' hb hb'
  by_cases h6 : op = 6
  · subst h6; exact holds_6 a b w ha ha' hb hb'
  by_cases h7 : op = 7
  · subst h7; exact holds_7 a b w ha ha' hb hb'
  by_cases h8 : op = 8
  · subst h8; exact holds_8 a b w ha ha' hb hb'
  by_cases h9 : op = 9
  · subst h9; exact holds_9 a b w ha ha' hb hb'
  by_cases h10 : op = 10
  · subst h10; exact holds_10 a b w ha ha' hb hb'
  have H : Hid (Wd.holds op a b = false) := (by unfold Wd.holds; rw [if_neg h5, if_neg h6, if_neg h7, if_neg h8, if_neg h9, if_neg h10] : _ = _)
  replace h5 : (op == 5) = false := beq_eq_false_iff_ne.2 h5
  replace h6 : (op == 6) = false := beq_eq_false_iff_ne.2 h6
  replace h7 : (op == 7) = false := beq_eq_false_iff_ne.2 h7
  replace h8 : (op == 8) = false := beq_eq_false_iff_ne.2 h8
  replace h9 : (op == 9) = false := beq_eq_false_iff_ne.2 h9
  replace h10 : (op == 10) = false := beq_eq_false_iff_ne.2 h10
  go_enter Tryd.func136, Tryd.ntmps136
  go_wp2
  go_ret
  exact ⟨ret_bool H.out.symm, rfl⟩

theorem amo_48 (a b : Int) (w : World) (ha : 0 ≤ a) (ha' : a < 4294967296) (hb : 0 ≤ b) (hb' : b < 4294967296) :
    Calls Tryd.prog 161 #[.int .i64 48, .int .u32 a, .int .u32 b] w fun e w' => e = .returned (.int .u32 (Wd.amo 48 a b)) ∧ w' = w := by
  go_enter Tryd.func161, Tryd.ntmps161
  go_wp2_with fail
  go_ret
  exact ⟨ret_int (rfl), rfl⟩

theorem amo_49 (a b : Int) (w : World) (ha : 0 ≤ a) (ha' : a < 4294967296) (hb : 0 ≤ b) (hb' : b < 4294967296) :
    Calls Tryd.prog 161 #[.int .i64 49, .int .u32 a, .int .u32 b] w fun e w' => e = .returned (.int .u32 (Wd.amo 49 a b)) ∧ w' = w := by
  go_enter Tryd.func161, Tryd.ntmps161
  go_wp2_with (go_at_call 139; refine (alu_any _ _ _ _ (by omega) (by omega) (by omega) (by omega)).mono ?_; rintro e w' ⟨rfl, rfl⟩)
  go_ret
  exact ⟨ret_int (rfl), rfl⟩

theorem amo_50 (a b : Int) (w : World) (ha : 0 ≤ a) (ha' : a < 4294967296) (hb : 0 ≤ b) (hb' : b < 4294967296) :
    Calls Tryd.prog 161 #[.int .i64 50, .int .u32 a, .int .u32 b] w fun e w' => e = .returned (.int .u32 (Wd.amo 50 a b)) ∧ w' = w := by
  go_enter Tryd.func161, Tryd.ntmps161
  go_wp2_with (go_at_call 139; refine (alu_any _ _ _ _ (by omega) (by omega) (by omega) (by omega)).mono ?_; rintro e w' ⟨rfl, rfl⟩)
  go_ret
  exact ⟨ret_int (rfl), rfl⟩

theorem amo_51 (a b : Int) (w : World) (ha : 0 ≤ a) (ha' : a < 4294967296) (hb : 0 ≤ b) (hb' : b < 4294967296) :
    Calls Tryd.prog 161 #[.int .i64 51, .int .u32 a, .int .u32 b] w fun e w' => e = .returned (.int .u32 (Wd.amo 51 a b)) ∧ w' = w := by
  go_enter Tryd.func161, Tryd.ntmps161
  go_wp2_with (go_at_call 139; refine (alu_any _ _ _ _ (by omega) (by omega) (by omega) (by omega)).mono ?_; rintro e w' ⟨rfl, rfl⟩)
  go_ret
  exact ⟨ret_int (rfl), rfl⟩

theorem amo_52 (a b : Int) (w : World) (ha : 0 ≤ a) (ha' : a < 4294967296) (hb : 0 ≤ b) (hb' : b < 4294967296) :
    Calls Tryd.prog 161 #[.int .i64 52, .int .u32 a, .int .u32 b] w fun e w' => e = .returned (.int .u32 (Wd.amo 52 a b)) ∧ w' = w := by
  go_enter Tryd.func161, Tryd.ntmps161
  go_wp2_with (go_at_call 139; refine (alu_any _ _ _ _ (by omega) (by omega) (by omega) (by omega)).mono ?_; rintro e w' ⟨rfl, rfl⟩)
  go_ret
  exact ⟨ret_int (rfl), rfl⟩

theorem amo_53 (a b : Int) (w : World) (ha : 0 ≤ a) (ha' : a < 4294967296) (hb : 0 ≤ b) (hb' : b < 4294967296) :
    Calls Tryd.prog 161 #[.int .i64 53, .int .u32 a, .int .u32 b] w fun e w' => e = .returned (.int .u32 (Wd.amo 53 a b)) ∧ w' = w := by
  have la : Hid (Wd.sg a % 4294967296 = a) := Wd.sg_lo ha ha'
  have lb : Hid (Wd.sg b % 4294967296 = b) := Wd.sg_lo hb hb'
  go_enter Tryd.func161, Tryd.ntmps161
  go_wp2_with (go_at_call 150; refine (signed_any _ _ (by omega) (by omega)).mono ?_; rintro e w' ⟨rfl, rfl⟩)
  all_goals
    go_ret
    exact ⟨ret_int (by have := la.out; have := lb.out; show _ = (if Wd.sg a < Wd.sg b then a else b); split <;> omega), rfl⟩

theorem amo_54 (a b : Int) (w : World) (ha : 0 ≤ a) (ha' : a < 4294967296) (hb : 0 ≤ b) (hb' : b < 4294967296) :
    Calls Tryd.prog 161 #[.int .i64 54, .int .u32 a, .int .u32 b] w fun e w' => e = .returned (.int .u32 (Wd.amo 54 a b)) ∧ w' = w := by
  have la : Hid (Wd.sg a % 4294967296 = a) := Wd.sg_lo ha ha'
  have lb : Hid (Wd.sg b % 4294967296 = b) := Wd.sg_lo hb hb'
  go_enter Tryd.func161, Tryd.ntmps161
  go_wp2_with (go_at_call 150; refine (signed_any _ _ (by omega) (by omega)).mono ?_; rintro e w' ⟨rfl, rfl⟩)
  all_goals
    go_ret
    exact ⟨ret_int (by have := la.out; have := lb.out; show _ = (if Wd.sg a < Wd.sg b then b else a); split <;> omega), rfl⟩

theorem amo_55 (a b : Int) (w : World) (ha : 0 ≤ a) (ha' : a < 4294967296) (hb : 0 ≤ b) (hb' : b < 4294967296) :
    Calls Tryd.prog 161 #[.int .i64 55, .int .u32 a, .int .u32 b] w fun e w' => e = .returned (.int .u32 (Wd.amo 55 a b)) ∧ w' = w := by
  have la : Hid (Wd.sg a % 4294967296 = a) := Wd.sg_lo ha ha'
  have lb : Hid (Wd.sg b % 4294967296 = b) := Wd.sg_lo hb hb'
  go_enter Tryd.func161, Tryd.ntmps161
  go_wp2_with (go_at_call 150; refine (signed_any _ _ (by omega) (by omega)).mono ?_; rintro e w' ⟨rfl, rfl⟩)
  all_goals
    go_ret
    exact ⟨ret_int (by have := la.out; have := lb.out; show _ = (if a < b then a else b); split <;> omega), rfl⟩

theorem amo_56 (a b : Int) (w : World) (ha : 0 ≤ a) (ha' : a < 4294967296) (hb : 0 ≤ b) (hb' : b < 4294967296) :
    Calls Tryd.prog 161 #[.int .i64 56, .int .u32 a, .int .u32 b] w fun e w' => e = .returned (.int .u32 (Wd.amo 56 a b)) ∧ w' = w := by
  have la : Hid (Wd.sg a % 4294967296 = a) := Wd.sg_lo ha ha'
  have lb : Hid (Wd.sg b % 4294967296 = b) := Wd.sg_lo hb hb'
  go_enter Tryd.func161, Tryd.ntmps161
  go_wp2_with (go_at_call 150; refine (signed_any _ _ (by omega) (by omega)).mono ?_; rintro e w' ⟨rfl, rfl⟩)
  all_goals
    go_ret
    exact ⟨ret_int (by have := la.out; have := lb.out; show _ = (if a < b then b else a); split <;> omega), rfl⟩

theorem amo_any (op a b : Int) (w : World) (ha : 0 ≤ a) (ha' : a < 4294967296) (hb : 0 ≤ b) (hb' : b < 4294967296) :
    Calls Tryd.prog 161 #[.int .i64 op, .int .u32 a, .int .u32 b] w fun e w' => e = .returned (.int .u32 (Wd.amo op a b)) ∧ w' = w := by
  by_cases h48 : op = 48
  · subst h48; exact amo_48 a b w ha ha' hb hb'
  by_cases h49 : op = 49
  · subst h49; exact amo_49 a b w ha ha' hb hb'
  by_cases h50 : op = 50
  · subst h50; exact amo_50 a b w ha ha' hb hb'
  by_cases h51 : op = 51
  · subst h51; exact amo_51 a b w ha ha' hb hb'
  by_cases h52 : op = 52
  · subst h52; exact amo_52 a b w ha ha' hb hb'
  by_cases h53 : op = 53
  · subst h53; exact amo_53 a b w ha ha' hb hb'
  by_cases h54 : op = 54
  · subst h54; exact amo_54 a b w ha ha' hb hb'
  by_cases h55 : op = 55
  · subst h55; exact amo_55 a b w ha ha' hb hb'
  by_cases h56 : op = 56
  · subst h56; exact amo_56 a b w ha ha' hb hb'
  have H : Hid (Wd.amo op a b = 0) := (by unfold Wd.amo; rw [if_neg h48, if_neg h49, if_neg h50, if_neg h51, if_neg h52, if_neg h53, if_neg h54, if_neg h55, if_neg h56] : _ = _)
  replace h48 : (op == 48) = false := beq_eq_false_iff_ne.2 h48
  replace h49 : (op == 49) = false := beq_eq_false_iff_ne.2 h49
  replace h50 : (op == 50) = false := beq_eq_false_iff_ne.2 h50
  replace h51 : (op == 51) = false := beq_eq_false_iff_ne.2 h51
  replace h52 : (op == 52) = false := beq_eq_false_iff_ne.2 h52
  replace h53 : (op == 53) = false := beq_eq_false_iff_ne.2 h53
  replace h54 : (op == 54) = false := beq_eq_false_iff_ne.2 h54
  replace h55 : (op == 55) = false := beq_eq_false_iff_ne.2 h55
  replace h56 : (op == 56) = false := beq_eq_false_iff_ne.2 h56
  go_enter Tryd.func161, Tryd.ntmps161
  go_wp2
  go_ret
  exact ⟨ret_int H.out.symm, rfl⟩

end Go.Proofs.YtdiofidmlgliiaaDoor.Ww
