/-
  What the functions of package ferrybridgeref1 return, each for every two words: Alu returns 'Wd.alu', Holds 'Wd.holds', Amo 'Wd.amo', and nothing in memory turns. Conditions: the words are from 0 to 2^32 - 1.
-/
import Derived.Test.YtdiofidmlgliiaaDoorRows
import Derived.Test.YtdiofidmlgliiaaDoorWord
import Derived.WalkKit
import Derived.ProofKit
import Derived.OpenShut
namespace Go.Proofs.YtdiofidmlgliiaaDoor.Rw
open Go.ChangeShapes Go.WideShapes Go.ChangeAt Go.RowKit
set_option linter.unusedVariables false

theorem ret_int {k : IntKind} {a b : Int} (h : a = b) : Ending.returned (.int k a) = .returned (.int k b) := by rw [h]
theorem ret_bool {a b : Bool} (h : a = b) : Ending.returned (.bool a) = .returned (.bool b) := by rw [h]

theorem Signed_any (a : Int) (w : World) (ha : 0 ≤ a) (ha' : a < 4294967296) :
    Calls Tryd.prog 92 #[.int .u32 a] w fun e w' => e = .returned (.int .i64 (Wd.sg a)) ∧ w' = w := by
  by_cases h : a < 2147483648
  · have H : Hid (Wd.sg a = a) := (if_pos h : Wd.sg a = a)
    go_enter Tryd.func92, Tryd.ntmps92
    go_wp2
    go_ret
    exact ⟨ret_int H.out.symm, rfl⟩
  · have H : Hid (Wd.sg a = a - 4294967296) := (if_neg h : Wd.sg a = _)
    go_enter Tryd.func92, Tryd.ntmps92
    go_wp2
    go_ret
    exact ⟨ret_int H.out.symm, rfl⟩

theorem of_neg (n r : Int) (e : n.tmod 4294967296 = r) (h : r < 0) : r + 4294967296 = Wd.lo n ∧ -4294967296 < r := by
  unfold Wd.lo
  have h1 := Int.tmod_eq_emod (a := n) (b := 4294967296)
  split at h1 <;> omega
theorem of_pos (n r : Int) (e : n.tmod 4294967296 = r) (h : ¬ r < 0) : r = Wd.lo n := by
  unfold Wd.lo
  have h1 := Int.tmod_eq_emod (a := n) (b := 4294967296)
  split at h1 <;> omega
theorem Of_any (n : Int) (w : World) (hn : -9223372036854775808 ≤ n) (hn' : n ≤ 9223372036854775807) :
    Calls Tryd.prog 61 #[.int .i64 n] w fun e w' => e = .returned (.int .u32 (Wd.lo n)) ∧ w' = w := by
  obtain ⟨l0, l1⟩ := Wd.lo_bd n
  by_cases h : n.tmod 4294967296 < 0
  · have e := of_neg n _ rfl h
    have H : Hid _ := e.1
    have e2 := e.2
    clear e
    go_enter Tryd.func61, Tryd.ntmps61
    go_wp2
    go_ret
    exact ⟨ret_int H.out, rfl⟩
  · have H : Hid (n.tmod 4294967296 = Wd.lo n) := of_pos n _ rfl h
    go_enter Tryd.func61, Tryd.ntmps61
    go_wp2
    go_ret
    exact ⟨ret_int (by have := H.out; omega), rfl⟩

theorem Power_any (n : Nat) (w : World) (hn : n ≤ 32) :
    Calls Tryd.prog 96 #[.int .i64 n] w fun e w' => e = .returned (.int .i64 ((2 ^ n : Nat) : Int)) ∧ w' = w := by
  go_enter Tryd.func96, Tryd.ntmps96
  go_wp2
  go_loop [3, 4] (fun p i => ∃ k : Nat, k ≤ n ∧ i = .int .i64 k ∧ p = .int .i64 ((2 ^ k : Nat) : Int)) (fun _ i => n - (intOf i).toNat)
  case atStart => exact ⟨0, Nat.zero_le _, rfl, rfl⟩
  case round =>
    obtain ⟨k, hk, rfl, rfl⟩ := hrel
    by_cases hlt : k < n
    · have h2 : 2 ^ k ≤ 2 ^ 32 := Nat.pow_le_pow_right (by omega) (by omega)
      have HS : Hid (2 ^ (k + 1) = 2 ^ k + 2 ^ k) := (by rw [Nat.pow_succ]; omega : 2 ^ (k + 1) = _)
      generalize 2 ^ k = P at *
      go_wp2
      go_round
      case rel => exact ⟨k + 1, by omega, by go_num, by rw [HS.out]; go_num⟩
      case measure => simp [intOf]; omega
    · obtain rfl : k = n := by omega
      go_wp2
      go_ret
      exact ⟨rfl, rfl⟩

theorem floor_neg (a b r : Int) (hb : 0 < b) (e : a.tmod b = r) (h : r < 0) : (a - (r + b)).tdiv b = a / b := by
  have h1 := Int.tmod_eq_emod (a := a) (b := b)
  have h2 := Int.emod_lt_of_pos a hb
  have h3 := Int.emod_nonneg a (Int.ne_of_gt hb)
  have h4 : r + b = a % b := by
    split at h1
    · omega
    · have : (b.natAbs : Int) = b := Int.natAbs_of_nonneg (Int.le_of_lt hb)
      omega
  rw [h4]
  have h5 : a - a % b = b * (a / b) := by have := Int.mul_ediv_add_emod a b; omega
  rw [h5, Int.mul_tdiv_cancel_left _ (Int.ne_of_gt hb)]
theorem floor_pos (a b r : Int) (hb : 0 < b) (e : a.tmod b = r) (h : ¬ r < 0) : (a - r).tdiv b = a / b := by
  have h1 := Int.tmod_eq_emod (a := a) (b := b)
  have h2 := Int.emod_lt_of_pos a hb
  have h4 : r = a % b := by
    split at h1
    · omega
    · have : (b.natAbs : Int) = b := Int.natAbs_of_nonneg (Int.le_of_lt hb)
      omega
  rw [h4]
  have h5 : a - a % b = b * (a / b) := by have := Int.mul_ediv_add_emod a b; omega
  rw [h5, Int.mul_tdiv_cancel_left _ (Int.ne_of_gt hb)]
theorem floor_any (a b : Int) (w : World) (hb : 0 < b) (hb' : b ≤ 4294967296) (ha : -9223372000000000000 ≤ a) (ha' : a ≤ 9223372000000000000) :
    Calls Tryd.prog 97 #[.int .i64 a, .int .i64 b] w fun e w' => e = .returned (.int .i64 (a / b)) ∧ w' = w := by
  have r1 : a.tmod b < b := Int.tmod_lt_of_pos a hb
  have r2 : -b < a.tmod b := by
    have := Int.lt_tmod_of_pos a hb
    omega
  by_cases h : a.tmod b < 0
  · have H : Hid ((a - (a.tmod b + b)).tdiv b = a / b) := floor_neg a b _ hb rfl h
    go_enter Tryd.func97, Tryd.ntmps97
    go_wp2
    go_ret
    exact ⟨ret_int H.out, rfl⟩
  · have H : Hid ((a - a.tmod b).tdiv b = a / b) := floor_pos a b _ hb rfl h
    go_enter Tryd.func97, Tryd.ntmps97
    go_wp2
    go_ret
    exact ⟨ret_int H.out, rfl⟩

theorem truth_any (b : Bool) (w : World) :
    Calls Tryd.prog 98 #[.bool b] w fun e w' => e = .returned (.int .u32 (Wd.tr b)) ∧ w' = w := by
  cases b
  all_goals
    go_enter Tryd.func98, Tryd.ntmps98
    go_wp2
    go_ret
    exact ⟨rfl, rfl⟩

theorem upper_hi (a b : Int) : Wd.lo ((a * (b / 65536) + a * (b % 65536) / 65536) / 65536) = Wd.hi (a * b) := by
  unfold Wd.lo Wd.hi
  have e : a * b = a * (b % 65536) + 65536 * (a * (b / 65536)) := by
    have h := Int.mul_ediv_add_emod b 65536
    calc a * b = a * (65536 * (b / 65536) + b % 65536) := by rw [h]
      _ = a * (65536 * (b / 65536)) + a * (b % 65536) := by rw [Int.mul_add]
      _ = a * (b % 65536) + 65536 * (a * (b / 65536)) := by rw [Int.add_comm, Int.mul_left_comm]
  have e2 : a * b / 65536 = a * (b / 65536) + a * (b % 65536) / 65536 := by
    rw [e, Int.add_mul_ediv_left _ _ (by decide), Int.add_comm]
  rw [← e2, Int.ediv_ediv_of_nonneg (by decide)]
  rfl
theorem upper_bd {x y z : Int} (hx : -2147483648 ≤ x) (hx' : x < 4294967296) (hy : 0 ≤ y) (hy' : y < 65536) : -140737488355328 ≤ x * y ∧ x * y ≤ 281474976710656 := by
  by_cases h : 0 ≤ x
  · have a1 : x * y ≤ x * 65536 := Int.mul_le_mul_of_nonneg_left (by omega) h
    have a2 : 0 ≤ x * y := Int.mul_nonneg h hy
    omega
  · have a1 : x * y ≤ 0 := Int.mul_nonpos_of_nonpos_of_nonneg (by omega) hy
    have a2 : x * 65536 ≤ x * y := Int.mul_le_mul_of_nonpos_left (by omega) (by omega)
    omega
theorem upper_any (a b : Int) (w : World) (ha : -2147483648 ≤ a) (ha' : a < 4294967296) (hb : 0 ≤ b) (hb' : b < 4294967296) :
    Calls Tryd.prog 99 #[.int .i64 a, .int .i64 b] w fun e w' => e = .returned (.int .u32 (Wd.hi (a * b))) ∧ w' = w := by
  have b1 := @upper_bd a (b / 65536) 0 ha ha' (by omega) (by omega)
  have b2 := @upper_bd a (b % 65536) 0 ha ha' (by omega) (by omega)
  have H : Hid _ := upper_hi a b
  go_enter Tryd.func99, Tryd.ntmps99
  go_wp2_with (first | (go_at_call 97; refine (floor_any _ _ _ (by omega) (by omega) (by omega) (by omega)).mono ?_; rintro e w' ⟨rfl, rfl⟩) | (go_at_call 61; refine (Of_any _ _ (by omega) (by omega)).mono ?_; rintro e w' ⟨rfl, rfl⟩))
  go_ret
  exact ⟨ret_int H.out, rfl⟩

/-! ### Bit by bit -/
theorem bit_step (F k : Nat) : F % 2 ^ (k + 1) = F % 2 ^ k + if F / 2 ^ k % 2 = 1 then 2 ^ k else 0 := by
  rw [Nat.mod_pow_succ]
  by_cases h : F / 2 ^ k % 2 = 1
  · rw [h, if_pos rfl, Nat.mul_one]
  · rw [if_neg h, show F / 2 ^ k % 2 = 0 by omega, Nat.mul_zero]
theorem bit_half (A k : Nat) : A / 2 ^ (k + 1) = A / 2 ^ k / 2 := by
  rw [Nat.pow_succ, Nat.div_div_eq_div_mul]
theorem bit_tb (F k : Nat) : F / 2 ^ k % 2 = if F.testBit k then 1 else 0 := by
  rw [Nat.testBit_eq_decide_div_mod_eq]
  by_cases h : F / 2 ^ k % 2 = 1 <;> simp [h] <;> omega
theorem bit_and (A B k : Nat) : (A &&& B) / 2 ^ k % 2 = if A / 2 ^ k % 2 = 1 ∧ B / 2 ^ k % 2 = 1 then 1 else 0 := by
  simp only [bit_tb, Nat.testBit_and]; cases A.testBit k <;> cases B.testBit k <;> rfl
theorem bit_or (A B k : Nat) : (A ||| B) / 2 ^ k % 2 = if A / 2 ^ k % 2 = 1 ∨ B / 2 ^ k % 2 = 1 then 1 else 0 := by
  simp only [bit_tb, Nat.testBit_or]; cases A.testBit k <;> cases B.testBit k <;> rfl
theorem bit_xor (A B k : Nat) : (A ^^^ B) / 2 ^ k % 2 = if ¬ (A / 2 ^ k % 2 = 1 ↔ B / 2 ^ k % 2 = 1) then 1 else 0 := by
  simp only [bit_tb, Nat.testBit_xor]; cases A.testBit k <;> cases B.testBit k <;> rfl

theorem bits_and (A B : Nat) (w : World) (ha : A < 4294967296) (hb : B < 4294967296) :
    Calls Tryd.prog 95 #[.int .i64 37, .int .u32 A, .int .u32 B] w fun e w' => e = .returned (.int .u32 ((A &&& B : Nat) : Int)) ∧ w' = w := by
  have hF : A &&& B < 2 ^ 32 := Nat.and_lt_two_pow _ (by omega)
  go_enter Tryd.func95, Tryd.ntmps95
  go_wp2
  go_loop [7, 8, 9, 10] (fun x y n i => ∃ k : Nat, k ≤ 32 ∧ i = .int .i64 k ∧ x = .int .i64 ((A / 2 ^ k : Nat) : Int) ∧ y = .int .i64 ((B / 2 ^ k : Nat) : Int) ∧ n = .int .i64 (((A &&& B) % 2 ^ k : Nat) : Int)) (fun _ _ _ i => 32 - (intOf i).toNat)
  case atStart => exact ⟨0, by omega, rfl, by simp, by simp, by simp [Nat.mod_one]⟩
  case round =>
    obtain ⟨k, hk, rfl, rfl, rfl, rfl⟩ := hrel
    by_cases hlt : k < 32
    · have hs : Hid _ := bit_step (A &&& B) k
      have hA : Hid _ := bit_half A k
      have hB : Hid _ := bit_half B k
      have hb1 : Hid _ := bit_and A B k
      have h2 : 2 ^ k ≤ 2 ^ 31 := Nat.pow_le_pow_right (by omega) (by omega)
      have hm : (A &&& B) % 2 ^ k < 2 ^ k := Nat.mod_lt _ (Nat.two_pow_pos k)
      have hAx : A / 2 ^ k ≤ A := Nat.div_le_self _ _
      have hBx : B / 2 ^ k ≤ B := Nat.div_le_self _ _
      have hPw : Hid (∀ w : World, _) := fun w => Power_any k w hk
      generalize A / 2 ^ k = X at *
      generalize B / 2 ^ k = Y at *
      by_cases hp : X % 2 = 1
      · by_cases hq : Y % 2 = 1
        · have hn : Hid ((A &&& B) % 2 ^ (k + 1) = (A &&& B) % 2 ^ k + 2 ^ k) := by have h1 := hs.out; rw [hb1.out] at h1; show _ = _; simpa [hp, hq] using h1
          clear hs hb1
          generalize (A &&& B) % 2 ^ k = M at *
          generalize 2 ^ k = P at *
          have tx : ((X : Int) % 2 == 1) = true := beq_iff_eq.2 (by omega)
          have ty : ((Y : Int) % 2 == 1) = true := beq_iff_eq.2 (by omega)
          go_wp2_with (go_at_call 96; refine (hPw.out _).mono ?_; rintro e w' ⟨rfl, rfl⟩)
          go_round
          case rel => exact ⟨k + 1, by omega, by go_num, by rw [hA.out]; go_num, by rw [hB.out]; go_num, by rw [hn.out]; go_num⟩
          case measure => simp [intOf]; omega
        · have hn : Hid ((A &&& B) % 2 ^ (k + 1) = (A &&& B) % 2 ^ k) := by have h1 := hs.out; rw [hb1.out] at h1; show _ = _; simpa [hp, hq] using h1
          clear hs hb1
          generalize (A &&& B) % 2 ^ k = M at *
          generalize 2 ^ k = P at *
          have tx : ((X : Int) % 2 == 1) = true := beq_iff_eq.2 (by omega)
          have ty : ((Y : Int) % 2 == 1) = false := beq_eq_false_iff_ne.2 (by omega)
          go_wp2
          go_round
          case rel => exact ⟨k + 1, by omega, by go_num, by rw [hA.out]; go_num, by rw [hB.out]; go_num, by rw [hn.out]⟩
          case measure => simp [intOf]; omega
      · by_cases hq : Y % 2 = 1
        · have hn : Hid ((A &&& B) % 2 ^ (k + 1) = (A &&& B) % 2 ^ k) := by have h1 := hs.out; rw [hb1.out] at h1; show _ = _; simpa [hp, hq] using h1
          clear hs hb1
          generalize (A &&& B) % 2 ^ k = M at *
          generalize 2 ^ k = P at *
          have tx : ((X : Int) % 2 == 1) = false := beq_eq_false_iff_ne.2 (by omega)
          have ty : ((Y : Int) % 2 == 1) = true := beq_iff_eq.2 (by omega)
          go_wp2
          go_round
          case rel => exact ⟨k + 1, by omega, by go_num, by rw [hA.out]; go_num, by rw [hB.out]; go_num, by rw [hn.out]⟩
          case measure => simp [intOf]; omega
        · have hn : Hid ((A &&& B) % 2 ^ (k + 1) = (A &&& B) % 2 ^ k) := by have h1 := hs.out; rw [hb1.out] at h1; show _ = _; simpa [hp, hq] using h1
          clear hs hb1
          generalize (A &&& B) % 2 ^ k = M at *
          generalize 2 ^ k = P at *
          have tx : ((X : Int) % 2 == 1) = false := beq_eq_false_iff_ne.2 (by omega)
          have ty : ((Y : Int) % 2 == 1) = false := beq_eq_false_iff_ne.2 (by omega)
          go_wp2
          go_round
          case rel => exact ⟨k + 1, by omega, by go_num, by rw [hA.out]; go_num, by rw [hB.out]; go_num, by rw [hn.out]⟩
          case measure => simp [intOf]; omega
    · obtain rfl : k = 32 := by omega
      go_wp2_with (go_at_call 61; refine (Of_any _ _ (by omega) (by omega)).mono ?_; rintro e w' ⟨rfl, rfl⟩)
      go_ret
      exact ⟨ret_int (by unfold Wd.lo; omega), rfl⟩

theorem bits_or (A B : Nat) (w : World) (ha : A < 4294967296) (hb : B < 4294967296) :
    Calls Tryd.prog 95 #[.int .i64 36, .int .u32 A, .int .u32 B] w fun e w' => e = .returned (.int .u32 ((A ||| B : Nat) : Int)) ∧ w' = w := by
  have hF : A ||| B < 2 ^ 32 := Nat.or_lt_two_pow (by omega) (by omega)
  go_enter Tryd.func95, Tryd.ntmps95
  go_wp2
  go_loop [7, 8, 9, 10] (fun x y n i => ∃ k : Nat, k ≤ 32 ∧ i = .int .i64 k ∧ x = .int .i64 ((A / 2 ^ k : Nat) : Int) ∧ y = .int .i64 ((B / 2 ^ k : Nat) : Int) ∧ n = .int .i64 (((A ||| B) % 2 ^ k : Nat) : Int)) (fun _ _ _ i => 32 - (intOf i).toNat)
  case atStart => exact ⟨0, by omega, rfl, by simp, by simp, by simp [Nat.mod_one]⟩
  case round =>
    obtain ⟨k, hk, rfl, rfl, rfl, rfl⟩ := hrel
    by_cases hlt : k < 32
    · have hs : Hid _ := bit_step (A ||| B) k
      have hA : Hid _ := bit_half A k
      have hB : Hid _ := bit_half B k
      have hb1 : Hid _ := bit_or A B k
      have h2 : 2 ^ k ≤ 2 ^ 31 := Nat.pow_le_pow_right (by omega) (by omega)
      have hm : (A ||| B) % 2 ^ k < 2 ^ k := Nat.mod_lt _ (Nat.two_pow_pos k)
      have hAx : A / 2 ^ k ≤ A := Nat.div_le_self _ _
      have hBx : B / 2 ^ k ≤ B := Nat.div_le_self _ _
      have hPw : Hid (∀ w : World, _) := fun w => Power_any k w hk
      generalize A / 2 ^ k = X at *
      generalize B / 2 ^ k = Y at *
      by_cases hp : X % 2 = 1
      · by_cases hq : Y % 2 = 1
        · have hn : Hid ((A ||| B) % 2 ^ (k + 1) = (A ||| B) % 2 ^ k + 2 ^ k) := by have h1 := hs.out; rw [hb1.out] at h1; show _ = _; simpa [hp, hq] using h1
          clear hs hb1
          generalize (A ||| B) % 2 ^ k = M at *
          generalize 2 ^ k = P at *
          have tx : ((X : Int) % 2 == 1) = true := beq_iff_eq.2 (by omega)
          have ty : ((Y : Int) % 2 == 1) = true := beq_iff_eq.2 (by omega)
          go_wp2_with (go_at_call 96; refine (hPw.out _).mono ?_; rintro e w' ⟨rfl, rfl⟩)
          go_round
          case rel => exact ⟨k + 1, by omega, by go_num, by rw [hA.out]; go_num, by rw [hB.out]; go_num, by rw [hn.out]; go_num⟩
          case measure => simp [intOf]; omega
        · have hn : Hid ((A ||| B) % 2 ^ (k + 1) = (A ||| B) % 2 ^ k + 2 ^ k) := by have h1 := hs.out; rw [hb1.out] at h1; show _ = _; simpa [hp, hq] using h1
          clear hs hb1
          generalize (A ||| B) % 2 ^ k = M at *
          generalize 2 ^ k = P at *
          have tx : ((X : Int) % 2 == 1) = true := beq_iff_eq.2 (by omega)
          have ty : ((Y : Int) % 2 == 1) = false := beq_eq_false_iff_ne.2 (by omega)
          go_wp2_with (go_at_call 96; refine (hPw.out _).mono ?_; rintro e w' ⟨rfl, rfl⟩)
          go_round
          case rel => exact ⟨k + 1, by omega, by go_num, by rw [hA.out]; go_num, by rw [hB.out]; go_num, by rw [hn.out]; go_num⟩
          case measure => simp [intOf]; omega
      · by_cases hq : Y % 2 = 1
        · have hn : Hid ((A ||| B) % 2 ^ (k + 1) = (A ||| B) % 2 ^ k + 2 ^ k) := by have h1 := hs.out; rw [hb1.out] at h1; show _ = _; simpa [hp, hq] using h1
          clear hs hb1
          generalize (A ||| B) % 2 ^ k = M at *
          generalize 2 ^ k = P at *
          have tx : ((X : Int) % 2 == 1) = false := beq_eq_false_iff_ne.2 (by omega)
          have ty : ((Y : Int) % 2 == 1) = true := beq_iff_eq.2 (by omega)
          go_wp2_with (go_at_call 96; refine (hPw.out _).mono ?_; rintro e w' ⟨rfl, rfl⟩)
          go_round
          case rel => exact ⟨k + 1, by omega, by go_num, by rw [hA.out]; go_num, by rw [hB.out]; go_num, by rw [hn.out]; go_num⟩
          case measure => simp [intOf]; omega
        · have hn : Hid ((A ||| B) % 2 ^ (k + 1) = (A ||| B) % 2 ^ k) := by have h1 := hs.out; rw [hb1.out] at h1; show _ = _; simpa [hp, hq] using h1
          clear hs hb1
          generalize (A ||| B) % 2 ^ k = M at *
          generalize 2 ^ k = P at *
          have tx : ((X : Int) % 2 == 1) = false := beq_eq_false_iff_ne.2 (by omega)
          have ty : ((Y : Int) % 2 == 1) = false := beq_eq_false_iff_ne.2 (by omega)
          go_wp2
          go_round
          case rel => exact ⟨k + 1, by omega, by go_num, by rw [hA.out]; go_num, by rw [hB.out]; go_num, by rw [hn.out]⟩
          case measure => simp [intOf]; omega
    · obtain rfl : k = 32 := by omega
      go_wp2_with (go_at_call 61; refine (Of_any _ _ (by omega) (by omega)).mono ?_; rintro e w' ⟨rfl, rfl⟩)
      go_ret
      exact ⟨ret_int (by unfold Wd.lo; omega), rfl⟩

theorem bits_xor (A B : Nat) (w : World) (ha : A < 4294967296) (hb : B < 4294967296) :
    Calls Tryd.prog 95 #[.int .i64 33, .int .u32 A, .int .u32 B] w fun e w' => e = .returned (.int .u32 ((A ^^^ B : Nat) : Int)) ∧ w' = w := by
  have hF : A ^^^ B < 2 ^ 32 := Nat.xor_lt_two_pow (by omega) (by omega)
  go_enter Tryd.func95, Tryd.ntmps95
  go_wp2
  go_loop [7, 8, 9, 10] (fun x y n i => ∃ k : Nat, k ≤ 32 ∧ i = .int .i64 k ∧ x = .int .i64 ((A / 2 ^ k : Nat) : Int) ∧ y = .int .i64 ((B / 2 ^ k : Nat) : Int) ∧ n = .int .i64 (((A ^^^ B) % 2 ^ k : Nat) : Int)) (fun _ _ _ i => 32 - (intOf i).toNat)
  case atStart => exact ⟨0, by omega, rfl, by simp, by simp, by simp [Nat.mod_one]⟩
  case round =>
    obtain ⟨k, hk, rfl, rfl, rfl, rfl⟩ := hrel
    by_cases hlt : k < 32
    · have hs : Hid _ := bit_step (A ^^^ B) k
      have hA : Hid _ := bit_half A k
      have hB : Hid _ := bit_half B k
      have hb1 : Hid _ := bit_xor A B k
      have h2 : 2 ^ k ≤ 2 ^ 31 := Nat.pow_le_pow_right (by omega) (by omega)
      have hm : (A ^^^ B) % 2 ^ k < 2 ^ k := Nat.mod_lt _ (Nat.two_pow_pos k)
      have hAx : A / 2 ^ k ≤ A := Nat.div_le_self _ _
      have hBx : B / 2 ^ k ≤ B := Nat.div_le_self _ _
      have hPw : Hid (∀ w : World, _) := fun w => Power_any k w hk
      generalize A / 2 ^ k = X at *
      generalize B / 2 ^ k = Y at *
      by_cases hp : X % 2 = 1
      · by_cases hq : Y % 2 = 1
        · have hn : Hid ((A ^^^ B) % 2 ^ (k + 1) = (A ^^^ B) % 2 ^ k) := by have h1 := hs.out; rw [hb1.out] at h1; show _ = _; simpa [hp, hq] using h1
          clear hs hb1
          generalize (A ^^^ B) % 2 ^ k = M at *
          generalize 2 ^ k = P at *
          have tx : ((X : Int) % 2 == 1) = true := beq_iff_eq.2 (by omega)
          have ty : ((Y : Int) % 2 == 1) = true := beq_iff_eq.2 (by omega)
          go_wp2
          go_round
          case rel => exact ⟨k + 1, by omega, by go_num, by rw [hA.out]; go_num, by rw [hB.out]; go_num, by rw [hn.out]⟩
          case measure => simp [intOf]; omega
        · have hn : Hid ((A ^^^ B) % 2 ^ (k + 1) = (A ^^^ B) % 2 ^ k + 2 ^ k) := by have h1 := hs.out; rw [hb1.out] at h1; show _ = _; simpa [hp, hq] using h1
          clear hs hb1
          generalize (A ^^^ B) % 2 ^ k = M at *
          generalize 2 ^ k = P at *
          have tx : ((X : Int) % 2 == 1) = true := beq_iff_eq.2 (by omega)
          have ty : ((Y : Int) % 2 == 1) = false := beq_eq_false_iff_ne.2 (by omega)
          go_wp2_with (go_at_call 96; refine (hPw.out _).mono ?_; rintro e w' ⟨rfl, rfl⟩)
          go_round
          case rel => exact ⟨k + 1, by omega, by go_num, by rw [hA.out]; go_num, by rw [hB.out]; go_num, by rw [hn.out]; go_num⟩
          case measure => simp [intOf]; omega
      · by_cases hq : Y % 2 = 1
        · have hn : Hid ((A ^^^ B) % 2 ^ (k + 1) = (A ^^^ B) % 2 ^ k + 2 ^ k) := by have h1 := hs.out; rw [hb1.out] at h1; show _ = _; simpa [hp, hq] using h1
          clear hs hb1
          generalize (A ^^^ B) % 2 ^ k = M at *
          generalize 2 ^ k = P at *
          have tx : ((X : Int) % 2 == 1) = false := beq_eq_false_iff_ne.2 (by omega)
          have ty : ((Y : Int) % 2 == 1) = true := beq_iff_eq.2 (by omega)
          go_wp2_with (go_at_call 96; refine (hPw.out _).mono ?_; rintro e w' ⟨rfl, rfl⟩)
          go_round
          case rel => exact ⟨k + 1, by omega, by go_num, by rw [hA.out]; go_num, by rw [hB.out]; go_num, by rw [hn.out]; go_num⟩
          case measure => simp [intOf]; omega
        · have hn : Hid ((A ^^^ B) % 2 ^ (k + 1) = (A ^^^ B) % 2 ^ k) := by have h1 := hs.out; rw [hb1.out] at h1; show _ = _; simpa [hp, hq] using h1
          clear hs hb1
          generalize (A ^^^ B) % 2 ^ k = M at *
          generalize 2 ^ k = P at *
          have tx : ((X : Int) % 2 == 1) = false := beq_eq_false_iff_ne.2 (by omega)
          have ty : ((Y : Int) % 2 == 1) = false := beq_eq_false_iff_ne.2 (by omega)
          go_wp2
          go_round
          case rel => exact ⟨k + 1, by omega, by go_num, by rw [hA.out]; go_num, by rw [hB.out]; go_num, by rw [hn.out]⟩
          case measure => simp [intOf]; omega
    · obtain rfl : k = 32 := by omega
      go_wp2_with (go_at_call 61; refine (Of_any _ _ (by omega) (by omega)).mono ?_; rintro e w' ⟨rfl, rfl⟩)
      go_ret
      exact ⟨ret_int (by unfold Wd.lo; omega), rfl⟩


theorem bits_and' (a b : Int) (w : World) (ha : 0 ≤ a) (ha' : a < 4294967296) (hb : 0 ≤ b) (hb' : b < 4294967296) :
    Calls Tryd.prog 95 #[.int .i64 37, .int .u32 a, .int .u32 b] w fun e w' => e = .returned (.int .u32 (Wd.band a b)) ∧ w' = w := by
  obtain ⟨a, rfl⟩ := Int.eq_ofNat_of_zero_le ha
  obtain ⟨b, rfl⟩ := Int.eq_ofNat_of_zero_le hb
  exact bits_and a b w (by omega) (by omega)

theorem bits_or' (a b : Int) (w : World) (ha : 0 ≤ a) (ha' : a < 4294967296) (hb : 0 ≤ b) (hb' : b < 4294967296) :
    Calls Tryd.prog 95 #[.int .i64 36, .int .u32 a, .int .u32 b] w fun e w' => e = .returned (.int .u32 (Wd.bor a b)) ∧ w' = w := by
  obtain ⟨a, rfl⟩ := Int.eq_ofNat_of_zero_le ha
  obtain ⟨b, rfl⟩ := Int.eq_ofNat_of_zero_le hb
  exact bits_or a b w (by omega) (by omega)

theorem bits_xor' (a b : Int) (w : World) (ha : 0 ≤ a) (ha' : a < 4294967296) (hb : 0 ≤ b) (hb' : b < 4294967296) :
    Calls Tryd.prog 95 #[.int .i64 33, .int .u32 a, .int .u32 b] w fun e w' => e = .returned (.int .u32 (Wd.bxor a b)) ∧ w' = w := by
  obtain ⟨a, rfl⟩ := Int.eq_ofNat_of_zero_le ha
  obtain ⟨b, rfl⟩ := Int.eq_ofNat_of_zero_le hb
  exact bits_xor a b w (by omega) (by omega)

theorem Power_pw (b : Int) (w : World) (hb : 0 ≤ b) :
    Calls Tryd.prog 96 #[.int .i64 (b % 32)] w fun e w' => e = .returned (.int .i64 (Wd.pw b)) ∧ w' = w := by
  have h := Power_any (b.toNat % 32) w (by omega)
  rw [Wd.pw_nat b hb]
  rw [show ((b.toNat % 32 : Nat) : Int) = b % 32 by omega] at h
  exact h
theorem Power_rest (b : Int) (w : World) (hb : 0 ≤ b) :
    Calls Tryd.prog 96 #[.int .i64 (32 - b % 32)] w fun e w' => e = .returned (.int .i64 ((2 ^ (32 - b.toNat % 32) : Nat) : Int)) ∧ w' = w := by
  have h := Power_any (32 - b.toNat % 32) w (by omega)
  rw [show ((32 - b.toNat % 32 : Nat) : Int) = 32 - b % 32 by omega] at h
  exact h
theorem sll_eq (a b : Int) (ha : 0 ≤ a) (hb : 0 ≤ b) : a % ((2 ^ (32 - b.toNat % 32) : Nat) : Int) * Wd.pw b = Wd.lo (a * Wd.pw b) := by
  rw [Wd.pw_nat b hb]
  obtain ⟨a, rfl⟩ := Int.eq_ofNat_of_zero_le ha
  obtain ⟨b, rfl⟩ := Int.eq_ofNat_of_zero_le hb
  simp only [Int.toNat_natCast, Wd.lo]
  have h : a % 2 ^ (32 - b % 32) * 2 ^ (b % 32) = a * 2 ^ (b % 32) % 4294967296 := by
    have h1 : (4294967296 : Nat) = 2 ^ (32 - b % 32) * 2 ^ (b % 32) := by
      rw [← Nat.pow_add, show 32 - b % 32 + b % 32 = 32 by omega]
    rw [h1, Nat.mul_mod_mul_right]
  rw [← Int.natCast_emod, ← Int.natCast_mul, ← Int.natCast_mul, h]
  generalize a * 2 ^ (b % 32) = x
  omega
theorem sll_bd (a b : Int) (hb : 0 ≤ b) : 0 ≤ a % ((2 ^ (32 - b.toNat % 32) : Nat) : Int) ∧ a % ((2 ^ (32 - b.toNat % 32) : Nat) : Int) < 4294967296 := by
  have h1 : 2 ^ (32 - b.toNat % 32) ≤ 2 ^ 32 := Nat.pow_le_pow_right (by omega) (by omega)
  have h2 : 0 < 2 ^ (32 - b.toNat % 32) := Nat.two_pow_pos _
  generalize 2 ^ (32 - b.toNat % 32) = P at *
  have h3 := Int.emod_nonneg a (show (P : Int) ≠ 0 by omega)
  have h4 := Int.emod_lt_of_pos a (show (0 : Int) < P by omega)
  omega

theorem alu_28 (a b : Int) (w : World) (ha : 0 ≤ a) (ha' : a < 4294967296) (hb : 0 ≤ b) (hb' : b < 4294967296) :
    Calls Tryd.prog 66 #[.int .i64 28, .int .u32 a, .int .u32 b] w fun e w' => e = .returned (.int .u32 (Wd.alu 28 a b)) ∧ w' = w := by
  have sa := Wd.sg_bd ha ha'
  have sb := Wd.sg_bd hb hb'
  go_enter Tryd.func66, Tryd.ntmps66
  go_wp2_with (first | (go_at_call 92; refine (Signed_any _ _ (by omega) (by omega)).mono ?_; rintro e w' ⟨rfl, rfl⟩) | (go_at_call 61; refine (Of_any _ _ (by omega) (by omega)).mono ?_; rintro e w' ⟨rfl, rfl⟩))
  go_ret
  exact ⟨ret_int (rfl), rfl⟩

theorem alu_29 (a b : Int) (w : World) (ha : 0 ≤ a) (ha' : a < 4294967296) (hb : 0 ≤ b) (hb' : b < 4294967296) :
    Calls Tryd.prog 66 #[.int .i64 29, .int .u32 a, .int .u32 b] w fun e w' => e = .returned (.int .u32 (Wd.alu 29 a b)) ∧ w' = w := by
  have sa := Wd.sg_bd ha ha'
  have sb := Wd.sg_bd hb hb'
  go_enter Tryd.func66, Tryd.ntmps66
  go_wp2_with (first | (go_at_call 92; refine (Signed_any _ _ (by omega) (by omega)).mono ?_; rintro e w' ⟨rfl, rfl⟩) | (go_at_call 61; refine (Of_any _ _ (by omega) (by omega)).mono ?_; rintro e w' ⟨rfl, rfl⟩))
  go_ret
  exact ⟨ret_int (rfl), rfl⟩

theorem alu_37 (a b : Int) (w : World) (ha : 0 ≤ a) (ha' : a < 4294967296) (hb : 0 ≤ b) (hb' : b < 4294967296) :
    Calls Tryd.prog 66 #[.int .i64 37, .int .u32 a, .int .u32 b] w fun e w' => e = .returned (.int .u32 (Wd.alu 37 a b)) ∧ w' = w := by
  have sa := Wd.sg_bd ha ha'
  have sb := Wd.sg_bd hb hb'
  go_enter Tryd.func66, Tryd.ntmps66
  go_wp2_with (first | (go_at_call 95; refine (bits_and' _ _ _ (by omega) (by omega) (by omega) (by omega)).mono ?_; rintro e w' ⟨rfl, rfl⟩) | (go_at_call 92; refine (Signed_any _ _ (by omega) (by omega)).mono ?_; rintro e w' ⟨rfl, rfl⟩))
  go_ret
  exact ⟨ret_int (rfl), rfl⟩

theorem alu_36 (a b : Int) (w : World) (ha : 0 ≤ a) (ha' : a < 4294967296) (hb : 0 ≤ b) (hb' : b < 4294967296) :
    Calls Tryd.prog 66 #[.int .i64 36, .int .u32 a, .int .u32 b] w fun e w' => e = .returned (.int .u32 (Wd.alu 36 a b)) ∧ w' = w := by
  have sa := Wd.sg_bd ha ha'
  have sb := Wd.sg_bd hb hb'
  go_enter Tryd.func66, Tryd.ntmps66
  go_wp2_with (first | (go_at_call 95; refine (bits_or' _ _ _ (by omega) (by omega) (by omega) (by omega)).mono ?_; rintro e w' ⟨rfl, rfl⟩) | (go_at_call 92; refine (Signed_any _ _ (by omega) (by omega)).mono ?_; rintro e w' ⟨rfl, rfl⟩))
  go_ret
  exact ⟨ret_int (rfl), rfl⟩

theorem alu_33 (a b : Int) (w : World) (ha : 0 ≤ a) (ha' : a < 4294967296) (hb : 0 ≤ b) (hb' : b < 4294967296) :
    Calls Tryd.prog 66 #[.int .i64 33, .int .u32 a, .int .u32 b] w fun e w' => e = .returned (.int .u32 (Wd.alu 33 a b)) ∧ w' = w := by
  have sa := Wd.sg_bd ha ha'
  have sb := Wd.sg_bd hb hb'
  go_enter Tryd.func66, Tryd.ntmps66
  go_wp2_with (first | (go_at_call 95; refine (bits_xor' _ _ _ (by omega) (by omega) (by omega) (by omega)).mono ?_; rintro e w' ⟨rfl, rfl⟩) | (go_at_call 92; refine (Signed_any _ _ (by omega) (by omega)).mono ?_; rintro e w' ⟨rfl, rfl⟩))
  go_ret
  exact ⟨ret_int (rfl), rfl⟩

end Go.Proofs.YtdiofidmlgliiaaDoor.Rw
