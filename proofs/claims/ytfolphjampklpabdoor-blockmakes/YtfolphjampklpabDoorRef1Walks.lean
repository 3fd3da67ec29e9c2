/-
  What the functions of package ferrybridgeref1 return, each for every two words: Alu returns 'Wd.alu', Holds 'Wd.holds', Amo 'Wd.amo', and nothing in memory turns. Conditions: the words are from 0 to 2^32 - 1.
-/
import Derived.Test.YtfolphjampklpabDoorRows
import Derived.Test.YtfolphjampklpabDoorWord
import Derived.WalkKit
import Derived.ProofKit
import Derived.OpenShut
namespace Go.Proofs.YtfolphjampklpabDoor.Rw
open Go.ChangeShapes Go.WideShapes Go.ChangeAt Go.RowKit
set_option linter.unusedVariables false

theorem ret_int {k : IntKind} {a b : Int} (h : a = b) : Ending.returned (.int k a) = .returned (.int k b) := by rw [h]
theorem ret_bool {a b : Bool} (h : a = b) : Ending.returned (.bool a) = .returned (.bool b) := by rw [h]

theorem Signed_any (a : Int) (w : World) (ha : 0 ≤ a) (ha' : a < 4294967296) :
    Calls Tryd.prog 32 #[.int .u32 a] w fun e w' => e = .returned (.int .i64 (Wd.sg a)) ∧ w' = w := by
  by_cases h : a < 2147483648
  · have H : Hid (Wd.sg a = a) := (if_pos h : Wd.sg a = a)
    go_enter Tryd.func32, Tryd.ntmps32
    go_wp2
    go_ret
    exact ⟨ret_int H.out.symm, rfl⟩
  · have H : Hid (Wd.sg a = a - 4294967296) := (if_neg h : Wd.sg a = _)
    go_enter Tryd.func32, Tryd.ntmps32
    go_wp2
    go_ret
    exact ⟨ret_int H.out.symm, rfl⟩

theorem of_neg (n r : Int) (e : n.tmod 4294967296 = r) (h : r < 0) : r + 4294967296 = Wd.lo n ∧ -4294967296 < r := by
  unfold Wd.lo
  have h1 := Int.tmod_eq_emod (a := n) (b := 4294967296)
  split at h1 <;> omega
theorem of_pos (n r : Int) (e : n.tmod 4294967296 = r) (h : ¬ r < 0) : r = Wd.lo n := by
  unfold Wd.lo
  have h1 := Int.tmod_eq_emod (a := n) (b := 4294967296)
  split at h1 <;> omega
theorem Of_any (n : Int) (w : World) (hn : -9223372036854775808 ≤ n) (hn' : n ≤ 9223372036854775807) :
    Calls Tryd.prog 29 #[.int .i64 n] w fun e w' => e = .returned (.int .u32 (Wd.lo n)) ∧ w' = w := by
  obtain ⟨l0, l1⟩ := Wd.lo_bd n
  by_cases h : n.tmod 4294967296 < 0
  · have e := of_neg n _ rfl h
    have H : Hid (n.tmod 4294967296 + 4294967296 = Wd.lo n) := e.1
    have e2 := e.2
    clear e
    go_enter Tryd.func29, Tryd.ntmps29
    go_wp2
    go_ret
    exact ⟨ret_int H.out, rfl⟩
  · have H : Hid (n.tmod 4294967296 = Wd.lo n) := of_pos n _ rfl h
    go_enter Tryd.func29, Tryd.ntmps29
    go_wp2
    go_ret
    exact ⟨ret_int (by have := H.out; omega), rfl⟩

theorem Power_any (n : Nat) (w : World) (hn : n ≤ 32) :
    Calls Tryd.prog 45 #[.int .i64 n] w fun e w' => e = .returned (.int .i64 ((2 ^ n : Nat) : Int)) ∧ w' = w := by
  go_enter Tryd.func45, Tryd.ntmps45
  go_wp2
  go_loop [3, 4] (fun p i => ∃ k : Nat, k ≤ n ∧ i = .int .i64 k ∧ p = .int .i64 ((2 ^ k : Nat) : Int)) (fun _ i => n - (intOf i).toNat)
  case atStart => exact ⟨0, Nat.zero_le _, rfl, rfl⟩
  case round =>
    obtain ⟨k, hk, rfl, rfl⟩ := hrel
    by_cases hlt : k < n
    · have h2 : 2 ^ k ≤ 2 ^ 32 := Nat.pow_le_pow_right (by omega) (by omega)
      have HS : Hid (2 ^ (k + 1) = 2 ^ k + 2 ^ k) := (by rw [Nat.pow_succ]; omega : 2 ^ (k + 1) = _)
      generalize 2 ^ k = P at *
      go_wp2
      go_round
      case rel => exact ⟨k + 1, by omega, by go_num, by rw [HS.out]; go_num⟩
      case measure => simp [intOf]; omega
    · obtain rfl : k = n := by omega
      go_wp2
      go_ret
      exact ⟨rfl, rfl⟩

theorem floor_neg (a b r : Int) (hb : 0 < b) (e : a.tmod b = r) (h : r < 0) : (a - (r + b)).tdiv b = a / b := by
  have h1 := Int.tmod_eq_emod (a := a) (b := b)
  have h2 := Int.emod_lt_of_pos a hb
  have h3 := Int.emod_nonneg a (Int.ne_of_gt hb)
  have h4 : r + b = a % b := by
    split at h1
    · omega
    · have : (b.natAbs : Int) = b := Int.natAbs_of_nonneg (Int.le_of_lt hb)
      omega
  rw [h4]
  have h5 : a - a % b = b * (a / b) := by have := Int.mul_ediv_add_emod a b; omega
  rw [h5, Int.mul_tdiv_cancel_left _ (Int.ne_of_gt hb)]
theorem floor_pos (a b r : Int) (hb : 0 < b) (e : a.tmod b = r) (h : ¬ r < 0) : (a - r).tdiv b = a / b := by
  have h1 := Int.tmod_eq_emod (a := a) (b := b)
  have h2 := Int.emod_lt_of_pos a hb
  have h4 : r = a % b := by
    split at h1
    · omega
    · have : (b.natAbs : Int) = b := Int.natAbs_of_nonneg (Int.le_of_lt hb)
      omega
  rw [h4]
  have h5 : a - a % b = b * (a / b) := by have := Int.mul_ediv_add_emod a b; omega
  rw [h5, Int.mul_tdiv_cancel_left _ (Int.ne_of_gt hb)]
theorem upper_hi (a b : Int) : Wd.lo ((a * (b / 65536) + a * (b % 65536) / 65536) / 65536) = Wd.hi (a * b) := by
  unfold Wd.lo Wd.hi
  have e : a * b = a * (b % 65536) + 65536 * (a * (b / 65536)) := by
    have h := Int.mul_ediv_add_emod b 65536
    calc a * b = a * (65536 * (b / 65536) + b % 65536) := by rw [h]
      _ = a * (65536 * (b / 65536)) + a * (b % 65536) := by rw [Int.mul_add]
      _ = a * (b % 65536) + 65536 * (a * (b / 65536)) := by rw [Int.add_comm, Int.mul_left_comm]
  have e2 : a * b / 65536 = a * (b / 65536) + a * (b % 65536) / 65536 := by
    rw [e, Int.add_mul_ediv_left _ _ (by decide), Int.add_comm]
  rw [← e2, Int.ediv_ediv_of_nonneg (by decide)]
  rfl
theorem upper_bd {x y z : Int} (hx : -2147483648 ≤ x) (hx' : x < 4294967296) (hy : 0 ≤ y) (hy' : y < 65536) : -140737488355328 ≤ x * y ∧ x * y ≤ 281474976710656 := by
  by_cases h : 0 ≤ x
  · have a1 : x * y ≤ x * 65536 := Int.mul_le_mul_of_nonneg_left (by omega) h
    have a2 : 0 ≤ x * y := Int.mul_nonneg h hy
    omega
  · have a1 : x * y ≤ 0 := Int.mul_nonpos_of_nonpos_of_nonneg (by omega) hy
    have a2 : x * 65536 ≤ x * y := Int.mul_le_mul_of_nonpos_left (by omega) (by omega)
    omega
/-! ### Bit by bit -/
theorem bit_step (F k : Nat) : F % 2 ^ (k + 1) = F % 2 ^ k + if F / 2 ^ k % 2 = 1 then 2 ^ k else 0 := by
  rw [Nat.mod_pow_succ]
  by_cases h : F / 2 ^ k % 2 = 1
  · rw [h, if_pos rfl, Nat.mul_one]
  · rw [if_neg h, show F / 2 ^ k % 2 = 0 by omega, Nat.mul_zero]
theorem bit_half (A k : Nat) : A / 2 ^ (k + 1) = A / 2 ^ k / 2 := by
  rw [Nat.pow_succ, Nat.div_div_eq_div_mul]
theorem bit_tb (F k : Nat) : F / 2 ^ k % 2 = if F.testBit k then 1 else 0 := by
  rw [Nat.testBit_eq_decide_div_mod_eq]
  by_cases h : F / 2 ^ k % 2 = 1 <;> simp [h] <;> omega
theorem bit_and (A B k : Nat) : (A &&& B) / 2 ^ k % 2 = if A / 2 ^ k % 2 = 1 ∧ B / 2 ^ k % 2 = 1 then 1 else 0 := by
  simp only [bit_tb, Nat.testBit_and]; cases A.testBit k <;> cases B.testBit k <;> rfl
theorem bit_or (A B k : Nat) : (A ||| B) / 2 ^ k % 2 = if A / 2 ^ k % 2 = 1 ∨ B / 2 ^ k % 2 = 1 then 1 else 0 := by
  simp only [bit_tb, Nat.testBit_or]; cases A.testBit k <;> cases B.testBit k <;> rfl
theorem bit_xor (A B k : Nat) : (A ^^^ B) / 2 ^ k % 2 = if ¬ (A / 2 ^ k % 2 = 1 ↔ B / 2 ^ k % 2 = 1) then 1 else 0 := by
  simp only [bit_tb, Nat.testBit_xor]; cases A.testBit k <;> cases B.testBit k <;> rfl

theorem Power_pw (b : Int) (w : World) (hb : 0 ≤ b) :
    Calls Tryd.prog 45 #[.int .i64 (b % 32)] w fun e w' => e = .returned (.int .i64 (Wd.pw b)) ∧ w' = w := by
  have h := Power_any (b.toNat % 32) w (by omega)
  rw [Wd.pw_nat b hb]
  rw [show ((b.toNat % 32 : Nat) : Int) = b % 32 by omega] at h
  exact h
theorem Power_rest (b : Int) (w : World) (hb : 0 ≤ b) :
    Calls Tryd.prog 45 #[.int .i64 (32 - b % 32)] w fun e w' => e = .returned (.int .i64 ((2 ^ (32 - b.toNat % 32) : Nat) : Int)) ∧ w' = w := by
  have h := Power_any (32 - b.toNat % 32) w (by omega)
  rw [show ((32 - b.toNat % 32 : Nat) : Int) = 32 - b % 32 by omega] at h
  exact h
theorem sll_eq (a b : Int) (ha : 0 ≤ a) (hb : 0 ≤ b) : a % ((2 ^ (32 - b.toNat % 32) : Nat) : Int) * Wd.pw b = Wd.lo (a * Wd.pw b) := by
  rw [Wd.pw_nat b hb]
  obtain ⟨a, rfl⟩ := Int.eq_ofNat_of_zero_le ha
  obtain ⟨b, rfl⟩ := Int.eq_ofNat_of_zero_le hb
  simp only [Int.toNat_natCast, Wd.lo]
  have h : a % 2 ^ (32 - b % 32) * 2 ^ (b % 32) = a * 2 ^ (b % 32) % 4294967296 := by
    have h1 : (4294967296 : Nat) = 2 ^ (32 - b % 32) * 2 ^ (b % 32) := by
      rw [← Nat.pow_add, show 32 - b % 32 + b % 32 = 32 by omega]
    rw [h1, Nat.mul_mod_mul_right]
  rw [← Int.natCast_emod, ← Int.natCast_mul, ← Int.natCast_mul, h]
  generalize a * 2 ^ (b % 32) = x
  omega
theorem sll_bd (a b : Int) (hb : 0 ≤ b) : 0 ≤ a % ((2 ^ (32 - b.toNat % 32) : Nat) : Int) ∧ a % ((2 ^ (32 - b.toNat % 32) : Nat) : Int) < 4294967296 := by
  have h1 : 2 ^ (32 - b.toNat % 32) ≤ 2 ^ 32 := Nat.pow_le_pow_right (by omega) (by omega)
  have h2 : 0 < 2 ^ (32 - b.toNat % 32) := Nat.two_pow_pos _
  generalize 2 ^ (32 - b.toNat % 32) = P at *
  have h3 := Int.emod_nonneg a (show (P : Int) ≠ 0 by omega)
  have h4 := Int.emod_lt_of_pos a (show (0 : Int) < P by omega)
  omega

end Go.Proofs.YtfolphjampklpabDoor.Rw
