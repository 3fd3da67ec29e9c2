/-
  What the document's chapter 2 answers, its small functions: Power, Signed, Cut, signed, pick. Conditions: words are from 0 to 2^32 - 1.
-/
import Derived.Test.YtdiofidmlgliiaaDoorTabs
namespace Go.Proofs.YtdiofidmlgliiaaDoor.Re
open Go.ChangeShapes Go.WideShapes Go.ChangeAt Go.RowKit Dw
set_option linter.unusedVariables false
set_option linter.unusedSimpArgs false

variable {n : Int}
theorem ret_int {k : IntKind} {a b : Int} (h : a = b) : Ending.returned (.int k a) = .returned (.int k b) := by rw [h]
theorem ret_bool {a b : Bool} (h : a = b) : Ending.returned (.bool a) = .returned (.bool b) := by rw [h]
theorem Signed_any (a : Int) (w : World) (ha : 0 ≤ a) (ha' : a < 4294967296) :
    Calls Tryd.prog 92 #[.int .u32 a] w fun e w' => e = .returned (.int .i64 (Wd.sg a)) ∧ w' = w := by
  by_cases h : a < 2147483648
  · have H : Hid (Wd.sg a = a) := (if_pos h : Wd.sg a = a)
    go_enter Tryd.func92, Tryd.ntmps92
    go_wp2
    go_ret
    exact ⟨ret_int H.out.symm, rfl⟩
  · have H : Hid (Wd.sg a = a - 4294967296) := (if_neg h : Wd.sg a = _)
    go_enter Tryd.func92, Tryd.ntmps92
    go_wp2
    go_ret
    exact ⟨ret_int H.out.symm, rfl⟩
theorem Power_any (n : Nat) (w : World) (hn : n ≤ 32) :
    Calls Tryd.prog 96 #[.int .i64 n] w fun e w' => e = .returned (.int .i64 ((2 ^ n : Nat) : Int)) ∧ w' = w := by
  go_enter Tryd.func96, Tryd.ntmps96
  go_wp2
  go_loop [3, 4] (fun p i => ∃ k : Nat, k ≤ n ∧ i = .int .i64 k ∧ p = .int .i64 ((2 ^ k : Nat) : Int)) (fun _ i => n - (intOf i).toNat)
  case atStart => exact ⟨0, Nat.zero_le _, rfl, rfl⟩
  case round =>
    obtain ⟨k, hk, rfl, rfl⟩ := hrel
    by_cases hlt : k < n
    · have h2 : 2 ^ k ≤ 2 ^ 32 := Nat.pow_le_pow_right (by omega) (by omega)
      have HS : Hid (2 ^ (k + 1) = 2 ^ k + 2 ^ k) := (by rw [Nat.pow_succ]; omega : 2 ^ (k + 1) = _)
      generalize 2 ^ k = P at *
      go_wp2
      go_round
      case rel => exact ⟨k + 1, by omega, by go_num, by rw [HS.out]; go_num⟩
      case measure => simp [intOf]; omega
    · obtain rfl : k = n := by omega
      go_wp2
      go_ret
      exact ⟨rfl, rfl⟩
theorem Power_as (n P : Int) (w : World) (h0 : 0 ≤ n) (h1 : n ≤ 32) (hP : ((2 ^ n.toNat : Nat) : Int) = P) :
    Calls Tryd.prog 96 #[.int .i64 n] w fun e w' => e = .returned (.int .i64 P) ∧ w' = w := by
  have := Power_any n.toNat w (by omega)
  rw [hP, show ((n.toNat : Nat) : Int) = n by omega] at this
  exact this
theorem pw0 (w : World) : Calls Tryd.prog 96 #[.int .i64 0] w fun e w' => e = .returned (.int .i64 1) ∧ w' = w := Power_as 0 1 w (by omega) (by omega) (by decide)
theorem pw1 (w : World) : Calls Tryd.prog 96 #[.int .i64 1] w fun e w' => e = .returned (.int .i64 2) ∧ w' = w := Power_as 1 2 w (by omega) (by omega) (by decide)
theorem pw2 (w : World) : Calls Tryd.prog 96 #[.int .i64 2] w fun e w' => e = .returned (.int .i64 4) ∧ w' = w := Power_as 2 4 w (by omega) (by omega) (by decide)
theorem pw3 (w : World) : Calls Tryd.prog 96 #[.int .i64 3] w fun e w' => e = .returned (.int .i64 8) ∧ w' = w := Power_as 3 8 w (by omega) (by omega) (by decide)
theorem pw4 (w : World) : Calls Tryd.prog 96 #[.int .i64 4] w fun e w' => e = .returned (.int .i64 16) ∧ w' = w := Power_as 4 16 w (by omega) (by omega) (by decide)
theorem pw5 (w : World) : Calls Tryd.prog 96 #[.int .i64 5] w fun e w' => e = .returned (.int .i64 32) ∧ w' = w := Power_as 5 32 w (by omega) (by omega) (by decide)
theorem pw6 (w : World) : Calls Tryd.prog 96 #[.int .i64 6] w fun e w' => e = .returned (.int .i64 64) ∧ w' = w := Power_as 6 64 w (by omega) (by omega) (by decide)
theorem pw7 (w : World) : Calls Tryd.prog 96 #[.int .i64 7] w fun e w' => e = .returned (.int .i64 128) ∧ w' = w := Power_as 7 128 w (by omega) (by omega) (by decide)
theorem pw8 (w : World) : Calls Tryd.prog 96 #[.int .i64 8] w fun e w' => e = .returned (.int .i64 256) ∧ w' = w := Power_as 8 256 w (by omega) (by omega) (by decide)
theorem pw9 (w : World) : Calls Tryd.prog 96 #[.int .i64 9] w fun e w' => e = .returned (.int .i64 512) ∧ w' = w := Power_as 9 512 w (by omega) (by omega) (by decide)
theorem pw10 (w : World) : Calls Tryd.prog 96 #[.int .i64 10] w fun e w' => e = .returned (.int .i64 1024) ∧ w' = w := Power_as 10 1024 w (by omega) (by omega) (by decide)
theorem pw11 (w : World) : Calls Tryd.prog 96 #[.int .i64 11] w fun e w' => e = .returned (.int .i64 2048) ∧ w' = w := Power_as 11 2048 w (by omega) (by omega) (by decide)
theorem pw12 (w : World) : Calls Tryd.prog 96 #[.int .i64 12] w fun e w' => e = .returned (.int .i64 4096) ∧ w' = w := Power_as 12 4096 w (by omega) (by omega) (by decide)
theorem pw13 (w : World) : Calls Tryd.prog 96 #[.int .i64 13] w fun e w' => e = .returned (.int .i64 8192) ∧ w' = w := Power_as 13 8192 w (by omega) (by omega) (by decide)
theorem pw14 (w : World) : Calls Tryd.prog 96 #[.int .i64 14] w fun e w' => e = .returned (.int .i64 16384) ∧ w' = w := Power_as 14 16384 w (by omega) (by omega) (by decide)
theorem pw15 (w : World) : Calls Tryd.prog 96 #[.int .i64 15] w fun e w' => e = .returned (.int .i64 32768) ∧ w' = w := Power_as 15 32768 w (by omega) (by omega) (by decide)
theorem pw16 (w : World) : Calls Tryd.prog 96 #[.int .i64 16] w fun e w' => e = .returned (.int .i64 65536) ∧ w' = w := Power_as 16 65536 w (by omega) (by omega) (by decide)
theorem pw17 (w : World) : Calls Tryd.prog 96 #[.int .i64 17] w fun e w' => e = .returned (.int .i64 131072) ∧ w' = w := Power_as 17 131072 w (by omega) (by omega) (by decide)
theorem pw18 (w : World) : Calls Tryd.prog 96 #[.int .i64 18] w fun e w' => e = .returned (.int .i64 262144) ∧ w' = w := Power_as 18 262144 w (by omega) (by omega) (by decide)
theorem pw19 (w : World) : Calls Tryd.prog 96 #[.int .i64 19] w fun e w' => e = .returned (.int .i64 524288) ∧ w' = w := Power_as 19 524288 w (by omega) (by omega) (by decide)
theorem pw20 (w : World) : Calls Tryd.prog 96 #[.int .i64 20] w fun e w' => e = .returned (.int .i64 1048576) ∧ w' = w := Power_as 20 1048576 w (by omega) (by omega) (by decide)
theorem pw21 (w : World) : Calls Tryd.prog 96 #[.int .i64 21] w fun e w' => e = .returned (.int .i64 2097152) ∧ w' = w := Power_as 21 2097152 w (by omega) (by omega) (by decide)
theorem pw22 (w : World) : Calls Tryd.prog 96 #[.int .i64 22] w fun e w' => e = .returned (.int .i64 4194304) ∧ w' = w := Power_as 22 4194304 w (by omega) (by omega) (by decide)
theorem pw23 (w : World) : Calls Tryd.prog 96 #[.int .i64 23] w fun e w' => e = .returned (.int .i64 8388608) ∧ w' = w := Power_as 23 8388608 w (by omega) (by omega) (by decide)
theorem pw24 (w : World) : Calls Tryd.prog 96 #[.int .i64 24] w fun e w' => e = .returned (.int .i64 16777216) ∧ w' = w := Power_as 24 16777216 w (by omega) (by omega) (by decide)
theorem pw25 (w : World) : Calls Tryd.prog 96 #[.int .i64 25] w fun e w' => e = .returned (.int .i64 33554432) ∧ w' = w := Power_as 25 33554432 w (by omega) (by omega) (by decide)
theorem pw26 (w : World) : Calls Tryd.prog 96 #[.int .i64 26] w fun e w' => e = .returned (.int .i64 67108864) ∧ w' = w := Power_as 26 67108864 w (by omega) (by omega) (by decide)
theorem pw27 (w : World) : Calls Tryd.prog 96 #[.int .i64 27] w fun e w' => e = .returned (.int .i64 134217728) ∧ w' = w := Power_as 27 134217728 w (by omega) (by omega) (by decide)
theorem pw28 (w : World) : Calls Tryd.prog 96 #[.int .i64 28] w fun e w' => e = .returned (.int .i64 268435456) ∧ w' = w := Power_as 28 268435456 w (by omega) (by omega) (by decide)
theorem pw29 (w : World) : Calls Tryd.prog 96 #[.int .i64 29] w fun e w' => e = .returned (.int .i64 536870912) ∧ w' = w := Power_as 29 536870912 w (by omega) (by omega) (by decide)
theorem pw30 (w : World) : Calls Tryd.prog 96 #[.int .i64 30] w fun e w' => e = .returned (.int .i64 1073741824) ∧ w' = w := Power_as 30 1073741824 w (by omega) (by omega) (by decide)
theorem pw31 (w : World) : Calls Tryd.prog 96 #[.int .i64 31] w fun e w' => e = .returned (.int .i64 2147483648) ∧ w' = w := Power_as 31 2147483648 w (by omega) (by omega) (by decide)
theorem pw32 (w : World) : Calls Tryd.prog 96 #[.int .i64 32] w fun e w' => e = .returned (.int .i64 4294967296) ∧ w' = w := Power_as 32 4294967296 w (by omega) (by omega) (by decide)
theorem Cut_0_6 (a : Int) (w : World) (ha : 0 ≤ a) (ha' : a < 4294967296) :
    Calls Tryd.prog 91 #[.int .u32 a, .int .i64 0, .int .i64 6] w fun e w' => e = .returned (.int .i64 (a % 128)) ∧ w' = w := by
  go_enter Tryd.func91, Tryd.ntmps91
  go_wp2_with fail
  refine (pw0 _).mono ?_
  rintro e w' ⟨rfl, rfl⟩
  go_wp2_with fail
  refine (pw7 _).mono ?_
  rintro e w' ⟨rfl, rfl⟩
  go_wp2_with fail
  go_ret
  exact ⟨rfl, rfl⟩
theorem Cut_12_14 (a : Int) (w : World) (ha : 0 ≤ a) (ha' : a < 4294967296) :
    Calls Tryd.prog 91 #[.int .u32 a, .int .i64 12, .int .i64 14] w fun e w' => e = .returned (.int .i64 (a / 4096 % 8)) ∧ w' = w := by
  go_enter Tryd.func91, Tryd.ntmps91
  go_wp2_with fail
  refine (pw12 _).mono ?_
  rintro e w' ⟨rfl, rfl⟩
  go_wp2_with fail
  refine (pw3 _).mono ?_
  rintro e w' ⟨rfl, rfl⟩
  go_wp2_with fail
  go_ret
  exact ⟨rfl, rfl⟩
theorem Cut_25_31 (a : Int) (w : World) (ha : 0 ≤ a) (ha' : a < 4294967296) :
    Calls Tryd.prog 91 #[.int .u32 a, .int .i64 25, .int .i64 31] w fun e w' => e = .returned (.int .i64 (a / 33554432)) ∧ w' = w := by
  go_enter Tryd.func91, Tryd.ntmps91
  go_wp2_with fail
  refine (pw25 _).mono ?_
  rintro e w' ⟨rfl, rfl⟩
  go_wp2_with fail
  go_ret
  exact ⟨rfl, rfl⟩
theorem Cut_27_31 (a : Int) (w : World) (ha : 0 ≤ a) (ha' : a < 4294967296) :
    Calls Tryd.prog 91 #[.int .u32 a, .int .i64 27, .int .i64 31] w fun e w' => e = .returned (.int .i64 (a / 134217728)) ∧ w' = w := by
  go_enter Tryd.func91, Tryd.ntmps91
  go_wp2_with fail
  refine (pw27 _).mono ?_
  rintro e w' ⟨rfl, rfl⟩
  go_wp2_with fail
  go_ret
  exact ⟨rfl, rfl⟩
theorem Cut_20_24 (a : Int) (w : World) (ha : 0 ≤ a) (ha' : a < 4294967296) :
    Calls Tryd.prog 91 #[.int .u32 a, .int .i64 20, .int .i64 24] w fun e w' => e = .returned (.int .i64 (a / 1048576 % 32)) ∧ w' = w := by
  go_enter Tryd.func91, Tryd.ntmps91
  go_wp2_with fail
  refine (pw20 _).mono ?_
  rintro e w' ⟨rfl, rfl⟩
  go_wp2_with fail
  refine (pw5 _).mono ?_
  rintro e w' ⟨rfl, rfl⟩
  go_wp2_with fail
  go_ret
  exact ⟨rfl, rfl⟩
theorem Cut_7_11 (a : Int) (w : World) (ha : 0 ≤ a) (ha' : a < 4294967296) :
    Calls Tryd.prog 91 #[.int .u32 a, .int .i64 7, .int .i64 11] w fun e w' => e = .returned (.int .i64 (a / 128 % 32)) ∧ w' = w := by
  go_enter Tryd.func91, Tryd.ntmps91
  go_wp2_with fail
  refine (pw7 _).mono ?_
  rintro e w' ⟨rfl, rfl⟩
  go_wp2_with fail
  refine (pw5 _).mono ?_
  rintro e w' ⟨rfl, rfl⟩
  go_wp2_with fail
  go_ret
  exact ⟨rfl, rfl⟩
theorem Cut_15_19 (a : Int) (w : World) (ha : 0 ≤ a) (ha' : a < 4294967296) :
    Calls Tryd.prog 91 #[.int .u32 a, .int .i64 15, .int .i64 19] w fun e w' => e = .returned (.int .i64 (a / 32768 % 32)) ∧ w' = w := by
  go_enter Tryd.func91, Tryd.ntmps91
  go_wp2_with fail
  refine (pw15 _).mono ?_
  rintro e w' ⟨rfl, rfl⟩
  go_wp2_with fail
  refine (pw5 _).mono ?_
  rintro e w' ⟨rfl, rfl⟩
  go_wp2_with fail
  go_ret
  exact ⟨rfl, rfl⟩
theorem Cut_31_31 (a : Int) (w : World) (ha : 0 ≤ a) (ha' : a < 4294967296) :
    Calls Tryd.prog 91 #[.int .u32 a, .int .i64 31, .int .i64 31] w fun e w' => e = .returned (.int .i64 (a / 2147483648)) ∧ w' = w := by
  go_enter Tryd.func91, Tryd.ntmps91
  go_wp2_with fail
  refine (pw31 _).mono ?_
  rintro e w' ⟨rfl, rfl⟩
  go_wp2_with fail
  go_ret
  exact ⟨rfl, rfl⟩
theorem Cut_0_11 (a : Int) (w : World) (ha : 0 ≤ a) (ha' : a < 4294967296) :
    Calls Tryd.prog 91 #[.int .u32 a, .int .i64 0, .int .i64 11] w fun e w' => e = .returned (.int .i64 (a % 4096)) ∧ w' = w := by
  go_enter Tryd.func91, Tryd.ntmps91
  go_wp2_with fail
  refine (pw0 _).mono ?_
  rintro e w' ⟨rfl, rfl⟩
  go_wp2_with fail
  refine (pw12 _).mono ?_
  rintro e w' ⟨rfl, rfl⟩
  go_wp2_with fail
  go_ret
  exact ⟨rfl, rfl⟩
theorem Cut_12_19 (a : Int) (w : World) (ha : 0 ≤ a) (ha' : a < 4294967296) :
    Calls Tryd.prog 91 #[.int .u32 a, .int .i64 12, .int .i64 19] w fun e w' => e = .returned (.int .i64 (a / 4096 % 256)) ∧ w' = w := by
  go_enter Tryd.func91, Tryd.ntmps91
  go_wp2_with fail
  refine (pw12 _).mono ?_
  rintro e w' ⟨rfl, rfl⟩
  go_wp2_with fail
  refine (pw8 _).mono ?_
  rintro e w' ⟨rfl, rfl⟩
  go_wp2_with fail
  go_ret
  exact ⟨rfl, rfl⟩
theorem Cut_20_20 (a : Int) (w : World) (ha : 0 ≤ a) (ha' : a < 4294967296) :
    Calls Tryd.prog 91 #[.int .u32 a, .int .i64 20, .int .i64 20] w fun e w' => e = .returned (.int .i64 (a / 1048576 % 2)) ∧ w' = w := by
  go_enter Tryd.func91, Tryd.ntmps91
  go_wp2_with fail
  refine (pw20 _).mono ?_
  rintro e w' ⟨rfl, rfl⟩
  go_wp2_with fail
  refine (pw1 _).mono ?_
  rintro e w' ⟨rfl, rfl⟩
  go_wp2_with fail
  go_ret
  exact ⟨rfl, rfl⟩
theorem Cut_21_30 (a : Int) (w : World) (ha : 0 ≤ a) (ha' : a < 4294967296) :
    Calls Tryd.prog 91 #[.int .u32 a, .int .i64 21, .int .i64 30] w fun e w' => e = .returned (.int .i64 (a / 2097152 % 1024)) ∧ w' = w := by
  go_enter Tryd.func91, Tryd.ntmps91
  go_wp2_with fail
  refine (pw21 _).mono ?_
  rintro e w' ⟨rfl, rfl⟩
  go_wp2_with fail
  refine (pw10 _).mono ?_
  rintro e w' ⟨rfl, rfl⟩
  go_wp2_with fail
  go_ret
  exact ⟨rfl, rfl⟩
theorem Cut_20_31 (a : Int) (w : World) (ha : 0 ≤ a) (ha' : a < 4294967296) :
    Calls Tryd.prog 91 #[.int .u32 a, .int .i64 20, .int .i64 31] w fun e w' => e = .returned (.int .i64 (a / 1048576)) ∧ w' = w := by
  go_enter Tryd.func91, Tryd.ntmps91
  go_wp2_with fail
  refine (pw20 _).mono ?_
  rintro e w' ⟨rfl, rfl⟩
  go_wp2_with fail
  go_ret
  exact ⟨rfl, rfl⟩
theorem Cut_7_7 (a : Int) (w : World) (ha : 0 ≤ a) (ha' : a < 4294967296) :
    Calls Tryd.prog 91 #[.int .u32 a, .int .i64 7, .int .i64 7] w fun e w' => e = .returned (.int .i64 (a / 128 % 2)) ∧ w' = w := by
  go_enter Tryd.func91, Tryd.ntmps91
  go_wp2_with fail
  refine (pw7 _).mono ?_
  rintro e w' ⟨rfl, rfl⟩
  go_wp2_with fail
  refine (pw1 _).mono ?_
  rintro e w' ⟨rfl, rfl⟩
  go_wp2_with fail
  go_ret
  exact ⟨rfl, rfl⟩
theorem Cut_25_30 (a : Int) (w : World) (ha : 0 ≤ a) (ha' : a < 4294967296) :
    Calls Tryd.prog 91 #[.int .u32 a, .int .i64 25, .int .i64 30] w fun e w' => e = .returned (.int .i64 (a / 33554432 % 64)) ∧ w' = w := by
  go_enter Tryd.func91, Tryd.ntmps91
  go_wp2_with fail
  refine (pw25 _).mono ?_
  rintro e w' ⟨rfl, rfl⟩
  go_wp2_with fail
  refine (pw6 _).mono ?_
  rintro e w' ⟨rfl, rfl⟩
  go_wp2_with fail
  go_ret
  exact ⟨rfl, rfl⟩
theorem Cut_8_11 (a : Int) (w : World) (ha : 0 ≤ a) (ha' : a < 4294967296) :
    Calls Tryd.prog 91 #[.int .u32 a, .int .i64 8, .int .i64 11] w fun e w' => e = .returned (.int .i64 (a / 256 % 16)) ∧ w' = w := by
  go_enter Tryd.func91, Tryd.ntmps91
  go_wp2_with fail
  refine (pw8 _).mono ?_
  rintro e w' ⟨rfl, rfl⟩
  go_wp2_with fail
  refine (pw4 _).mono ?_
  rintro e w' ⟨rfl, rfl⟩
  go_wp2_with fail
  go_ret
  exact ⟨rfl, rfl⟩
theorem Cut_25_26 (a : Int) (w : World) (ha : 0 ≤ a) (ha' : a < 4294967296) :
    Calls Tryd.prog 91 #[.int .u32 a, .int .i64 25, .int .i64 26] w fun e w' => e = .returned (.int .i64 (a / 33554432 % 4)) ∧ w' = w := by
  go_enter Tryd.func91, Tryd.ntmps91
  go_wp2_with fail
  refine (pw25 _).mono ?_
  rintro e w' ⟨rfl, rfl⟩
  go_wp2_with fail
  refine (pw2 _).mono ?_
  rintro e w' ⟨rfl, rfl⟩
  go_wp2_with fail
  go_ret
  exact ⟨rfl, rfl⟩
theorem signed_12 (n : Int) (w : World) (h0 : 0 ≤ n) (h1 : n < 4096) :
    Calls Tryd.prog 93 #[.int .i64 n, .int .i64 12] w fun e w' => e = .returned (.int .i32 (Dc.sgn 2048 n)) ∧ w' = w := by
  by_cases h : 2048 ≤ n
  · have H : Hid (Dc.sgn 2048 n = n - 4096) := (if_pos h : Dc.sgn 2048 n = _)
    go_enter Tryd.func93, Tryd.ntmps93
    go_wp2_with fail
    refine (pw11 _).mono ?_
    rintro e w' ⟨rfl, rfl⟩
    go_wp2_with fail
    refine (pw11 _).mono ?_
    rintro e w' ⟨rfl, rfl⟩
    go_wp2_with fail
    go_ret
    rw [H.out]
    exact ⟨rfl, rfl⟩
  · have H : Hid (Dc.sgn 2048 n = n) := (if_neg h : Dc.sgn 2048 n = _)
    go_enter Tryd.func93, Tryd.ntmps93
    go_wp2_with fail
    refine (pw11 _).mono ?_
    rintro e w' ⟨rfl, rfl⟩
    go_wp2_with fail
    go_ret
    rw [H.out]
    exact ⟨rfl, rfl⟩
theorem signed_13 (n : Int) (w : World) (h0 : 0 ≤ n) (h1 : n < 8192) :
    Calls Tryd.prog 93 #[.int .i64 n, .int .i64 13] w fun e w' => e = .returned (.int .i32 (Dc.sgn 4096 n)) ∧ w' = w := by
  by_cases h : 4096 ≤ n
  · have H : Hid (Dc.sgn 4096 n = n - 8192) := (if_pos h : Dc.sgn 4096 n = _)
    go_enter Tryd.func93, Tryd.ntmps93
    go_wp2_with fail
    refine (pw12 _).mono ?_
    rintro e w' ⟨rfl, rfl⟩
    go_wp2_with fail
    refine (pw12 _).mono ?_
    rintro e w' ⟨rfl, rfl⟩
    go_wp2_with fail
    go_ret
    rw [H.out]
    exact ⟨rfl, rfl⟩
  · have H : Hid (Dc.sgn 4096 n = n) := (if_neg h : Dc.sgn 4096 n = _)
    go_enter Tryd.func93, Tryd.ntmps93
    go_wp2_with fail
    refine (pw12 _).mono ?_
    rintro e w' ⟨rfl, rfl⟩
    go_wp2_with fail
    go_ret
    rw [H.out]
    exact ⟨rfl, rfl⟩
theorem signed_21 (n : Int) (w : World) (h0 : 0 ≤ n) (h1 : n < 2097152) :
    Calls Tryd.prog 93 #[.int .i64 n, .int .i64 21] w fun e w' => e = .returned (.int .i32 (Dc.sgn 1048576 n)) ∧ w' = w := by
  by_cases h : 1048576 ≤ n
  · have H : Hid (Dc.sgn 1048576 n = n - 2097152) := (if_pos h : Dc.sgn 1048576 n = _)
    go_enter Tryd.func93, Tryd.ntmps93
    go_wp2_with fail
    refine (pw20 _).mono ?_
    rintro e w' ⟨rfl, rfl⟩
    go_wp2_with fail
    refine (pw20 _).mono ?_
    rintro e w' ⟨rfl, rfl⟩
    go_wp2_with fail
    go_ret
    rw [H.out]
    exact ⟨rfl, rfl⟩
  · have H : Hid (Dc.sgn 1048576 n = n) := (if_neg h : Dc.sgn 1048576 n = _)
    go_enter Tryd.func93, Tryd.ntmps93
    go_wp2_with fail
    refine (pw20 _).mono ?_
    rintro e w' ⟨rfl, rfl⟩
    go_wp2_with fail
    go_ret
    rw [H.out]
    exact ⟨rfl, rfl⟩
/-- pick's answer: below 0, if it is none. -/
def pkR (n : Int) : List (Int × Int) → Int
  | [] => -1
  | (a, o) :: r => if n = a then o else pkR n r
theorem pkR_at : (l : List (Int × Int)) → (k : Nat) → (hk : k < l.length) → (∀ j (hj : j < l.length), j < k → l[j].1 ≠ n) → l[k].1 = n → pkR n l = l[k].2
  | (a, o) :: r, 0, _, _, h => if_pos h.symm
  | (a, o) :: r, k + 1, hk, hn, h => by
    have : n ≠ a := fun e => hn 0 (by simp) (by omega) e.symm
    unfold pkR
    rw [if_neg this]
    exact pkR_at r k (by simpa using hk) (fun j hj hjk => hn (j + 1) (by simpa using hj) (by omega)) h
theorem pkR_none : (l : List (Int × Int)) → (∀ j (hj : j < l.length), l[j].1 ≠ n) → pkR n l = -1
  | [], _ => rfl
  | (a, o) :: r, hn => by
    have : n ≠ a := fun e => hn 0 (by simp) e.symm
    unfold pkR
    rw [if_neg this]
    exact pkR_none r fun j hj => hn (j + 1) (by simpa using hj)
set_option maxHeartbeats 1000000 in
theorem pick_any (n : Int) (l : List (Int × Int)) (b1 b2 : Nat) (w : World) (hl : l.length ≤ 20)
    (h1 : ∀ i (hi : i < l.length), w.cell? ⟨b1, i, none⟩ = some (.int .i64 l[i].1)) (h2 : ∀ i (hi : i < l.length), w.cell? ⟨b2, i, none⟩ = some (.int .i64 l[i].2)) :
    Calls Tryd.prog 119 #[.int .i64 n, .slice (some ⟨b1, 0, none⟩) l.length l.length, .slice (some ⟨b2, 0, none⟩) l.length l.length] w fun e w' => e = .returned (.int .i64 (pkR n l)) ∧ w' = w := by
  go_enter Tryd.func119, Tryd.ntmps119
  go_wp2
  go_loop [7] (fun i => ∃ k : Nat, i = .int .i64 k ∧ k ≤ l.length ∧ ∀ j (hj : j < l.length), j < k → l[j].1 ≠ n) (fun i => l.length - (intOf i).toNat)
  case atStart => exact ⟨0, rfl, Nat.zero_le _, fun j _ hj => by omega⟩
  case round =>
    obtain ⟨k, rfl, hk, hn⟩ := hrel
    by_cases hlt : k < l.length
    · have c1 := h1 k hlt
      have c2 := h2 k hlt
      have N : Hid _ := hn
      have H1 : Hid _ := h1
      clear h1 h2 hn
      by_cases he : l[k].1 = n
      · have E : Hid (pkR n l = l[k].2) := pkR_at l k hlt N.out he
        have be : (l[k].1 == n) = true := by simpa using he
        clear he
        generalize l[k].1 = x at *
        generalize l[k].2 = y at *
        go_wp2
        go_ret
        exact ⟨ret_int E.out.symm, rfl⟩
      · have be : (l[k].1 == n) = false := by simpa using he
        have he' : Hid _ := he
        clear he
        generalize hx : l[k].1 = x at *
        clear hx c2
        go_wp2
        go_round
        case rel =>
          refine ⟨k + 1, by go_num, by omega, fun j hj hjk => ?_⟩
          by_cases e : j = k
          · subst e
            have := H1.out j hj
            rw [c1] at this
            simp at this
            rw [← this]; exact he'.out
          · exact N.out j hj (by omega)
        case measure => simp [intOf]; omega
    · have E : Hid (pkR n l = -1) := pkR_none l fun j hj => hn j hj (by omega)
      clear h1 h2 hn
      go_wp2
      go_ret
      exact ⟨ret_int E.out.symm, rfl⟩
end Go.Proofs.YtdiofidmlgliiaaDoor.Re
