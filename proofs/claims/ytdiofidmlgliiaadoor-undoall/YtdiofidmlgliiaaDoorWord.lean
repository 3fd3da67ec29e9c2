/-
  Plain reckoning with words of 32 bits, as whole numbers: no program in sight. What is proved here: small facts on 'sg' (a word as a signed number) and on what Alu, Holds and Amo come to.
-/
namespace Go.Proofs.YtdiofidmlgliiaaDoor.Wd

variable {a x y : Int}
/-- A word as a signed number. -/
def sg (a : Int) : Int := if a < 2147483648 then a else a - 4294967296
def band (a b : Int) : Int := ((a.toNat &&& b.toNat : Nat) : Int)
def bor (a b : Int) : Int := ((a.toNat ||| b.toNat : Nat) : Int)
def bxor (a b : Int) : Int := ((a.toNat ^^^ b.toNat : Nat) : Int)
def tr (b : Bool) : Int := if b then 1 else 0
/-- 2 to the power of a word's lower five bits. -/
def pw (b : Int) : Int := 2 ^ (b % 32).toNat
def lo (n : Int) : Int := n % 4294967296
def hi (n : Int) : Int := n / 4294967296 % 4294967296
def dv (a b : Int) : Int := if b = 0 then 4294967295 else lo ((sg a).tdiv (sg b))
def rm (a b : Int) : Int := if b = 0 then a else lo ((sg a).tmod (sg b))
def dvu (a b : Int) : Int := if b = 0 then 4294967295 else a / b
def rmu (a b : Int) : Int := if b = 0 then a else a % b

/-- What Alu makes of two words. -/
def alu (op a b : Int) : Int :=
  if op = 28 then lo (a + b) else if op = 29 then lo (a - b) else if op = 37 then band a b else if op = 36 then bor a b
  else if op = 33 then bxor a b else if op = 30 then lo (a * pw b) else if op = 34 then a / pw b else if op = 35 then lo (sg a / pw b)
  else if op = 31 then tr (decide (sg a < sg b)) else if op = 32 then tr (decide (a < b)) else if op = 38 then lo (a * b)
  else if op = 39 then hi (sg a * sg b) else if op = 40 then hi (sg a * b) else if op = 41 then hi (a * b)
  else if op = 42 then dv a b else if op = 44 then rm a b else if op = 43 then dvu a b else if op = 45 then rmu a b else 0

/-- Whether a branch holds. -/
def holds (op a b : Int) : Bool :=
  if op = 5 then decide (a = b) else if op = 6 then decide (a ≠ b) else if op = 7 then decide (sg a < sg b) else if op = 8 then decide (sg b ≤ sg a)
  else if op = 9 then decide (a < b) else if op = 10 then decide (b ≤ a) else false

/-- What a word in memory becomes. -/
def amo (op a b : Int) : Int :=
  if op = 48 then b else if op = 49 then lo (a + b) else if op = 50 then bxor a b else if op = 51 then band a b else if op = 52 then bor a b
  else if op = 53 then (if sg a < sg b then a else b) else if op = 54 then (if sg a < sg b then b else a)
  else if op = 55 then (if a < b then a else b) else if op = 56 then (if a < b then b else a) else 0

theorem sg_bd (h0 : 0 ≤ a) (h1 : a < 4294967296) : -2147483648 ≤ sg a ∧ sg a < 2147483648 := by
  unfold sg; split <;> omega
theorem sg_lo (h0 : 0 ≤ a) (h1 : a < 4294967296) : lo (sg a) = a := by
  unfold sg lo; split <;> omega
theorem sg_zero (h0 : 0 ≤ a) (h1 : a < 4294967296) : sg a = 0 ↔ a = 0 := by
  unfold sg; split <;> omega
theorem lo_bd (n : Int) : 0 ≤ lo n ∧ lo n < 4294967296 := by unfold lo; omega
theorem band_bd {b : Int} (h0 : 0 ≤ a) (h1 : a < 4294967296) : 0 ≤ band a b ∧ band a b < 4294967296 := by
  unfold band
  have := @Nat.and_le_left a.toNat b.toNat
  omega
theorem pw_nat (b : Int) (h : 0 ≤ b) : pw b = ((2 ^ (b.toNat % 32) : Nat) : Int) := by
  unfold pw
  rw [show (b % 32).toNat = b.toNat % 32 by omega]
  simp
theorem pw_bd (b : Int) (h : 0 ≤ b) : 1 ≤ pw b ∧ pw b ≤ 2147483648 := by
  rw [pw_nat b h]
  have h1 : 2 ^ (b.toNat % 32) ≤ 2 ^ 31 := Nat.pow_le_pow_right (by omega) (by omega)
  have h2 : 0 < 2 ^ (b.toNat % 32) := Nat.two_pow_pos _
  omega
/-- A product of two signed words, and of a signed one and one that is not, has at most 64 bits. -/
theorem mul_bd (hx : -2147483648 ≤ x) (hx' : x ≤ 2147483648) (hy : -4294967296 < y) (hy' : y < 4294967296) : -9223372036854775808 ≤ x * y ∧ x * y ≤ 9223372036854775807 := by
  by_cases h : 0 ≤ x
  · have a1 : x * y ≤ x * 4294967295 := Int.mul_le_mul_of_nonneg_left (by omega) h
    have a2 : x * (-4294967295) ≤ x * y := Int.mul_le_mul_of_nonneg_left (by omega) h
    omega
  · have a1 : x * y ≤ x * (-4294967295) := Int.mul_le_mul_of_nonpos_left (by omega) (by omega)
    have a2 : x * 4294967295 ≤ x * y := Int.mul_le_mul_of_nonpos_left (by omega) (by omega)
    omega
theorem mulu_bd (hx : 0 ≤ x) (hx' : x < 4294967296) (hy : 0 ≤ y) (hy' : y < 4294967296) : 0 ≤ x * y ∧ x * y ≤ 18446744065119617025 := by
  have a1 : x * y ≤ x * 4294967295 := Int.mul_le_mul_of_nonneg_left (by omega) hx
  have a2 : 0 ≤ x * y := Int.mul_nonneg hx hy
  omega
end Go.Proofs.YtdiofidmlgliiaaDoor.Wd
