/-
  What package decode's small functions return: taken, within, row, told, span. Conditions: the tables hold what their initialisers lay ('Tab'); words are from 0 to 2^32 - 1.
-/
import Derived.Test.YtphklaefhpoimacTabs
namespace Go.Proofs.Ytphklaefhpoimac.Dw
open Go.ChangeShapes Go.WideShapes Go.ChangeAt Go.RowKit
set_option linter.unusedVariables false

variable {a b : Int}
theorem ret_int {k : IntKind} (h : a = b) : Ending.returned (.int k a) = .returned (.int k b) := by rw [h]
theorem ret_bool {a b : Bool} (h : a = b) : Ending.returned (.bool a) = .returned (.bool b) := by rw [h]
theorem wrap_u32' (n : Int) : IntKind.u32.wrap n = n % 4294967296 := by rfl
theorem ofInt32 (a : Nat) (ha : (a : Int) < 4294967296) : (BitVec.ofInt 32 (a : Int)).toNat = a := by
  rw [BitVec.ofInt_natCast, BitVec.toNat_ofNat]; exact Nat.mod_eq_of_lt (by omega)
theorem bits_and_u32 (a b : Int) (ha : 0 ≤ a) (ha' : a < 4294967296) (hb : 0 ≤ b) (hb' : b < 4294967296) : bits .and .u32 a b = Wd.band a b := by
  obtain ⟨a, rfl⟩ := Int.eq_ofNat_of_zero_le ha
  obtain ⟨b, rfl⟩ := Int.eq_ofNat_of_zero_le hb
  have hx : a &&& b < 2 ^ 32 := Nat.and_lt_two_pow _ (by omega)
  show IntKind.u32.wrap ((BitVec.ofInt 32 (a : Int) &&& BitVec.ofInt 32 (b : Int)).toNat : Int) = _
  rw [BitVec.toNat_and, ofInt32 a ha', ofInt32 b hb', wrap_u32']
  simp only [Wd.band, Int.toNat_natCast]
  omega
theorem bits_or_u32 (a b : Int) (ha : 0 ≤ a) (ha' : a < 4294967296) (hb : 0 ≤ b) (hb' : b < 4294967296) : bits .or .u32 a b = Wd.bor a b := by
  obtain ⟨a, rfl⟩ := Int.eq_ofNat_of_zero_le ha
  obtain ⟨b, rfl⟩ := Int.eq_ofNat_of_zero_le hb
  have hx : a ||| b < 2 ^ 32 := Nat.or_lt_two_pow (by omega) (by omega)
  show IntKind.u32.wrap ((BitVec.ofInt 32 (a : Int) ||| BitVec.ofInt 32 (b : Int)).toNat : Int) = _
  rw [BitVec.toNat_or, ofInt32 a ha', ofInt32 b hb', wrap_u32']
  simp only [Wd.bor, Int.toNat_natCast]
  omega

theorem and_mask (x : Int) (n : Nat) (h0 : 0 ≤ x) (h1 : x < 4294967296) (hn : n ≤ 31) : bits .and .u32 x ((2 ^ n - 1) % 4294967296) = x % 2 ^ n := by
  have hp : (2 : Int) ^ n = ((2 ^ n : Nat) : Int) := by simp
  have hb : (2 : Nat) ^ n ≤ 2 ^ 31 := Nat.pow_le_pow_right (by omega) hn
  have hb0 : 0 < (2 : Nat) ^ n := Nat.two_pow_pos _
  obtain ⟨x, rfl⟩ := Int.eq_ofNat_of_zero_le h0
  have e : ((2 : Int) ^ n - 1) % 4294967296 = ((2 ^ n - 1 : Nat) : Int) := by rw [hp]; omega
  rw [e, bits_and_u32 _ _ h0 h1 (by omega) (by omega)]
  unfold Wd.band
  rw [Int.toNat_natCast, Int.toNat_natCast, Nat.and_two_pow_sub_one_eq_mod, hp]
  omega
theorem bor_lo (x y : Int) (i : Nat) (hx : 0 ≤ x) (hy : 0 ≤ y) (h : x < 2 ^ i) : Wd.bor x (y * 2 ^ i) = x + y * 2 ^ i := by
  obtain ⟨x, rfl⟩ := Int.eq_ofNat_of_zero_le hx
  obtain ⟨y, rfl⟩ := Int.eq_ofNat_of_zero_le hy
  have e : (y : Int) * 2 ^ i = ((y * 2 ^ i : Nat) : Int) := by simp
  have h' : x < 2 ^ i := by
    have : ((2 : Int) ^ i) = ((2 ^ i : Nat) : Int) := by simp
    rw [this] at h; omega
  rw [e]
  unfold Wd.bor
  rw [Int.toNat_natCast, Int.toNat_natCast, Nat.or_comm, Dc.nor_add _ _ _ h']
  omega
theorem bor_comm (x y : Int) : Wd.bor x y = Wd.bor y x := by unfold Wd.bor; rw [Nat.or_comm]
theorem bor_hi (x y : Int) (i : Nat) (hx : 0 ≤ x) (hy : 0 ≤ y) (h : x < 2 ^ i) : Wd.bor (y * 2 ^ i) x = y * 2 ^ i + x := by
  rw [bor_comm, bor_lo x y i hx hy h]; omega
theorem row_num (low m u : Int) (h1 : 0 ≤ low) (h2 : low < 4096) (h3 : 0 ≤ m) (h4 : m < 8) (h5 : 0 ≤ u) (h6 : u < 128) :
    bits .or .u32 (bits .or .u32 low (m * 4096)) (u * 33554432) = low + m * 4096 + u * 33554432 := by
  rw [show m * 4096 = m * 2 ^ 12 by omega, show u * 33554432 = u * 2 ^ 25 by omega]
  rw [bits_or_u32 low _ h1 (by omega) (by omega) (by omega), bor_lo low m 12 h1 h3 (by omega)]
  rw [bits_or_u32 _ _ (by omega) (by omega) (by omega) (by omega), bor_lo _ u 25 (by omega) h5 (by omega)]
theorem cells_new (w : World) (ms : List Int) (t : TypeId) : ∀ i n, ms[i]? = some n → (w.alloc (.cells (ms.map (Value.int .u32)).toArray t)).cell? ⟨w.heap.size, i, none⟩ = some (.int .u32 n) := by
  intro i n h
  rw [World.cell?_alloc_new]; simp [h]
theorem ret_two {c d : Int} (h : a = c) (h' : b = d) : Ending.returned (.tuple #[.int .i64 a, .int .u32 b]) = .returned (.tuple #[.int .i64 c, .int .u32 d]) := by rw [h, h']
end Go.Proofs.Ytphklaefhpoimac.Dw
