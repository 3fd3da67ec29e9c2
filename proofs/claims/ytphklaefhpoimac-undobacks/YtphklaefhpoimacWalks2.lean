/-
  What readImm returns. Conditions: the tables hold what their initialisers lay ('Tab'); words are from 0 to 2^32 - 1.
-/
import Derived.Test.YtphklaefhpoimacWalks1
import Derived.Deep.MidRow
namespace Go.Proofs.Ytphklaefhpoimac.Dw
open Go.ChangeShapes Go.WideShapes Go.ChangeAt Go.RowKit
set_option linter.unusedVariables false

variable {u s : Int} {p : Nat → Int × Int × Int} {j k : Nat}
theorem or_add (n x : Int) (i : Nat) (h0 : 0 ≤ n) (hx : 0 ≤ x) (hm : n % 2 ^ i = 0) (hl : x < 2 ^ i) (hb : n + x < 4294967296) : bits .or .u32 n x = n + x := by
  rw [bits_or_u32 n x h0 (by omega) hx (by omega)]
  have e : n = n / 2 ^ i * 2 ^ i := by
    have := Int.mul_ediv_add_emod n (2 ^ i)
    rw [hm, Int.mul_comm] at this
    omega
  have hn : 0 ≤ n / 2 ^ i := Int.ediv_nonneg h0 (Int.pow_nonneg (by omega))
  have := bor_hi x (n / 2 ^ i) i hx hn hl
  rwa [← e] at this
theorem imm_0 (a : Int) (h0 : 0 ≤ a) (h1 : a < 4294967296) : 0 = Dc.immF 0 a := rfl
theorem imm_1 (a : Int) (h0 : 0 ≤ a) (h1 : a < 4294967296) : wrap32 (a / 4096 * 4096) = Dc.immF 1 a := by
  show _ = Wd.sg a - a % 4096
  unfold wrap32 Wd.sg; split <;> omega
theorem imm_2 (a : Int) (h0 : 0 ≤ a) (h1 : a < 4294967296) : wrap32 ((a / 2147483648 * 1048576 + a / 4096 % 256 * 4096 + a / 1048576 % 2 * 2048 + a / 2097152 % 1024 * 2) * 2048) / 2048 = Dc.immF 2 a := by
  show _ = Dc.sgn 1048576 (a / 2147483648 * 1048576 + a / 4096 % 256 * 4096 + a / 1048576 % 2 * 2048 + a / 2097152 % 1024 * 2)
  unfold wrap32 Dc.sgn; split <;> omega
theorem imm_3 (a : Int) (h0 : 0 ≤ a) (h1 : a < 4294967296) : wrap32 (a / 1048576 * 1048576) / 1048576 = Dc.immF 3 a := by
  show _ = Dc.sgn 2048 (a / 1048576)
  unfold wrap32 Dc.sgn; split <;> omega
theorem imm_4 (a : Int) (h0 : 0 ≤ a) (h1 : a < 4294967296) : a / 1048576 % 32 = Dc.immF 4 a := rfl
theorem imm_5 (a : Int) (h0 : 0 ≤ a) (h1 : a < 4294967296) : wrap32 ((a / 2147483648 * 4096 + a / 128 % 2 * 2048 + a / 33554432 % 64 * 32 + a / 256 % 16 * 2) * 524288) / 524288 = Dc.immF 5 a := by
  show _ = Dc.sgn 4096 (a / 2147483648 * 4096 + a / 128 % 2 * 2048 + a / 33554432 % 64 * 32 + a / 256 % 16 * 2)
  unfold wrap32 Dc.sgn; split <;> omega
theorem imm_6 (a : Int) (h0 : 0 ≤ a) (h1 : a < 4294967296) : wrap32 ((a / 33554432 * 32 + a / 128 % 32) * 1048576) / 1048576 = Dc.immF 6 a := by
  show _ = Dc.sgn 2048 (a / 33554432 * 32 + a / 128 % 32)
  unfold wrap32 Dc.sgn; split <;> omega
theorem imm_7 (a : Int) (h0 : 0 ≤ a) (h1 : a < 4294967296) : 0 = Dc.immF 7 a := rfl
theorem imm_8 (a : Int) (h0 : 0 ≤ a) (h1 : a < 4294967296) : a / 33554432 % 4 = Dc.immF 8 a := rfl
theorem imm_9 (a : Int) (h0 : 0 ≤ a) (h1 : a < 4294967296) : 0 = Dc.immF 9 a := rfl
theorem bor_assoc (a b c : Int) : Wd.bor (Wd.bor a b) c = Wd.bor a (Wd.bor b c) := by
  unfold Wd.bor; rw [Int.toNat_natCast, Int.toNat_natCast, Nat.or_assoc]
/-- Bits that are 0, filled. -/
theorem ins_nat (n y i c : Nat) (hz : n / 2 ^ i % 2 ^ c = 0) (hy : y < 2 ^ c) : n ||| y * 2 ^ i = n + y * 2 ^ i := by
  have e1 : n = n / 2 ^ (i + c) * 2 ^ (i + c) + n % 2 ^ i := by
    have a1 := Nat.div_add_mod n (2 ^ i)
    have a2 := Nat.div_add_mod (n / 2 ^ i) (2 ^ c)
    rw [Nat.div_div_eq_div_mul, ← Nat.pow_add, hz, Nat.add_zero] at a2
    rw [← a2, ← Nat.mul_assoc, ← Nat.pow_add, Nat.mul_comm] at a1
    exact a1.symm
  have hl : n % 2 ^ i < 2 ^ i := Nat.mod_lt _ (Nat.two_pow_pos _)
  generalize n % 2 ^ i = l at *
  generalize n / 2 ^ (i + c) = h at *
  have hx : y * 2 ^ i + l < 2 ^ (i + c) := by
    have : (y + 1) * 2 ^ i ≤ 2 ^ c * 2 ^ i := Nat.mul_le_mul_right _ hy
    rw [Nat.add_mul, Nat.one_mul] at this
    rw [Nat.pow_add, Nat.mul_comm (2 ^ i)]
    omega
  have hl' : l < 2 ^ (i + c) := by omega
  rw [e1, ← Dc.nor_add l h (i + c) hl', Nat.or_assoc, Nat.or_comm l, Dc.nor_add l y i hl, Dc.nor_add _ h (i + c) hx, Dc.nor_add l h (i + c) hl']
  omega
theorem ins_bor (n y : Int) (i c : Nat) (h0 : 0 ≤ n) (hy : 0 ≤ y) (hz : n / 2 ^ i % 2 ^ c = 0) (hl : y < 2 ^ c) : Wd.bor n (y * 2 ^ i) = n + y * 2 ^ i := by
  obtain ⟨n, rfl⟩ := Int.eq_ofNat_of_zero_le h0
  obtain ⟨y, rfl⟩ := Int.eq_ofNat_of_zero_le hy
  have p1 : ((2 : Int) ^ i) = ((2 ^ i : Nat) : Int) := by simp
  have p2 : ((2 : Int) ^ c) = ((2 ^ c : Nat) : Int) := by simp
  rw [p1, p2] at hz
  rw [p2] at hl
  have hz' : n / 2 ^ i % 2 ^ c = 0 := by exact_mod_cast hz
  have := ins_nat n y i c hz' (by omega)
  rw [p1]
  unfold Wd.bor
  rw [show (y : Int) * ((2 ^ i : Nat) : Int) = ((y * 2 ^ i : Nat) : Int) by simp, Int.toNat_natCast, Int.toNat_natCast, this]
  omega
theorem or_ins (n y : Int) (i c : Nat) (h0 : 0 ≤ n) (hy : 0 ≤ y) (hz : n / 2 ^ i % 2 ^ c = 0) (hl : y < 2 ^ c) (hb : n < 4294967296) (hx : y * 2 ^ i < 4294967296) (hx0 : 0 ≤ y * 2 ^ i) : bits .or .u32 n (y * 2 ^ i) = n + y * 2 ^ i := by
  rw [bits_or_u32 n _ h0 hb hx0 hx]
  exact ins_bor n y i c h0 hy hz hl
theorem z_2 (x y z : Int) (a1 : 0 ≤ x) (a2 : x < 2) (b1 : 0 ≤ y) (b2 : y < 256) (c1 : 0 ≤ z) (c2 : z < 2) : (x * 2147483648 + y * 4096 + z * 1048576) / 2 ^ 21 % 2 ^ 10 = 0 := by
  have : (x * 2147483648 + y * 4096 + z * 1048576) / 2 ^ 21 = x * 1024 := by omega
  rw [this]; omega
theorem z_5 (x y z : Int) (a1 : 0 ≤ x) (a2 : x < 2) (b1 : 0 ≤ y) (b2 : y < 2) (c1 : 0 ≤ z) (c2 : z < 64) : (x * 2147483648 + y * 128 + z * 33554432) / 2 ^ 8 % 2 ^ 4 = 0 := by
  have : (x * 2147483648 + y * 128 + z * 33554432) / 2 ^ 8 = x * 8388608 + z * 131072 := by omega
  rw [this]; omega
/-- A word's pieces, each moved to its place, one by one: p tells where a piece is taken, how long it is, and where it goes. -/
def orP (u : Int) (p : Nat → Int × Int × Int) : Nat → Int
  | 0 => 0
  | j + 1 => bits .or .u32 (orP u p j) (u / 2 ^ (p j).1.toNat % 2 ^ (p j).2.1.toNat * 2 ^ (p j).2.2.toNat % 4294967296)
theorem orP_zero (h : orP u p j = s) (hs : 0 ≤ s ∧ s < 4294967296) (hc : (p j).2.1 = 0) : orP u p (j + 1) = s := by
  rw [orP, h, hc]
  have e : u / 2 ^ (p j).1.toNat % 2 ^ (0 : Int).toNat * 2 ^ (p j).2.2.toNat % 4294967296 = 0 * 2 ^ 0 := by
    rw [show (2 : Int) ^ (0 : Int).toNat = 1 from rfl, Int.emod_one, Int.zero_mul]
    rfl
  rw [e, or_ins s 0 0 0 hs.1 (by omega) (by omega) (by omega) hs.2 (by omega) (by omega)]
  omega
theorem orP_ins (h : orP u p j = s) (b c a : Nat) (hp : p j = ((b : Int), (c : Int), (a : Int))) (hs : 0 ≤ s ∧ s < 4294967296) (hz : s / 2 ^ a % 2 ^ c = 0) (hc : (2 : Int) ^ c * 2 ^ a ≤ 4294967296) (h2 : (0 : Int) < 2 ^ a) (h3 : (0 : Int) < 2 ^ c) : orP u p (j + 1) = s + u / 2 ^ b % 2 ^ c * 2 ^ a := by
  rw [orP, h, hp]
  simp only [Int.toNat_natCast]
  have y0 : 0 ≤ u / 2 ^ b % 2 ^ c := Int.emod_nonneg _ (by omega)
  have y1 : u / 2 ^ b % 2 ^ c < 2 ^ c := Int.emod_lt_of_pos _ h3
  generalize u / 2 ^ b % 2 ^ c = y at *
  have y2 : 0 ≤ y * 2 ^ a := Int.mul_nonneg y0 (by omega)
  have y3 : y * 2 ^ a < 4294967296 := Int.lt_of_lt_of_le (Int.mul_lt_mul_of_pos_right y1 h2) hc
  rw [Int.emod_eq_of_lt y2 y3, or_ins s y a c hs.1 y0 hz y1 hs.2 y3 y2]
def twelve (q : Nat → Int) : Array Value := #[.int .i64 (q 0), .int .i64 (q 1), .int .i64 (q 2), .int .i64 (q 3), .int .i64 (q 4), .int .i64 (q 5), .int .i64 (q 6), .int .i64 (q 7), .int .i64 (q 8), .int .i64 (q 9), .int .i64 (q 10), .int .i64 (q 11)]
/-- A form's twelve numbers. -/
def pcs (k i : Nat) : Int := (pieces k).getD i 0
theorem pcs_at (k : Nat) (hk : k < 10) (i : Nat) (hi : i < 12) : shapes[k * 17 + 4 + i]? = some (.int .i64 (pcs k i)) := by
  have hk' : k = 0 ∨ k = 1 ∨ k = 2 ∨ k = 3 ∨ k = 4 ∨ k = 5 ∨ k = 6 ∨ k = 7 ∨ k = 8 ∨ k = 9 := by omega
  have hi' : i = 0 ∨ i = 1 ∨ i = 2 ∨ i = 3 ∨ i = 4 ∨ i = 5 ∨ i = 6 ∨ i = 7 ∨ i = 8 ∨ i = 9 ∨ i = 10 ∨ i = 11 := by omega
  rcases hk' with rfl | rfl | rfl | rfl | rfl | rfl | rfl | rfl | rfl | rfl <;> rcases hi' with rfl | rfl | rfl | rfl | rfl | rfl | rfl | rfl | rfl | rfl | rfl | rfl <;> rfl
theorem spare_at (k : Nat) (hk : k < 10) : shapes[k * 17 + 16]? = some (.int .i64 (spare k)) ∧ 0 ≤ spare k ∧ spare k ≤ 31 := by
  have hk' : k = 0 ∨ k = 1 ∨ k = 2 ∨ k = 3 ∨ k = 4 ∨ k = 5 ∨ k = 6 ∨ k = 7 ∨ k = 8 ∨ k = 9 := by omega
  rcases hk' with rfl | rfl | rfl | rfl | rfl | rfl | rfl | rfl | rfl | rfl <;> exact ⟨rfl, by decide, by decide⟩
theorem pcs_bd (k : Nat) (hk : k < 10) (i : Nat) : 0 ≤ pcs k i ∧ pcs k i ≤ 31 := by
  have h : ∀ x ∈ pieces k, 0 ≤ x ∧ x ≤ 31 := by
    have hk' : k = 0 ∨ k = 1 ∨ k = 2 ∨ k = 3 ∨ k = 4 ∨ k = 5 ∨ k = 6 ∨ k = 7 ∨ k = 8 ∨ k = 9 := by omega
    rcases hk' with rfl | rfl | rfl | rfl | rfl | rfl | rfl | rfl | rfl | rfl <;> decide
  unfold pcs
  rw [List.getD_eq_getElem?_getD]
  cases e : (pieces k)[i]? with
  | none => simp
  | some x => exact h x (List.mem_of_getElem? e)
theorem wrap_mod (x : Int) : wrap32 (x % 4294967296) = wrap32 x := by unfold wrap32; omega
/-- Where readImm takes piece j of form k, how long it is, where it goes. -/
def pR (k j : Nat) : Int × Int × Int := (pcs k (3 * j), pcs k (3 * j + 2), pcs k (3 * j + 1))
end Go.Proofs.Ytphklaefhpoimac.Dw
