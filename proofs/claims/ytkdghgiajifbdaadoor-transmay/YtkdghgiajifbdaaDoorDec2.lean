/-
  Plain reckoning: of every word that is an instruction its fields are within bounds ('is_of_same'); and the word that is laid together of such fields is read as they are ('same_of_is').
-/
import Derived.Test.YtkdghgiajifbdaaDoorRef2dd
import Derived.Test.YtkdghgiajifbdaaDoorWalks6
namespace Go.Proofs.YtkdghgiajifbdaaDoor.Dw
open Re
set_option linter.unusedVariables false

variable {k v l m u rd rs1 rs2 : Int}
theorem tmod_zero (n k : Int) : n.tmod k = 0 ↔ n % k = 0 := by
  rw [← Int.dvd_iff_tmod_eq_zero, ← Int.dvd_iff_emod_eq_zero]
/-- The told bits of an op, and that no others are set. -/
abbrev TB (k : Int) : Prop := Dc.tbits k = Dc.tbits k % 128 + Dc.tbits k / 4096 % 8 * 4096 + Dc.tbits k / 33554432 * 33554432 ∧ 0 ≤ Dc.tbits k ∧ Dc.tbits k < 4294967296 ∧
  (Dc.frm k = 8 → Dc.tbits k / 33554432 % 4 = 0) ∧ (Dc.frm k = 1 ∨ Dc.frm k = 2 ∨ Dc.frm k = 3 ∨ Dc.frm k = 5 ∨ Dc.frm k = 6 → Dc.tbits k / 33554432 = 0) ∧ (Dc.frm k = 1 ∨ Dc.frm k = 2 → Dc.tbits k / 4096 % 8 = 0)
theorem tb_all : ∀ n : Fin 58, 1 ≤ n.val → TB (n.val : Int) := by decide +kernel
theorem tb (h1 : 1 ≤ k) (h2 : k ≤ 57) : TB k := by
  have := tb_all ⟨k.toNat, by omega⟩ (by simp; omega)
  rwa [show ((⟨k.toNat, by omega⟩ : Fin 58).val : Int) = k by simp; omega] at this
theorem tb9 (h1 : 58 ≤ k) (h2 : k ≤ 59) : 0 ≤ Dc.tbits k ∧ Dc.tbits k < 4294967296 := by
  have h : k = 58 ∨ k = 59 := by omega
  rcases h with rfl | rfl <;> decide

/-- A word of six fields. -/
theorem canon {a b c : Int} (hv : v = l + a * 128 + m * 4096 + b * 32768 + c * 1048576 + u * 33554432) (l0 : 0 ≤ l) (l1 : l < 128) (a0 : 0 ≤ a) (a1 : a < 32) (m0 : 0 ≤ m) (m1 : m < 8)
    (b0 : 0 ≤ b) (b1 : b < 32) (c0 : 0 ≤ c) (c1 : c < 32) : v % 128 = l ∧ v / 128 % 32 = a ∧ v / 4096 % 8 = m ∧ v / 32768 % 32 = b ∧ v / 1048576 % 32 = c ∧ v / 33554432 = u ∧ v / 1048576 = c + u * 32 ∧ v / 4096 = m + b * 8 + c * 256 + u * 8192 ∧ v / 128 = a + (m + b * 8 + c * 256 + u * 8192) * 32 ∧ v / 32768 = b + c * 32 + u * 1024 := by
  have e5 : v / 33554432 = u := by omega
  have e4 : v / 1048576 = c + u * 32 := by omega
  have e3 : v / 32768 = b + c * 32 + u * 1024 := by omega
  have e2 : v / 4096 = m + b * 8 + c * 256 + u * 8192 := by omega
  have e1 : v / 128 = a + (m + b * 8 + c * 256 + u * 8192) * 32 := by omega
  refine ⟨by omega, by rw [e1]; omega, by rw [e2]; omega, by rw [e3]; omega, by rw [e4]; omega, e5, e4, e2, e1, e3⟩
theorem regs_sum {T : Int} (hT : T = l + m * 4096 + u * 33554432) (l0 : 0 ≤ l) (l1 : l < 128) (m0 : 0 ≤ m) (m1 : m < 8) (u0 : 0 ≤ u) (u1 : u < 128) (a1 : 0 ≤ rd) (a2 : rd ≤ 31) (b1 : 0 ≤ rs1) (b2 : rs1 ≤ 31) (c1 : 0 ≤ rs2) (c2 : rs2 ≤ 31) :
    bits .or .u32 T (bits .or .u32 (bits .or .u32 (rd % 4294967296 * 128 % 4294967296) (rs1 % 4294967296 * 32768 % 4294967296)) (rs2 % 4294967296 * 1048576 % 4294967296)) = l + rd * 128 + m * 4096 + rs1 * 32768 + rs2 * 1048576 + u * 33554432 := by
  rw [show rd % 4294967296 * 128 % 4294967296 = rd * 2 ^ 7 by omega, show rs1 % 4294967296 * 32768 % 4294967296 = rs1 * 2 ^ 15 by omega, show rs2 % 4294967296 * 1048576 % 4294967296 = rs2 * 2 ^ 20 by omega]
  have s1 : Wd.bor (rd * 2 ^ 7) (rs1 * 2 ^ 15) = rd * 2 ^ 7 + rs1 * 2 ^ 15 := ins_bor _ _ 15 5 (by omega) b1 (by omega) (by omega)
  have s2 : Wd.bor (rd * 2 ^ 7 + rs1 * 2 ^ 15) (rs2 * 2 ^ 20) = rd * 2 ^ 7 + rs1 * 2 ^ 15 + rs2 * 2 ^ 20 := ins_bor _ _ 20 5 (by omega) c1 (by omega) (by omega)
  rw [bits_or_u32 (rd * 2 ^ 7) (rs1 * 2 ^ 15) (by omega) (by omega) (by omega) (by omega), s1, bits_or_u32 _ (rs2 * 2 ^ 20) (by omega) (by omega) (by omega) (by omega), s2,
    bits_or_u32 T _ (by omega) (by omega) (by omega) (by omega), ← s2, ← s1, ← bor_assoc, ← bor_assoc]
  have z1 : T / 2 ^ 7 = m * 32 + u * 262144 := by omega
  rw [ins_bor T rd 7 5 (by omega) a1 (by rw [z1]; omega) (by omega)]
  have z2 : (T + rd * 2 ^ 7) / 2 ^ 15 = u * 1024 := by omega
  rw [ins_bor _ rs1 15 5 (by omega) b1 (by rw [z2]; omega) (by omega)]
  have z3 : (T + rd * 2 ^ 7 + rs1 * 2 ^ 15) / 2 ^ 20 = u * 32 := by omega
  rw [ins_bor _ rs2 20 5 (by omega) c1 (by rw [z3]; omega) (by omega)]
  omega
theorem same_mk {op imm f : Int} (h0 : 0 ≤ v) (h1 : v < 4294967296) (o1 : 1 ≤ op) (o2 : op ≤ 59) (hf : Dc.frm op = f) (ht : Dc.part f v = Dc.tbits op) (hl : op = 46 → v / 1048576 % 32 = 0)
    (e1 : Dc.rdF f v = rd) (e2 : Dc.rs1F f v = rs1) (e3 : Dc.rs2F f v = rs2) (e4 : Dc.immF f v = imm) : Same op rd rs1 rs2 imm v := by
  have hr : Dc.raw v = op := Dc.told_raw h0 h1 o1 o2 (by rw [hf]; exact ht)
  have hd : Dc.dop v = op := by unfold Dc.dop; rw [hr, if_neg (by omega)]
  refine ⟨by unfold decOk; rw [hd]; simp; omega, hd, by rw [hd, hf]; exact e1, by rw [hd, hf]; exact e2, by rw [hd, hf]; exact e3, by rw [hd, hf]; exact e4⟩
end Go.Proofs.YtkdghgiajifbdaaDoor.Dw
