/-
  Dec3, Tl: texts of ours that lie in one file.
-/
import Derived.Test.YtchllaeembmioaaGreatDoorQ26
set_option linter.unusedVariables false
set_option linter.unusedSimpArgs false
set_option maxHeartbeats 8000000
set_option maxRecDepth 100000
namespace Go.Proofs.YtchllaeembmioaaGreatDoor.Dw
open Re

theorem or_zero (n : Int) (h0 : 0 ≤ n) (h1 : n < 4294967296) : bits .or .u32 n 0 = n := (or_add n 0 0 h0 (by omega) (by omega) (by omega) (by omega)).trans (by omega)
theorem Wv_regs {op rd rs1 rs2 imm l m u : Int} (hT : Dc.tbits op = l + m * 4096 + u * 33554432) (l0 : 0 ≤ l) (l1 : l < 128) (m0 : 0 ≤ m) (m1 : m < 8) (u0 : 0 ≤ u) (u1 : u < 128)
  (a1 : 0 ≤ rd) (a2 : rd ≤ 31) (b1 : 0 ≤ rs1) (b2 : rs1 ≤ 31) (c1 : 0 ≤ rs2) (c2 : rs2 ≤ 31) :
  Wv op rd rs1 rs2 imm = bits .or .u32 (l + rd * 128 + m * 4096 + rs1 * 32768 + rs2 * 1048576 + u * 33554432) (wI (Dc.frm op) (imm % 4294967296)) := by
 unfold Wv; rw [regs_sum hT l0 l1 m0 m1 u0 u1 a1 a2 b1 b2 c1 c2]
theorem tb_parts {op : Int} (h1 : 1 ≤ op) (h2 : op ≤ 57) : ∃ l m u, Dc.tbits op = l + m * 4096 + u * 33554432 ∧ 0 ≤ l ∧ l < 128 ∧ 0 ≤ m ∧ m < 8 ∧ 0 ≤ u ∧ u < 128 ∧ (Dc.frm op = 8 → u % 4 = 0) ∧
  (Dc.frm op = 1 ∨ Dc.frm op = 2 ∨ Dc.frm op = 3 ∨ Dc.frm op = 5 ∨ Dc.frm op = 6 → u = 0) ∧ (Dc.frm op = 1 ∨ Dc.frm op = 2 → m = 0) := by
 obtain ⟨t1, t2, t3, t4, t5, t6⟩ := tb h1 h2
 exact ⟨_, _, _, t1, by omega, by omega, by omega, by omega, by omega, by omega, t4, t5, t6⟩

theorem same_1 {op rd n : Int} (o1 : 1 ≤ op) (o2 : op ≤ 57) (hf : Dc.frm op = 1) (a1 : 0 ≤ rd) (a2 : rd ≤ 31) (n0 : -2147483648 ≤ n) (n1 : n < 2147483648) (hn : n % 4096 = 0) : Same op rd 0 0 n (Wv op rd 0 0 n) := by
 obtain ⟨l, m, u, hT, l0, l1, m0, m1, u0, u1, t8, tu, tm⟩ := tb_parts o1 o2
 have hu := tu (Or.inl hf)
 have hm := tm (Or.inl hf)
 have hb := Wv_bd op rd 0 0 n
 rw [Wv_regs hT l0 l1 m0 m1 u0 u1 a1 a2 (by omega) (by omega) (by omega) (by omega), hf] at hb ⊢
 have hD : wI 1 (n % 4294967296) = n % 4294967296 / 4096 % 1048576 * 2 ^ 12 := rfl
 have hV : bits .or .u32 (l + rd * 128 + m * 4096 + 0 * 32768 + 0 * 1048576 + u * 33554432) (wI 1 (n % 4294967296)) = l + rd * 128 + n % 4294967296 / 4096 % 1048576 * 4096 := by
  rw [hD, or_ins _ _ 12 20 (by omega) (by omega) (by omega) (by omega) (by omega) (by omega) (by omega)]; omega
 rw [hV] at hb ⊢
 generalize hv : l + rd * 128 + n % 4294967296 / 4096 % 1048576 * 4096 = v at *
 refine same_mk hb.1 hb.2 o1 (by omega) hf (show v % 128 = _ by omega) (fun h => absurd hf (by rw [h]; decide)) (show v / 128 % 32 = rd by omega) rfl rfl ?_
 show Wd.sg v - v % 4096 = n
 unfold Wd.sg; split <;> omega
theorem same_2 {op rd n : Int} (o1 : 1 ≤ op) (o2 : op ≤ 57) (hf : Dc.frm op = 2) (a1 : 0 ≤ rd) (a2 : rd ≤ 31) (n0 : -1048576 ≤ n) (n1 : n ≤ 1048574) (hn : n % 2 = 0) : Same op rd 0 0 n (Wv op rd 0 0 n) := by
 obtain ⟨l, m, u, hT, l0, l1, m0, m1, u0, u1, t8, tu, tm⟩ := tb_parts o1 o2
 have hu := tu (Or.inr (Or.inl hf))
 have hm := tm (Or.inr hf)
 have hb := Wv_bd op rd 0 0 n
 rw [Wv_regs hT l0 l1 m0 m1 u0 u1 a1 a2 (by omega) (by omega) (by omega) (by omega), hf] at hb ⊢
 have hD : wI 2 (n % 4294967296) = n % 4294967296 / 1048576 % 2 * 2147483648 + n % 4294967296 / 4096 % 256 * 4096 + n % 4294967296 / 2048 % 2 * 1048576 + n % 4294967296 / 2 % 1024 * 2097152 := rfl
 have hN : Dc.sgn 1048576 (n % 4294967296 / 1048576 % 2 * 1048576 + n % 4294967296 / 4096 % 256 * 4096 + n % 4294967296 / 2048 % 2 * 2048 + n % 4294967296 / 2 % 1024 * 2) = n := by
  unfold Dc.sgn; split <;> omega
 have x0 : 0 ≤ n % 4294967296 / 1048576 % 2 ∧ n % 4294967296 / 1048576 % 2 < 2 := by omega
 have y0 : 0 ≤ n % 4294967296 / 4096 % 256 ∧ n % 4294967296 / 4096 % 256 < 256 := by omega
 have z0 : 0 ≤ n % 4294967296 / 2048 % 2 ∧ n % 4294967296 / 2048 % 2 < 2 := by omega
 have s0 : 0 ≤ n % 4294967296 / 2 % 1024 ∧ n % 4294967296 / 2 % 1024 < 1024 := by omega
 rw [hD] at hb ⊢
 clear hD
 generalize n % 4294967296 / 1048576 % 2 = x at *
 generalize n % 4294967296 / 4096 % 256 = y at *
 generalize n % 4294967296 / 2048 % 2 = z at *
 generalize n % 4294967296 / 2 % 1024 = s at *
 have hV : bits .or .u32 (l + rd * 128 + m * 4096 + 0 * 32768 + 0 * 1048576 + u * 33554432) (x * 2147483648 + y * 4096 + z * 1048576 + s * 2097152) = l + rd * 128 + y * 4096 + z * 1048576 + s * 2097152 + x * 2147483648 := by
  rw [show x * 2147483648 + y * 4096 + z * 1048576 + s * 2097152 = (x * 524288 + y + z * 256 + s * 512) * 2 ^ 12 by omega, or_ins _ _ 12 20 (by omega) (by omega) (by omega) (by omega) (by omega) (by omega) (by omega)]; omega
 rw [hV] at hb ⊢
 generalize hv : l + rd * 128 + y * 4096 + z * 1048576 + s * 2097152 + x * 2147483648 = v at *
 have q1 : v / 2147483648 = x := by omega
 have q2 : v / 2097152 = s + x * 1024 := by omega
 have q3 : v / 1048576 = z + s * 2 + x * 2048 := by omega
 have q4 : v / 4096 = y + z * 256 + s * 512 + x * 524288 := by omega
 have q5 : v / 128 = rd + (y + z * 256 + s * 512 + x * 524288) * 32 := by omega
 refine same_mk hb.1 hb.2 o1 (by omega) hf (show v % 128 = _ by omega) (fun h => absurd hf (by rw [h]; decide)) (show v / 128 % 32 = rd by rw [q5]; omega) rfl rfl ?_
 show Dc.sgn 1048576 (v / 2147483648 * 1048576 + v / 4096 % 256 * 4096 + v / 1048576 % 2 * 2048 + v / 2097152 % 1024 * 2) = n
 rw [q1, q2, q3, q4, show (y + z * 256 + s * 512 + x * 524288) % 256 = y by omega, show (z + s * 2 + x * 2048) % 2 = z by omega, show (s + x * 1024) % 1024 = s by omega]
 exact hN
theorem same_3 {op rd rs1 n : Int} (o1 : 1 ≤ op) (o2 : op ≤ 57) (hf : Dc.frm op = 3) (a1 : 0 ≤ rd) (a2 : rd ≤ 31) (b1 : 0 ≤ rs1) (b2 : rs1 ≤ 31) (n0 : -2048 ≤ n) (n1 : n ≤ 2047) : Same op rd rs1 0 n (Wv op rd rs1 0 n) := by
 obtain ⟨l, m, u, hT, l0, l1, m0, m1, u0, u1, t8, tu, tm⟩ := tb_parts o1 o2
 have hu := tu (Or.inr (Or.inr (Or.inl hf)))
 have hb := Wv_bd op rd rs1 0 n
 rw [Wv_regs hT l0 l1 m0 m1 u0 u1 a1 a2 b1 b2 (by omega) (by omega), hf] at hb ⊢
 have hD : wI 3 (n % 4294967296) = n % 4294967296 % 4096 * 2 ^ 20 := rfl
 have hV : bits .or .u32 (l + rd * 128 + m * 4096 + rs1 * 32768 + 0 * 1048576 + u * 33554432) (wI 3 (n % 4294967296)) = l + rd * 128 + m * 4096 + rs1 * 32768 + n % 4294967296 % 4096 * 1048576 := by
  rw [hD, or_ins _ _ 20 12 (by omega) (by omega) (by omega) (by omega) (by omega) (by omega) (by omega)]; omega
 rw [hV] at hb ⊢
 have hN : Dc.sgn 2048 (n % 4294967296 % 4096) = n := by unfold Dc.sgn; split <;> omega
 have e0 : 0 ≤ n % 4294967296 % 4096 ∧ n % 4294967296 % 4096 < 4096 := by omega
 generalize n % 4294967296 % 4096 = e at *
 generalize hv : l + rd * 128 + m * 4096 + rs1 * 32768 + e * 1048576 = v at *
 obtain ⟨v1, v2, v3, v4, v5, v6, v7, _, _, _⟩ := canon (v := v) (l := l) (a := rd) (m := m) (b := rs1) (c := e % 32) (u := e / 32) (by omega) l0 l1 a1 (by omega) m0 m1 b1 (by omega) (by omega) (by omega)
 refine same_mk hb.1 hb.2 o1 (by omega) hf (show v % 128 + v / 4096 % 8 * 4096 = _ by rw [v1, v3]; omega) (fun h => absurd hf (by rw [h]; decide)) v2 v4 rfl ?_
 show Dc.sgn 2048 (v / 1048576) = n
 rw [v7, show e % 32 + e / 32 * 32 = e by omega]
 exact hN
theorem same_4 {op rd rs1 n : Int} (o1 : 1 ≤ op) (o2 : op ≤ 57) (hf : Dc.frm op = 4) (a1 : 0 ≤ rd) (a2 : rd ≤ 31) (b1 : 0 ≤ rs1) (b2 : rs1 ≤ 31) (n0 : 0 ≤ n) (n1 : n ≤ 31) : Same op rd rs1 0 n (Wv op rd rs1 0 n) := by
 obtain ⟨l, m, u, hT, l0, l1, m0, m1, u0, u1, t8, tu, tm⟩ := tb_parts o1 o2
 have hb := Wv_bd op rd rs1 0 n
 rw [Wv_regs hT l0 l1 m0 m1 u0 u1 a1 a2 b1 b2 (by omega) (by omega), hf] at hb ⊢
 have hD : wI 4 (n % 4294967296) = n * 2 ^ 20 := by show n % 4294967296 % 32 * 1048576 = _; omega
 have hz : (l + rd * 128 + m * 4096 + rs1 * 32768 + 0 * 1048576 + u * 33554432) / 2 ^ 20 = u * 32 := by omega
 have hV : bits .or .u32 (l + rd * 128 + m * 4096 + rs1 * 32768 + 0 * 1048576 + u * 33554432) (wI 4 (n % 4294967296)) = l + rd * 128 + m * 4096 + rs1 * 32768 + n * 1048576 + u * 33554432 := by
  rw [hD, or_ins _ _ 20 5 (by omega) (by omega) (by rw [hz]; omega) (by omega) (by omega) (by omega) (by omega)]; omega
 rw [hV] at hb ⊢
 generalize hv : l + rd * 128 + m * 4096 + rs1 * 32768 + n * 1048576 + u * 33554432 = v at *
 obtain ⟨v1, v2, v3, v4, v5, v6, v7, _, _, _⟩ := canon hv.symm l0 l1 a1 (by omega) m0 m1 b1 (by omega) n0 (by omega)
 exact same_mk hb.1 hb.2 o1 (by omega) hf (show v % 128 + v / 4096 % 8 * 4096 + v / 33554432 * 33554432 = _ by rw [v1, v3, v6]; omega) (fun h => absurd hf (by rw [h]; decide)) v2 v4 rfl v5
theorem two_ins {S p q : Int} (s0 : 0 ≤ S) (s1 : S < 33554432) (sz : S / 128 % 32 = 0) (p0 : 0 ≤ p) (p1 : p < 32) (q0 : 0 ≤ q) (q1 : q < 128) : bits .or .u32 S (p * 128 + q * 33554432) = S + p * 128 + q * 33554432 := by
 rw [bits_or_u32 S _ s0 (by omega) (by omega) (by omega), show p * 128 + q * 33554432 = p * 2 ^ 7 + q * 2 ^ 25 by omega, ← ins_bor (p * 2 ^ 7) q 25 7 (by omega) q0 (by omega) (by omega), ← bor_assoc,
  ins_bor S p 7 5 s0 p0 sz (by omega), ins_bor _ q 25 7 (by omega) q0 (by omega) (by omega)]
 omega
theorem same_56 {op rs1 rs2 n p q f : Int} (o1 : 1 ≤ op) (o2 : op ≤ 57) (hf : Dc.frm op = f) (f56 : f = 5 ∨ f = 6) (b1 : 0 ≤ rs1) (b2 : rs1 ≤ 31) (c1 : 0 ≤ rs2) (c2 : rs2 ≤ 31)
  (p0 : 0 ≤ p) (p1 : p < 32) (q0 : 0 ≤ q) (q1 : q < 128) (hD : wI f (n % 4294967296) = p * 128 + q * 33554432)
  (hI : ∀ v : Int, v / 33554432 = q → v / 128 % 32 = p → Dc.immF f v = n) : Same op 0 rs1 rs2 n (Wv op 0 rs1 rs2 n) := by
 obtain ⟨l, m, u, hT, l0, l1, m0, m1, u0, u1, t8, tu, tm⟩ := tb_parts o1 o2
 have hu := tu (by omega)
 have hb := Wv_bd op 0 rs1 rs2 n
 rw [Wv_regs hT l0 l1 m0 m1 u0 u1 (by omega) (by omega) b1 b2 c1 c2, hf] at hb ⊢
 have hz : (l + 0 * 128 + m * 4096 + rs1 * 32768 + rs2 * 1048576 + u * 33554432) / 128 = (m + rs1 * 8 + rs2 * 256) * 32 := by omega
 rw [hD, two_ins (by omega) (by omega) (by rw [hz]; omega) p0 p1 q0 q1] at hb ⊢
 generalize hv : l + 0 * 128 + m * 4096 + rs1 * 32768 + rs2 * 1048576 + u * 33554432 + p * 128 + q * 33554432 = v at *
 obtain ⟨v1, v2, v3, v4, v5, v6, v7, _, _, _⟩ := canon (v := v) (l := l) (a := p) (m := m) (b := rs1) (c := rs2) (u := q) (by omega) l0 l1 p0 p1 m0 m1 b1 (by omega) c1 (by omega)
 rcases f56 with rfl | rfl
 ·exact same_mk hb.1 hb.2 o1 (by omega) hf (show v % 128 + v / 4096 % 8 * 4096 = _ by rw [v1, v3]; omega) (fun h => absurd hf (by rw [h]; decide)) rfl v4 v5 (hI v v6 v2)
 ·exact same_mk hb.1 hb.2 o1 (by omega) hf (show v % 128 + v / 4096 % 8 * 4096 = _ by rw [v1, v3]; omega) (fun h => absurd hf (by rw [h]; decide)) rfl v4 v5 (hI v v6 v2)
theorem same_5 {op rs1 rs2 n : Int} (o1 : 1 ≤ op) (o2 : op ≤ 57) (hf : Dc.frm op = 5) (b1 : 0 ≤ rs1) (b2 : rs1 ≤ 31) (c1 : 0 ≤ rs2) (c2 : rs2 ≤ 31) (n0 : -4096 ≤ n) (n1 : n ≤ 4094) (hn : n % 2 = 0) : Same op 0 rs1 rs2 n (Wv op 0 rs1 rs2 n) := by
 have hN : Dc.sgn 4096 (n % 4294967296 / 4096 % 2 * 4096 + n % 4294967296 / 2048 % 2 * 2048 + n % 4294967296 / 32 % 64 * 32 + n % 4294967296 / 2 % 16 * 2) = n := by
  unfold Dc.sgn; split <;> omega
 have hD : wI 5 (n % 4294967296) = n % 4294967296 / 4096 % 2 * 2147483648 + n % 4294967296 / 2048 % 2 * 128 + n % 4294967296 / 32 % 64 * 33554432 + n % 4294967296 / 2 % 16 * 256 := rfl
 have x0 : 0 ≤ n % 4294967296 / 4096 % 2 ∧ n % 4294967296 / 4096 % 2 < 2 := by omega
 have y0 : 0 ≤ n % 4294967296 / 2048 % 2 ∧ n % 4294967296 / 2048 % 2 < 2 := by omega
 have z0 : 0 ≤ n % 4294967296 / 32 % 64 ∧ n % 4294967296 / 32 % 64 < 64 := by omega
 have s0 : 0 ≤ n % 4294967296 / 2 % 16 ∧ n % 4294967296 / 2 % 16 < 16 := by omega
 refine same_56 (p := n % 4294967296 / 2048 % 2 + n % 4294967296 / 2 % 16 * 2) (q := n % 4294967296 / 4096 % 2 * 64 + n % 4294967296 / 32 % 64) o1 o2 hf (Or.inl rfl) b1 b2 c1 c2 (by omega) (by omega) (by omega) (by omega) (by rw [hD]; omega) ?_
 intro v h1 h2
 clear hD
 generalize n % 4294967296 / 4096 % 2 = x at *
 generalize n % 4294967296 / 2048 % 2 = y at *
 generalize n % 4294967296 / 32 % 64 = z at *
 generalize n % 4294967296 / 2 % 16 = s at *
 show Dc.sgn 4096 (v / 2147483648 * 4096 + v / 128 % 2 * 2048 + v / 33554432 % 64 * 32 + v / 256 % 16 * 2) = n
 rw [show v / 2147483648 = x by omega, h1, show (x * 64 + z) % 64 = z by omega, show v / 128 % 2 = y by omega, show v / 256 % 16 = s by omega]
 exact hN
theorem same_6 {op rs1 rs2 n : Int} (o1 : 1 ≤ op) (o2 : op ≤ 57) (hf : Dc.frm op = 6) (b1 : 0 ≤ rs1) (b2 : rs1 ≤ 31) (c1 : 0 ≤ rs2) (c2 : rs2 ≤ 31) (n0 : -2048 ≤ n) (n1 : n ≤ 2047) : Same op 0 rs1 rs2 n (Wv op 0 rs1 rs2 n) := by
 have hN : Dc.sgn 2048 (n % 4294967296 / 32 % 128 * 32 + n % 4294967296 % 32) = n := by unfold Dc.sgn; split <;> omega
 have hD : wI 6 (n % 4294967296) = n % 4294967296 / 32 % 128 * 33554432 + n % 4294967296 % 32 * 128 := rfl
 refine same_56 (p := n % 4294967296 % 32) (q := n % 4294967296 / 32 % 128) o1 o2 hf (Or.inr rfl) b1 b2 c1 c2 (by omega) (by omega) (by omega) (by omega) (by rw [hD]; omega) ?_
 intro v h1 h2
 show Dc.sgn 2048 (v / 33554432 * 32 + v / 128 % 32) = n
 rw [h1, h2]; exact hN
theorem same_7 {op rd rs1 rs2 : Int} (o1 : 1 ≤ op) (o2 : op ≤ 57) (hf : Dc.frm op = 7) (a1 : 0 ≤ rd) (a2 : rd ≤ 31) (b1 : 0 ≤ rs1) (b2 : rs1 ≤ 31) (c1 : 0 ≤ rs2) (c2 : rs2 ≤ 31) : Same op rd rs1 rs2 0 (Wv op rd rs1 rs2 0) := by
 obtain ⟨l, m, u, hT, l0, l1, m0, m1, u0, u1, t8, tu, tm⟩ := tb_parts o1 o2
 have hb := Wv_bd op rd rs1 rs2 0
 rw [Wv_regs hT l0 l1 m0 m1 u0 u1 a1 a2 b1 b2 c1 c2, hf, show wI 7 (0 % 4294967296) = 0 from rfl, or_zero _ (by omega) (by omega)] at hb ⊢
 generalize hv : l + rd * 128 + m * 4096 + rs1 * 32768 + rs2 * 1048576 + u * 33554432 = v at *
 obtain ⟨v1, v2, v3, v4, v5, v6, v7, _, _, _⟩ := canon hv.symm l0 l1 a1 (by omega) m0 m1 b1 (by omega) c1 (by omega)
 exact same_mk hb.1 hb.2 o1 (by omega) hf (show v % 128 + v / 4096 % 8 * 4096 + v / 33554432 * 33554432 = _ by rw [v1, v3, v6]; omega) (fun h => absurd hf (by rw [h]; decide)) v2 v4 v5 rfl
theorem same_8 {op rd rs1 rs2 n : Int} (o1 : 1 ≤ op) (o2 : op ≤ 57) (hf : Dc.frm op = 8) (a1 : 0 ≤ rd) (a2 : rd ≤ 31) (b1 : 0 ≤ rs1) (b2 : rs1 ≤ 31) (c1 : 0 ≤ rs2) (c2 : rs2 ≤ 31) (n0 : 0 ≤ n) (n1 : n ≤ 3) (h46 : op = 46 → rs2 = 0) : Same op rd rs1 rs2 n (Wv op rd rs1 rs2 n) := by
 obtain ⟨l, m, u, hT, l0, l1, m0, m1, u0, u1, t8, tu, tm⟩ := tb_parts o1 o2
 have hu := t8 hf
 have hb := Wv_bd op rd rs1 rs2 n
 rw [Wv_regs hT l0 l1 m0 m1 u0 u1 a1 a2 b1 b2 c1 c2, hf] at hb ⊢
 have hD : wI 8 (n % 4294967296) = n * 2 ^ 25 := by show n % 4294967296 % 4 * 33554432 = _; omega
 have hz : (l + rd * 128 + m * 4096 + rs1 * 32768 + rs2 * 1048576 + u * 33554432) / 2 ^ 25 = u := by omega
 have hV : bits .or .u32 (l + rd * 128 + m * 4096 + rs1 * 32768 + rs2 * 1048576 + u * 33554432) (wI 8 (n % 4294967296)) = l + rd * 128 + m * 4096 + rs1 * 32768 + rs2 * 1048576 + (u + n) * 33554432 := by
  rw [hD, or_ins _ _ 25 2 (by omega) (by omega) (by rw [hz]; omega) (by omega) (by omega) (by omega) (by omega)]; omega
 rw [hV] at hb ⊢
 generalize hv : l + rd * 128 + m * 4096 + rs1 * 32768 + rs2 * 1048576 + (u + n) * 33554432 = v at *
 obtain ⟨v1, v2, v3, v4, v5, v6, v7, _, _, _⟩ := canon hv.symm l0 l1 a1 (by omega) m0 m1 b1 (by omega) c1 (by omega)
 have v8 : v / 134217728 = u / 4 := by omega
 exact same_mk hb.1 hb.2 o1 (by omega) hf (show v % 128 + v / 4096 % 8 * 4096 + v / 134217728 * 134217728 = _ by rw [v1, v3, v8]; omega) (fun h => by rw [v5]; exact h46 h) v2 v4 v5 (show v / 33554432 % 4 = n by rw [v6]; omega)
theorem same_9 {op : Int} (o1 : 58 ≤ op) (o2 : op ≤ 59) : Same op 0 0 0 0 (Wv op 0 0 0 0) := by
 have h : op = 58 ∨ op = 59 := by omega
 rcases h with rfl | rfl
 ·exact same_mk (f := 9) (v := Wv 58 0 0 0 0) (by decide +kernel) (by decide +kernel) (by omega) (by omega) (by decide) (by decide +kernel) (fun h => by omega) rfl rfl rfl rfl
 ·exact same_mk (f := 9) (v := Wv 59 0 0 0 0) (by decide +kernel) (by decide +kernel) (by omega) (by omega) (by decide) (by decide +kernel) (fun h => by omega) rfl rfl rfl rfl
theorem frm_at_1 {op : Int} (h1 : 1 ≤ op) (h2 : op ≤ 2) : Dc.frm op = 1 := by
 unfold Dc.frm
 repeat (first | rw [if_pos (by omega)] | rw [if_neg (by omega)])
theorem frm_at_3 {op : Int} (h1 : 3 ≤ op) (h2 : op ≤ 3) : Dc.frm op = 2 := by
 unfold Dc.frm
 repeat (first | rw [if_pos (by omega)] | rw [if_neg (by omega)])
theorem frm_at_4 {op : Int} (h1 : 4 ≤ op) (h2 : op ≤ 4) : Dc.frm op = 3 := by
 unfold Dc.frm
 repeat (first | rw [if_pos (by omega)] | rw [if_neg (by omega)])
theorem frm_at_5 {op : Int} (h1 : 5 ≤ op) (h2 : op ≤ 10) : Dc.frm op = 5 := by
 unfold Dc.frm
 repeat (first | rw [if_pos (by omega)] | rw [if_neg (by omega)])
theorem frm_at_11 {op : Int} (h1 : 11 ≤ op) (h2 : op ≤ 15) : Dc.frm op = 3 := by
 unfold Dc.frm
 repeat (first | rw [if_pos (by omega)] | rw [if_neg (by omega)])
theorem frm_at_16 {op : Int} (h1 : 16 ≤ op) (h2 : op ≤ 18) : Dc.frm op = 6 := by
 unfold Dc.frm
 repeat (first | rw [if_pos (by omega)] | rw [if_neg (by omega)])
theorem frm_at_19 {op : Int} (h1 : 19 ≤ op) (h2 : op ≤ 24) : Dc.frm op = 3 := by
 unfold Dc.frm
 repeat (first | rw [if_pos (by omega)] | rw [if_neg (by omega)])
theorem frm_at_25 {op : Int} (h1 : 25 ≤ op) (h2 : op ≤ 27) : Dc.frm op = 4 := by
 unfold Dc.frm
 repeat (first | rw [if_pos (by omega)] | rw [if_neg (by omega)])
theorem frm_at_28 {op : Int} (h1 : 28 ≤ op) (h2 : op ≤ 45) : Dc.frm op = 7 := by
 unfold Dc.frm
 repeat (first | rw [if_pos (by omega)] | rw [if_neg (by omega)])
theorem frm_at_46 {op : Int} (h1 : 46 ≤ op) (h2 : op ≤ 56) : Dc.frm op = 8 := by
 unfold Dc.frm
 repeat (first | rw [if_pos (by omega)] | rw [if_neg (by omega)])
theorem frm_at_57 {op : Int} (h1 : 57 ≤ op) (h2 : op ≤ 57) : Dc.frm op = 3 := by
 unfold Dc.frm
 repeat (first | rw [if_pos (by omega)] | rw [if_neg (by omega)])
theorem frm_at_58 {op : Int} (h1 : 58 ≤ op) (h2 : op ≤ 59) : Dc.frm op = 9 := by
 unfold Dc.frm
 repeat (first | rw [if_pos (by omega)] | rw [if_neg (by omega)])
theorem same_of_is {op rd rs1 rs2 n : Int} (h : IsP op rd rs1 rs2 n) (n0 : -2147483648 ≤ n) (n1 : n < 2147483648) : Same op rd rs1 rs2 n (Wv op rd rs1 rs2 n) := by
 obtain ⟨⟨o1, o2, a1, a2, b1, b2, c1, c2⟩, h⟩ := h
 rcases h with ⟨p, q, r⟩ | ⟨p, q, r⟩ | ⟨p, q, r⟩ | ⟨p, q, r⟩ | ⟨p, q, r⟩ | ⟨p, q, r⟩ | ⟨p, q, r⟩ | ⟨p, q, r⟩ | ⟨p, q, r⟩ | ⟨p, q, r⟩ | ⟨p, q, r⟩ | ⟨p, q, r⟩
 ·obtain ⟨rfl, rfl, r⟩ := r
  exact same_1 o1 (by omega) (frm_at_1 p q) a1 a2 n0 n1 ((tmod_zero _ _).1 r)
 ·obtain ⟨rfl, rfl, r1, r2, r⟩ := r
  exact same_2 o1 (by omega) (frm_at_3 p q) a1 a2 r1 r2 ((tmod_zero _ _).1 r)
 ·obtain ⟨rfl, r1, r2⟩ := r
  exact same_3 o1 (by omega) (frm_at_4 p q) a1 a2 b1 b2 r1 r2
 ·obtain ⟨rfl, r1, r2, r⟩ := r
  exact same_5 o1 (by omega) (frm_at_5 p q) b1 b2 c1 c2 r1 r2 ((tmod_zero _ _).1 r)
 ·obtain ⟨rfl, r1, r2⟩ := r
  exact same_3 o1 (by omega) (frm_at_11 p q) a1 a2 b1 b2 r1 r2
 ·obtain ⟨rfl, r1, r2⟩ := r
  exact same_6 o1 (by omega) (frm_at_16 p q) b1 b2 c1 c2 r1 r2
 ·obtain ⟨rfl, r1, r2⟩ := r
  exact same_3 o1 (by omega) (frm_at_19 p q) a1 a2 b1 b2 r1 r2
 ·obtain ⟨rfl, r1, r2⟩ := r
  exact same_4 o1 (by omega) (frm_at_25 p q) a1 a2 b1 b2 r1 r2
 ·subst r
  exact same_7 o1 (by omega) (frm_at_28 p q) a1 a2 b1 b2 c1 c2
 ·obtain ⟨r1, r2, r⟩ := r
  exact same_8 o1 (by omega) (frm_at_46 p q) a1 a2 b1 b2 c1 c2 r1 r2 (fun h => by omega)
 ·obtain ⟨rfl, r1, r2⟩ := r
  exact same_3 o1 (by omega) (frm_at_57 p q) a1 a2 b1 b2 r1 r2
 ·obtain ⟨rfl, rfl, rfl, rfl⟩ := r
  exact same_9 p q
theorem is_of_same {op rd rs1 rs2 n v : Int} (h0 : 0 ≤ v) (h1 : v < 4294967296) (h : Same op rd rs1 rs2 n v) : IsP op rd rs1 rs2 n := by
 obtain ⟨hok, e0, e1, e2, e3, e4⟩ := h
 have hd : Dc.dop v ≠ 0 := by simpa [decOk] using hok
 have hbd : 0 ≤ Dc.dop v ∧ Dc.dop v ≤ 59 := by
  have := Dc.raw_bd h0 h1
  unfold Dc.dop; split <;> omega
 have h46 : op = 46 → v / 1048576 % 32 = 0 := by
  intro h
  rw [h] at e0
  unfold Dc.dop at e0
  split at e0
  ·omega
  ·rename_i hh
   have : Dc.raw v = 46 := e0
   omega
 rw [e0] at hd hbd e1 e2 e3 e4
 clear hok e0
 by_cases u1 : op ≤ 2
 ·rw [frm_at_1 (by omega) (by omega)] at e1 e2 e3 e4
  have e1 : v / 128 % 32 = rd := e1
  have e2 : 0 = rs1 := e2
  have e3 : 0 = rs2 := e3
  have e4 : Wd.sg v - v % 4096 = n := e4
  exact ⟨⟨by omega, by omega, by omega, by omega, by omega, by omega, by omega, by omega⟩, Or.inl ⟨by omega, by omega, ⟨by omega, by omega, (tmod_zero _ _).2 (by unfold Wd.sg at e4; split at e4 <;> omega)⟩⟩⟩
 by_cases u3 : op ≤ 3
 ·rw [frm_at_3 (by omega) (by omega)] at e1 e2 e3 e4
  have e1 : v / 128 % 32 = rd := e1
  have e2 : 0 = rs1 := e2
  have e3 : 0 = rs2 := e3
  have e4 : Dc.sgn 1048576 (v / 2147483648 * 1048576 + v / 4096 % 256 * 4096 + v / 1048576 % 2 * 2048 + v / 2097152 % 1024 * 2) = n := e4
  exact ⟨⟨by omega, by omega, by omega, by omega, by omega, by omega, by omega, by omega⟩, Or.inr (Or.inl ⟨by omega, by omega, ⟨by omega, by omega, by unfold Dc.sgn at e4; split at e4 <;> omega, by unfold Dc.sgn at e4; split at e4 <;> omega, (tmod_zero _ _).2 (by unfold Dc.sgn at e4; split at e4 <;> omega)⟩⟩)⟩
 by_cases u4 : op ≤ 4
 ·rw [frm_at_4 (by omega) (by omega)] at e1 e2 e3 e4
  have e1 : v / 128 % 32 = rd := e1
  have e2 : v / 32768 % 32 = rs1 := e2
  have e3 : 0 = rs2 := e3
  have e4 : Dc.sgn 2048 (v / 1048576) = n := e4
  exact ⟨⟨by omega, by omega, by omega, by omega, by omega, by omega, by omega, by omega⟩, Or.inr (Or.inr (Or.inl ⟨by omega, by omega, ⟨by omega, by unfold Dc.sgn at e4; split at e4 <;> omega, by unfold Dc.sgn at e4; split at e4 <;> omega⟩⟩))⟩
 by_cases u5 : op ≤ 10
 ·rw [frm_at_5 (by omega) (by omega)] at e1 e2 e3 e4
  have e1 : 0 = rd := e1
  have e2 : v / 32768 % 32 = rs1 := e2
  have e3 : v / 1048576 % 32 = rs2 := e3
  have e4 : Dc.sgn 4096 (v / 2147483648 * 4096 + v / 128 % 2 * 2048 + v / 33554432 % 64 * 32 + v / 256 % 16 * 2) = n := e4
  exact ⟨⟨by omega, by omega, by omega, by omega, by omega, by omega, by omega, by omega⟩, Or.inr (Or.inr (Or.inr (Or.inl ⟨by omega, by omega, ⟨by omega, by unfold Dc.sgn at e4; split at e4 <;> omega, by unfold Dc.sgn at e4; split at e4 <;> omega, (tmod_zero _ _).2 (by unfold Dc.sgn at e4; split at e4 <;> omega)⟩⟩)))⟩
 by_cases u11 : op ≤ 15
 ·rw [frm_at_11 (by omega) (by omega)] at e1 e2 e3 e4
  have e1 : v / 128 % 32 = rd := e1
  have e2 : v / 32768 % 32 = rs1 := e2
  have e3 : 0 = rs2 := e3
  have e4 : Dc.sgn 2048 (v / 1048576) = n := e4
  exact ⟨⟨by omega, by omega, by omega, by omega, by omega, by omega, by omega, by omega⟩, Or.inr (Or.inr (Or.inr (Or.inr (Or.inl ⟨by omega, by omega, ⟨by omega, by unfold Dc.sgn at e4; split at e4 <;> omega, by unfold Dc.sgn at e4; split at e4 <;> omega⟩⟩))))⟩
 by_cases u16 : op ≤ 18
 ·rw [frm_at_16 (by omega) (by omega)] at e1 e2 e3 e4
  have e1 : 0 = rd := e1
  have e2 : v / 32768 % 32 = rs1 := e2
  have e3 : v / 1048576 % 32 = rs2 := e3
  have e4 : Dc.sgn 2048 (v / 33554432 * 32 + v / 128 % 32) = n := e4
  exact ⟨⟨by omega, by omega, by omega, by omega, by omega, by omega, by omega, by omega⟩, Or.inr (Or.inr (Or.inr (Or.inr (Or.inr (Or.inl ⟨by omega, by omega, ⟨by omega, by unfold Dc.sgn at e4; split at e4 <;> omega, by unfold Dc.sgn at e4; split at e4 <;> omega⟩⟩)))))⟩
 by_cases u19 : op ≤ 24
 ·rw [frm_at_19 (by omega) (by omega)] at e1 e2 e3 e4
  have e1 : v / 128 % 32 = rd := e1
  have e2 : v / 32768 % 32 = rs1 := e2
  have e3 : 0 = rs2 := e3
  have e4 : Dc.sgn 2048 (v / 1048576) = n := e4
  exact ⟨⟨by omega, by omega, by omega, by omega, by omega, by omega, by omega, by omega⟩, Or.inr (Or.inr (Or.inr (Or.inr (Or.inr (Or.inr (Or.inl ⟨by omega, by omega, ⟨by omega, by unfold Dc.sgn at e4; split at e4 <;> omega, by unfold Dc.sgn at e4; split at e4 <;> omega⟩⟩))))))⟩
 by_cases u25 : op ≤ 27
 ·rw [frm_at_25 (by omega) (by omega)] at e1 e2 e3 e4
  have e1 : v / 128 % 32 = rd := e1
  have e2 : v / 32768 % 32 = rs1 := e2
  have e3 : 0 = rs2 := e3
  have e4 : v / 1048576 % 32 = n := e4
  exact ⟨⟨by omega, by omega, by omega, by omega, by omega, by omega, by omega, by omega⟩, Or.inr (Or.inr (Or.inr (Or.inr (Or.inr (Or.inr (Or.inr (Or.inl ⟨by omega, by omega, ⟨by omega, by omega, by omega⟩⟩)))))))⟩
 by_cases u28 : op ≤ 45
 ·rw [frm_at_28 (by omega) (by omega)] at e1 e2 e3 e4
  have e1 : v / 128 % 32 = rd := e1
  have e2 : v / 32768 % 32 = rs1 := e2
  have e3 : v / 1048576 % 32 = rs2 := e3
  have e4 : 0 = n := e4
  exact ⟨⟨by omega, by omega, by omega, by omega, by omega, by omega, by omega, by omega⟩, Or.inr (Or.inr (Or.inr (Or.inr (Or.inr (Or.inr (Or.inr (Or.inr (Or.inl ⟨by omega, by omega, e4.symm⟩))))))))⟩
 by_cases u46 : op ≤ 56
 ·rw [frm_at_46 (by omega) (by omega)] at e1 e2 e3 e4
  have e1 : v / 128 % 32 = rd := e1
  have e2 : v / 32768 % 32 = rs1 := e2
  have e3 : v / 1048576 % 32 = rs2 := e3
  have e4 : v / 33554432 % 4 = n := e4
  exact ⟨⟨by omega, by omega, by omega, by omega, by omega, by omega, by omega, by omega⟩, Or.inr (Or.inr (Or.inr (Or.inr (Or.inr (Or.inr (Or.inr (Or.inr (Or.inr (Or.inl ⟨by omega, by omega, ⟨by omega, by omega, by by_cases h : op = 46; exact Or.inr (by have := h46 h; omega); exact Or.inl h⟩⟩)))))))))⟩
 by_cases u57 : op ≤ 57
 ·rw [frm_at_57 (by omega) (by omega)] at e1 e2 e3 e4
  have e1 : v / 128 % 32 = rd := e1
  have e2 : v / 32768 % 32 = rs1 := e2
  have e3 : 0 = rs2 := e3
  have e4 : Dc.sgn 2048 (v / 1048576) = n := e4
  exact ⟨⟨by omega, by omega, by omega, by omega, by omega, by omega, by omega, by omega⟩, Or.inr (Or.inr (Or.inr (Or.inr (Or.inr (Or.inr (Or.inr (Or.inr (Or.inr (Or.inr (Or.inl ⟨by omega, by omega, ⟨by omega, by unfold Dc.sgn at e4; split at e4 <;> omega, by unfold Dc.sgn at e4; split at e4 <;> omega⟩⟩))))))))))⟩
 ·rw [frm_at_58 (by omega) (by omega)] at e1 e2 e3 e4
  have e1 : 0 = rd := e1
  have e2 : 0 = rs1 := e2
  have e3 : 0 = rs2 := e3
  have e4 : 0 = n := e4
  exact ⟨⟨by omega, by omega, by omega, by omega, by omega, by omega, by omega, by omega⟩, Or.inr (Or.inr (Or.inr (Or.inr (Or.inr (Or.inr (Or.inr (Or.inr (Or.inr (Or.inr (Or.inr (⟨by omega, by omega, ⟨e1.symm, e2.symm, e3.symm, e4.symm⟩⟩)))))))))))⟩
end Go.Proofs.YtchllaeembmioaaGreatDoor.Dw
namespace Go.Proofs.YtchllaeembmioaaGreatDoor.Ts
open Go.ChangeShapes Go.WideShapes Go.ChangeAt Go.RowKit Mm Hc Mi Bk
open Hh hiding Rn

theorem immX_bd {v : Int} (f : Int) (h0 : 0 ≤ v) (h1 : v < 4294967296) : -2147483648 ≤ Dc.immF f v ∧ Dc.immF f v < 2147483648 := by
 unfold Dc.immF Wd.sg Dc.sgn
 repeat' split
 all_goals omega
theorem ivX_sound {x : Int} (h0 : 0 ≤ x) (h1 : x < 4294967296) (hx : ¬ Dc.dop x = 0) : (ivX x).Sound := by
 have b := immX_bd (Dc.frm (Dc.dop x)) h0 h1
 have hs : Dw.Same (Dc.dop x) (Dc.rdF (Dc.frm (Dc.dop x)) x) (Dc.rs1F (Dc.frm (Dc.dop x)) x) (Dc.rs2F (Dc.frm (Dc.dop x)) x) (Dc.immF (Dc.frm (Dc.dop x)) x) x := ⟨by unfold Dw.decOk; simpa using hx, rfl, rfl, rfl, rfl, rfl⟩
 exact Dw.same_of_is (Dw.is_of_same h0 h1 hs) b.1 b.2
theorem ivX_ok {x : Int} (h0 : 0 ≤ x) (h1 : x < 4294967296) (hx : ¬ Dc.dop x = 0) : (ivX x).Ok := by
 have i := ivX_in h0 h1 hx
 have b := immX_bd (Dc.frm (Dc.dop x)) h0 h1
 exact ⟨by have := i.o1; have := i.o2; unfold I64; omega, by have := i.d0; have := i.d1; unfold I64; omega, by have := i.a0; have := i.a1; unfold I64; omega, by have := i.b0; have := i.b1; unfold I64; omega, b.1, by show Dc.immF (Dc.frm (Dc.dop x)) x ≤ 2147483647; omega⟩
def Words (xs : List Int) : Prop := ∀ x ∈ xs, 0 ≤ x ∧ x < 4294967296 ∧ ¬ Dc.dop x = 0
theorem is_own {w : World} {base : Nat} {sa : Option Addr} {sc : Nat} {xs : List Int} (O : w.ownsRow base 77 5 (.slice sa xs.length sc) xs.length (blC xs)) (hx : Words xs) : Is w sa xs.length (xs.map ivX) := by
 refine ⟨by simp, fun i hi => ?_, fun h0 => ?_⟩
 ·obtain ⟨x, hm, rfl⟩ := List.mem_map.1 hi
  obtain ⟨a, b, c⟩ := hx x hm
  exact ivX_ok a b c
 ·obtain ⟨g, c, e, hg, hc⟩ := at_own O h0
  injection e with e1 _ _
  refine ⟨g, 0, e1, hg, fun j i hj => ?_⟩
  rw [List.getElem?_map] at hj
  cases hxj : xs[j]? with
  | none => rw [hxj] at hj; cases hj
  | some x =>
   rw [hxj] at hj
   simp at hj
   subst hj
   rw [Nat.zero_add]
   have q := fun t (ht : t < 5) => blC_get xs j t x hxj ht
   refine ⟨hc _ _ ?_, hc _ _ ?_, hc _ _ ?_, hc _ _ ?_, hc _ _ ?_⟩
   ·have := q 0 (by omega); rwa [Nat.add_zero] at this
   ·exact q 1 (by omega)
   ·exact q 2 (by omega)
   ·exact q 3 (by omega)
   ·exact q 4 (by omega)
theorem blk_words (l : List UInt8) (pc : Int) : Words (blk l pc 16 0) := fun x hx => by
 obtain ⟨j, hj⟩ := List.mem_iff_getElem?.1 hx
 obtain ⟨a, b, _⟩ := (blk_facts l pc 16 0).2 j (List.getElem?_eq_some_iff.1 hj).1
 rw [Nat.zero_add] at a b
 rw [b] at hj
 injection hj with hj
 subst hj
 have := W.ldV l 13 (at4 pc j)
 exact ⟨this.1, this.2, (ft_zero a).2⟩
theorem Make_ctw {w : World} (pc : Int) {b : Nat} {sa : Option Addr} (sc : Nat) {xs : List Int} (O : w.ownsRow b 77 5 (.slice sa xs.length sc) xs.length (blC xs)) (hx : Words xs) (T : Dw.Tab w) (Q : Tq w) (hn : xs.length ≤ 16) : Calls Tryz.prog 72 #[.agg #[.int .u32 pc, .slice sa xs.length sc]] w fun e w' => ∃ ca cn cc, e = .returned (.slice ca cn cc) ∧ Ct w' ca cn (codeV pc (xs.map ivX) 0) ∧ Gr w w' :=
 Make_ct pc sc (is_own O hx) T Q hn fun i hi => by
  obtain ⟨x, hm, rfl⟩ := List.mem_map.1 hi
  obtain ⟨a, b, c⟩ := hx x hm
  exact ivX_sound a b c
end Go.Proofs.YtchllaeembmioaaGreatDoor.Ts
