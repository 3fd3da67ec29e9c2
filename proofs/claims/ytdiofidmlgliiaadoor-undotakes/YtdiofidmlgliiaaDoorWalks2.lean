/-
  What readImm returns. Conditions: the tables hold what their initialisers lay ('Tab'); words are from 0 to 2^32 - 1.
-/
import Derived.Test.YtdiofidmlgliiaaDoorWalks1
import Derived.Deep.MidRow
namespace Go.Proofs.YtdiofidmlgliiaaDoor.Dw
open Go.ChangeShapes Go.WideShapes Go.ChangeAt Go.RowKit
set_option linter.unusedVariables false

variable {u s : Int} {p : Nat → Int × Int × Int} {j k : Nat}
theorem or_add (n x : Int) (i : Nat) (h0 : 0 ≤ n) (hx : 0 ≤ x) (hm : n % 2 ^ i = 0) (hl : x < 2 ^ i) (hb : n + x < 4294967296) : bits .or .u32 n x = n + x := by
  rw [bits_or_u32 n x h0 (by omega) hx (by omega)]
  have e : n = n / 2 ^ i * 2 ^ i := by
    have := Int.mul_ediv_add_emod n (2 ^ i)
    rw [hm, Int.mul_comm] at this
    omega
  have hn : 0 ≤ n / 2 ^ i := Int.ediv_nonneg h0 (Int.pow_nonneg (by omega))
  have := bor_hi x (n / 2 ^ i) i hx hn hl
  rwa [← e] at this
theorem imm_0 (a : Int) (h0 : 0 ≤ a) (h1 : a < 4294967296) : 0 = Dc.immF 0 a := rfl
theorem imm_1 (a : Int) (h0 : 0 ≤ a) (h1 : a < 4294967296) : wrap32 (a / 4096 * 4096) = Dc.immF 1 a := by
  show _ = Wd.sg a - a % 4096
  unfold wrap32 Wd.sg; split <;> omega
theorem imm_2 (a : Int) (h0 : 0 ≤ a) (h1 : a < 4294967296) : wrap32 ((a / 2147483648 * 1048576 + a / 4096 % 256 * 4096 + a / 1048576 % 2 * 2048 + a / 2097152 % 1024 * 2) * 2048) / 2048 = Dc.immF 2 a := by
  show _ = Dc.sgn 1048576 (a / 2147483648 * 1048576 + a / 4096 % 256 * 4096 + a / 1048576 % 2 * 2048 + a / 2097152 % 1024 * 2)
  unfold wrap32 Dc.sgn; split <;> omega
theorem imm_3 (a : Int) (h0 : 0 ≤ a) (h1 : a < 4294967296) : wrap32 (a / 1048576 * 1048576) / 1048576 = Dc.immF 3 a := by
  show _ = Dc.sgn 2048 (a / 1048576)
  unfold wrap32 Dc.sgn; split <;> omega
theorem imm_4 (a : Int) (h0 : 0 ≤ a) (h1 : a < 4294967296) : a / 1048576 % 32 = Dc.immF 4 a := rfl
theorem imm_5 (a : Int) (h0 : 0 ≤ a) (h1 : a < 4294967296) : wrap32 ((a / 2147483648 * 4096 + a / 128 % 2 * 2048 + a / 33554432 % 64 * 32 + a / 256 % 16 * 2) * 524288) / 524288 = Dc.immF 5 a := by
  show _ = Dc.sgn 4096 (a / 2147483648 * 4096 + a / 128 % 2 * 2048 + a / 33554432 % 64 * 32 + a / 256 % 16 * 2)
  unfold wrap32 Dc.sgn; split <;> omega
theorem imm_6 (a : Int) (h0 : 0 ≤ a) (h1 : a < 4294967296) : wrap32 ((a / 33554432 * 32 + a / 128 % 32) * 1048576) / 1048576 = Dc.immF 6 a := by
  show _ = Dc.sgn 2048 (a / 33554432 * 32 + a / 128 % 32)
  unfold wrap32 Dc.sgn; split <;> omega
theorem imm_7 (a : Int) (h0 : 0 ≤ a) (h1 : a < 4294967296) : 0 = Dc.immF 7 a := rfl
theorem imm_8 (a : Int) (h0 : 0 ≤ a) (h1 : a < 4294967296) : a / 33554432 % 4 = Dc.immF 8 a := rfl
theorem imm_9 (a : Int) (h0 : 0 ≤ a) (h1 : a < 4294967296) : 0 = Dc.immF 9 a := rfl
theorem bor_assoc (a b c : Int) : Wd.bor (Wd.bor a b) c = Wd.bor a (Wd.bor b c) := by
  unfold Wd.bor; rw [Int.toNat_natCast, Int.toNat_natCast, Nat.or_assoc]
/-- Bits that are 0, filled. -/
theorem ins_nat (n y i c : Nat) (hz : n / 2 ^ i % 2 ^ c = 0) (hy : y < 2 ^ c) : n ||| y * 2 ^ i = n + y * 2 ^ i := by
  have e1 : n = n / 2 ^ (i + c) * 2 ^ (i + c) + n % 2 ^ i := by
    have a1 := Nat.div_add_mod n (2 ^ i)
    have a2 := Nat.div_add_mod (n / 2 ^ i) (2 ^ c)
    rw [Nat.div_div_eq_div_mul, ← Nat.pow_add, hz, Nat.add_zero] at a2
    rw [← a2, ← Nat.mul_assoc, ← Nat.pow_add, Nat.mul_comm] at a1
    exact a1.symm
  have hl : n % 2 ^ i < 2 ^ i := Nat.mod_lt _ (Nat.two_pow_pos _)
  generalize n % 2 ^ i = l at *
  generalize n / 2 ^ (i + c) = h at *
  have hx : y * 2 ^ i + l < 2 ^ (i + c) := by
    have : (y + 1) * 2 ^ i ≤ 2 ^ c * 2 ^ i := Nat.mul_le_mul_right _ hy
    rw [Nat.add_mul, Nat.one_mul] at this
    rw [Nat.pow_add, Nat.mul_comm (2 ^ i)]
    omega
  have hl' : l < 2 ^ (i + c) := by omega
  rw [e1, ← Dc.nor_add l h (i + c) hl', Nat.or_assoc, Nat.or_comm l, Dc.nor_add l y i hl, Dc.nor_add _ h (i + c) hx, Dc.nor_add l h (i + c) hl']
  omega
theorem ins_bor (n y : Int) (i c : Nat) (h0 : 0 ≤ n) (hy : 0 ≤ y) (hz : n / 2 ^ i % 2 ^ c = 0) (hl : y < 2 ^ c) : Wd.bor n (y * 2 ^ i) = n + y * 2 ^ i := by
  obtain ⟨n, rfl⟩ := Int.eq_ofNat_of_zero_le h0
  obtain ⟨y, rfl⟩ := Int.eq_ofNat_of_zero_le hy
  have p1 : ((2 : Int) ^ i) = ((2 ^ i : Nat) : Int) := by simp
  have p2 : ((2 : Int) ^ c) = ((2 ^ c : Nat) : Int) := by simp
  rw [p1, p2] at hz
  rw [p2] at hl
  have hz' : n / 2 ^ i % 2 ^ c = 0 := by exact_mod_cast hz
  have := ins_nat n y i c hz' (by omega)
  rw [p1]
  unfold Wd.bor
  rw [show (y : Int) * ((2 ^ i : Nat) : Int) = ((y * 2 ^ i : Nat) : Int) by simp, Int.toNat_natCast, Int.toNat_natCast, this]
  omega
theorem or_ins (n y : Int) (i c : Nat) (h0 : 0 ≤ n) (hy : 0 ≤ y) (hz : n / 2 ^ i % 2 ^ c = 0) (hl : y < 2 ^ c) (hb : n < 4294967296) (hx : y * 2 ^ i < 4294967296) (hx0 : 0 ≤ y * 2 ^ i) : bits .or .u32 n (y * 2 ^ i) = n + y * 2 ^ i := by
  rw [bits_or_u32 n _ h0 hb hx0 hx]
  exact ins_bor n y i c h0 hy hz hl
theorem z_2 (x y z : Int) (a1 : 0 ≤ x) (a2 : x < 2) (b1 : 0 ≤ y) (b2 : y < 256) (c1 : 0 ≤ z) (c2 : z < 2) : (x * 2147483648 + y * 4096 + z * 1048576) / 2 ^ 21 % 2 ^ 10 = 0 := by
  have : (x * 2147483648 + y * 4096 + z * 1048576) / 2 ^ 21 = x * 1024 := by omega
  rw [this]; omega
theorem z_5 (x y z : Int) (a1 : 0 ≤ x) (a2 : x < 2) (b1 : 0 ≤ y) (b2 : y < 2) (c1 : 0 ≤ z) (c2 : z < 64) : (x * 2147483648 + y * 128 + z * 33554432) / 2 ^ 8 % 2 ^ 4 = 0 := by
  have : (x * 2147483648 + y * 128 + z * 33554432) / 2 ^ 8 = x * 8388608 + z * 131072 := by omega
  rw [this]; omega
/-- What readImm answers of a form. -/
def ReadImm (f : Int) : Prop := ∀ (a : Int) (w : World), Tab w → 0 ≤ a → a < 4294967296 → Calls Tryd.prog 109 #[.int .i64 f, .int .u32 a] w fun e w' => e = .returned (.int .i32 (Dc.immF f a)) ∧ Gr w w'

/-- A word's pieces, each moved to its place, one by one: p tells where a piece is taken, how long it is, and where it goes. -/
def orP (u : Int) (p : Nat → Int × Int × Int) : Nat → Int
  | 0 => 0
  | j + 1 => bits .or .u32 (orP u p j) (u / 2 ^ (p j).1.toNat % 2 ^ (p j).2.1.toNat * 2 ^ (p j).2.2.toNat % 4294967296)
theorem orP_zero (h : orP u p j = s) (hs : 0 ≤ s ∧ s < 4294967296) (hc : (p j).2.1 = 0) : orP u p (j + 1) = s := by
  rw [orP, h, hc]
  have e : u / 2 ^ (p j).1.toNat % 2 ^ (0 : Int).toNat * 2 ^ (p j).2.2.toNat % 4294967296 = 0 * 2 ^ 0 := by
    rw [show (2 : Int) ^ (0 : Int).toNat = 1 from rfl, Int.emod_one, Int.zero_mul]
    rfl
  rw [e, or_ins s 0 0 0 hs.1 (by omega) (by omega) (by omega) hs.2 (by omega) (by omega)]
  omega
theorem orP_ins (h : orP u p j = s) (b c a : Nat) (hp : p j = ((b : Int), (c : Int), (a : Int))) (hs : 0 ≤ s ∧ s < 4294967296) (hz : s / 2 ^ a % 2 ^ c = 0) (hc : (2 : Int) ^ c * 2 ^ a ≤ 4294967296) (h2 : (0 : Int) < 2 ^ a) (h3 : (0 : Int) < 2 ^ c) : orP u p (j + 1) = s + u / 2 ^ b % 2 ^ c * 2 ^ a := by
  rw [orP, h, hp]
  simp only [Int.toNat_natCast]
  have y0 : 0 ≤ u / 2 ^ b % 2 ^ c := Int.emod_nonneg _ (by omega)
  have y1 : u / 2 ^ b % 2 ^ c < 2 ^ c := Int.emod_lt_of_pos _ h3
  generalize u / 2 ^ b % 2 ^ c = y at *
  have y2 : 0 ≤ y * 2 ^ a := Int.mul_nonneg y0 (by omega)
  have y3 : y * 2 ^ a < 4294967296 := Int.lt_of_lt_of_le (Int.mul_lt_mul_of_pos_right y1 h2) hc
  rw [Int.emod_eq_of_lt y2 y3, or_ins s y a c hs.1 y0 hz y1 hs.2 y3 y2]
def twelve (q : Nat → Int) : Array Value := #[.int .i64 (q 0), .int .i64 (q 1), .int .i64 (q 2), .int .i64 (q 3), .int .i64 (q 4), .int .i64 (q 5), .int .i64 (q 6), .int .i64 (q 7), .int .i64 (q 8), .int .i64 (q 9), .int .i64 (q 10), .int .i64 (q 11)]
theorem idx12 (q : Nat → Int) (w : World) : ∀ j, j < 4 → (Instr.index 155 (.agg (twelve q)) (.int .i64 (j : Nat))).run Tryd.prog w = .ok (.agg #[.int .i64 (q (3 * j)), .int .i64 (q (3 * j + 1)), .int .i64 (q (3 * j + 2))]) w
  | 0, _ => by kernel_rfl
  | 1, _ => by kernel_rfl
  | 2, _ => by kernel_rfl
  | 3, _ => by kernel_rfl
  | j + 4, h => absurd h (by omega)
/-- A form's twelve numbers. -/
def pcs (k i : Nat) : Int := (pieces k).getD i 0
theorem pcs_at (k : Nat) (hk : k < 10) (i : Nat) (hi : i < 12) : shapes[k * 17 + 4 + i]? = some (.int .i64 (pcs k i)) := by
  have hk' : k = 0 ∨ k = 1 ∨ k = 2 ∨ k = 3 ∨ k = 4 ∨ k = 5 ∨ k = 6 ∨ k = 7 ∨ k = 8 ∨ k = 9 := by omega
  have hi' : i = 0 ∨ i = 1 ∨ i = 2 ∨ i = 3 ∨ i = 4 ∨ i = 5 ∨ i = 6 ∨ i = 7 ∨ i = 8 ∨ i = 9 ∨ i = 10 ∨ i = 11 := by omega
  rcases hk' with rfl | rfl | rfl | rfl | rfl | rfl | rfl | rfl | rfl | rfl <;> rcases hi' with rfl | rfl | rfl | rfl | rfl | rfl | rfl | rfl | rfl | rfl | rfl | rfl <;> rfl
theorem spare_at (k : Nat) (hk : k < 10) : shapes[k * 17 + 16]? = some (.int .i64 (spare k)) ∧ 0 ≤ spare k ∧ spare k ≤ 31 := by
  have hk' : k = 0 ∨ k = 1 ∨ k = 2 ∨ k = 3 ∨ k = 4 ∨ k = 5 ∨ k = 6 ∨ k = 7 ∨ k = 8 ∨ k = 9 := by omega
  rcases hk' with rfl | rfl | rfl | rfl | rfl | rfl | rfl | rfl | rfl | rfl <;> exact ⟨rfl, by decide, by decide⟩
theorem pcs_bd (k : Nat) (hk : k < 10) (i : Nat) : 0 ≤ pcs k i ∧ pcs k i ≤ 31 := by
  have h : ∀ x ∈ pieces k, 0 ≤ x ∧ x ≤ 31 := by
    have hk' : k = 0 ∨ k = 1 ∨ k = 2 ∨ k = 3 ∨ k = 4 ∨ k = 5 ∨ k = 6 ∨ k = 7 ∨ k = 8 ∨ k = 9 := by omega
    rcases hk' with rfl | rfl | rfl | rfl | rfl | rfl | rfl | rfl | rfl | rfl <;> decide
  unfold pcs
  rw [List.getD_eq_getElem?_getD]
  cases e : (pieces k)[i]? with
  | none => simp
  | some x => exact h x (List.mem_of_getElem? e)
theorem range12 (hk : k < 10) {w : World} (T : Tab w) : w.rangeAt 2 (k * 17 + 4) (twelve (pcs k)).toList := fun j v hv => by
  have hj : j < 12 := (List.getElem?_eq_some_iff.1 hv).1
  have : (twelve (pcs k)).toList[j]? = some (.int .i64 (pcs k j)) := by
    have hj' : j = 0 ∨ j = 1 ∨ j = 2 ∨ j = 3 ∨ j = 4 ∨ j = 5 ∨ j = 6 ∨ j = 7 ∨ j = 8 ∨ j = 9 ∨ j = 10 ∨ j = 11 := by omega
    rcases hj' with rfl | rfl | rfl | rfl | rfl | rfl | rfl | rfl | rfl | rfl | rfl | rfl <;> rfl
  rw [this] at hv
  injection hv with hv
  rw [← hv]
  exact T.shapes _ _ (pcs_at k hk j hj)
theorem wrap_mod (x : Int) : wrap32 (x % 4294967296) = wrap32 x := by unfold wrap32; omega
/-- Where readImm takes piece j of form k, how long it is, where it goes. -/
def pR (k j : Nat) : Int × Int × Int := (pcs k (3 * j), pcs k (3 * j + 2), pcs k (3 * j + 1))
set_option maxHeartbeats 1000000 in
set_option maxRecDepth 100000 in
theorem ri_gen (hk : k < 10) (a : Int) (w : World) (T : Tab w) (u0 : 0 ≤ a) (u1 : a < 4294967296) :
    Calls Tryd.prog 109 #[.int .i64 k, .int .u32 a] w fun e w' => e = .returned (.int .i32 (wrap32 (orP a (pR k) 4 * 2 ^ (spare k).toNat) / 2 ^ (spare k).toNat)) ∧ Gr w w' := by
  have HX : Hid (∀ j, j < 4 → ∀ w : World, (Instr.index 155 (.agg (twelve (pcs k))) (.int .i64 (j : Nat))).run Tryd.prog w = .ok (.agg #[.int .i64 (pcs k (3 * j)), .int .i64 (pcs k (3 * j + 1)), .int .i64 (pcs k (3 * j + 2))]) w) := fun j h w => idx12 (pcs k) w j h
  have HR := range12 hk T
  have hsz : (Tryd.prog.info? 155).map (·.size) = some (twelve (pcs k)).toList.length := by kernel_rfl
  have HT : Hid _ := T
  have hb := pcs_bd k hk
  obtain ⟨s1, s2, s3⟩ := spare_at k hk
  have HS1 : Hid _ := s1
  have HP : Hid (∀ j, orP a (pR k) (j + 1) = bits .or .u32 (orP a (pR k) j) (a / 2 ^ (pcs k (3 * j)).toNat % 2 ^ (pcs k (3 * j + 2)).toNat * 2 ^ (pcs k (3 * j + 1)).toNat % 4294967296)) := fun j => rfl
  clear T s1
  generalize spare k = sp at *
  go_enter Tryd.func109, Tryd.ntmps109
  go_wp2_with (refine wpList_load_mid rfl 155 _ rfl 2 (k * 17 + 4) rfl (twelve (pcs k)).toList _ HR Tryd.underlying155 rfl hsz ?_)
  go_loopw [5, 13] (fun s i wr => Gr w wr ∧ ∃ j : Nat, j ≤ 4 ∧ i = .int .i64 j ∧ s = .int .u32 (orP a (pR k) j)) (fun _ i _ => 4 - (intOf i).toNat)
  case atStart => exact ⟨Gr.refl _, 0, Nat.zero_le _, rfl, rfl⟩
  case round =>
    obtain ⟨g, j, hj, rfl, rfl⟩ := hrel
    by_cases hlt : j < 4
    · have x := HX.out j hlt
      obtain ⟨b0, b1⟩ := hb (3 * j)
      obtain ⟨d0, d1⟩ := hb (3 * j + 1)
      obtain ⟨e0, e1⟩ := hb (3 * j + 2)
      have HO : Hid (orP a (pR k) (j + 1) = bits .or .u32 (orP a (pR k) j) (a / 2 ^ (pcs k (3 * j)).toNat % 2 ^ (pcs k (3 * j + 2)).toNat * 2 ^ (pcs k (3 * j + 1)).toNat % 4294967296)) := HP.out j
      generalize orP a (pR k) j = s at *
      generalize pcs k (3 * j) = qa at *
      generalize pcs k (3 * j + 1) = qb at *
      generalize pcs k (3 * j + 2) = qc at *
      obtain ⟨y, hy⟩ : ∃ y, a / 2 ^ qa.toNat % 2 ^ qc.toNat = y := ⟨_, rfl⟩
      rw [hy] at HO
      have HY : Hid _ := hy
      clear hy
      go_wp2
      refine wp_region_quiet_lit (by kernel_rfl) (by kernel_rfl) ?_
      iterate 6 go_big_quiet_step (fail)
      go_big_quiet_step (exact Calls.quiet_of (taken_as a qa qc y _ u0 u1 b0 b1 e0 e1 HY.out))
      iterate 5 go_big_quiet_step (fail)
      refine wpQuiet_nil ?_; intro _ h; obtain ⟨nq, h2⟩ := h; subst h2
      go_wp2
      go_roundw
      case rel => exact ⟨(g.alloc _ _).drewN _, j + 1, by omega, by go_num, by rw [HO.out]⟩
      case measure => simp [intOf]; omega
    · have ej : j = 4 := by omega
      subst ej
      have c16 : wr.cell? ⟨2, k * 17 + 16, none⟩ = some (.int .i64 sp) := (HT.out.of g).shapes _ _ HS1.out
      go_wp2
      go_ret
      exact ⟨ret_int (by rw [wrap_mod]), g⟩
theorem readImm_0 : ReadImm 0 := by
  intro a w T h0 h1
  refine (ri_gen (k := 0) (by omega) a w T h0 h1).mono fun e w' ⟨he, hg⟩ => ⟨he.trans (ret_int ?_), hg⟩
  have e0 : orP a (pR 0) 0 = 0 := rfl
  have e1 := orP_zero e0 ⟨by omega, by omega⟩ rfl
  have e2 := orP_zero e1 ⟨by omega, by omega⟩ rfl
  have e3 := orP_zero e2 ⟨by omega, by omega⟩ rfl
  have e4 := orP_zero e3 ⟨by omega, by omega⟩ rfl
  rw [e4]
  refine Eq.trans ?_ (imm_0 a h0 h1)
  show wrap32 (_ * 1) / 1 = _
  rw [Int.mul_one, Int.ediv_one]
  unfold wrap32
  omega
theorem readImm_1 : ReadImm 1 := by
  intro a w T h0 h1
  refine (ri_gen (k := 1) (by omega) a w T h0 h1).mono fun e w' ⟨he, hg⟩ => ⟨he.trans (ret_int ?_), hg⟩
  have e0 : orP a (pR 1) 0 = 0 := rfl
  have e1 := orP_ins e0 12 20 12 rfl ⟨by omega, by omega⟩ (by omega) (by decide) (by decide) (by decide)
  have e2 := orP_zero e1 ⟨by omega, by omega⟩ rfl
  have e3 := orP_zero e2 ⟨by omega, by omega⟩ rfl
  have e4 := orP_zero e3 ⟨by omega, by omega⟩ rfl
  rw [e4]
  refine Eq.trans ?_ (imm_1 a h0 h1)
  show wrap32 (_ * 1) / 1 = _
  rw [Int.mul_one, Int.ediv_one]
  congr 1
  omega
theorem readImm_2 : ReadImm 2 := by
  intro a w T h0 h1
  refine (ri_gen (k := 2) (by omega) a w T h0 h1).mono fun e w' ⟨he, hg⟩ => ⟨he.trans (ret_int ?_), hg⟩
  have e0 : orP a (pR 2) 0 = 0 := rfl
  have e1 := orP_ins e0 31 1 20 rfl ⟨by omega, by omega⟩ (by omega) (by decide) (by decide) (by decide)
  have e2 := orP_ins e1 12 8 12 rfl ⟨by omega, by omega⟩ (by omega) (by decide) (by decide) (by decide)
  have e3 := orP_ins e2 20 1 11 rfl ⟨by omega, by omega⟩ (by omega) (by decide) (by decide) (by decide)
  have e4 := orP_ins e3 21 10 1 rfl ⟨by omega, by omega⟩ (by omega) (by decide) (by decide) (by decide)
  rw [e4]
  refine Eq.trans ?_ (imm_2 a h0 h1)
  show wrap32 (_ * 2048) / 2048 = _
  congr 3
  omega
theorem readImm_3 : ReadImm 3 := by
  intro a w T h0 h1
  refine (ri_gen (k := 3) (by omega) a w T h0 h1).mono fun e w' ⟨he, hg⟩ => ⟨he.trans (ret_int ?_), hg⟩
  have e0 : orP a (pR 3) 0 = 0 := rfl
  have e1 := orP_ins e0 20 12 0 rfl ⟨by omega, by omega⟩ (by omega) (by decide) (by decide) (by decide)
  have e2 := orP_zero e1 ⟨by omega, by omega⟩ rfl
  have e3 := orP_zero e2 ⟨by omega, by omega⟩ rfl
  have e4 := orP_zero e3 ⟨by omega, by omega⟩ rfl
  rw [e4]
  refine Eq.trans ?_ (imm_3 a h0 h1)
  show wrap32 (_ * 1048576) / 1048576 = _
  congr 2
  omega
theorem readImm_4 : ReadImm 4 := by
  intro a w T h0 h1
  refine (ri_gen (k := 4) (by omega) a w T h0 h1).mono fun e w' ⟨he, hg⟩ => ⟨he.trans (ret_int ?_), hg⟩
  have e0 : orP a (pR 4) 0 = 0 := rfl
  have e1 := orP_ins e0 20 5 0 rfl ⟨by omega, by omega⟩ (by omega) (by decide) (by decide) (by decide)
  have e2 := orP_zero e1 ⟨by omega, by omega⟩ rfl
  have e3 := orP_zero e2 ⟨by omega, by omega⟩ rfl
  have e4 := orP_zero e3 ⟨by omega, by omega⟩ rfl
  rw [e4]
  refine Eq.trans ?_ (imm_4 a h0 h1)
  show wrap32 (_ * 1) / 1 = _
  rw [Int.mul_one, Int.ediv_one]
  unfold wrap32
  omega
theorem readImm_5 : ReadImm 5 := by
  intro a w T h0 h1
  refine (ri_gen (k := 5) (by omega) a w T h0 h1).mono fun e w' ⟨he, hg⟩ => ⟨he.trans (ret_int ?_), hg⟩
  have e0 : orP a (pR 5) 0 = 0 := rfl
  have e1 := orP_ins e0 31 1 12 rfl ⟨by omega, by omega⟩ (by omega) (by decide) (by decide) (by decide)
  have e2 := orP_ins e1 7 1 11 rfl ⟨by omega, by omega⟩ (by omega) (by decide) (by decide) (by decide)
  have e3 := orP_ins e2 25 6 5 rfl ⟨by omega, by omega⟩ (by omega) (by decide) (by decide) (by decide)
  have e4 := orP_ins e3 8 4 1 rfl ⟨by omega, by omega⟩ (by omega) (by decide) (by decide) (by decide)
  rw [e4]
  refine Eq.trans ?_ (imm_5 a h0 h1)
  show wrap32 (_ * 524288) / 524288 = _
  congr 3
  omega
theorem readImm_6 : ReadImm 6 := by
  intro a w T h0 h1
  refine (ri_gen (k := 6) (by omega) a w T h0 h1).mono fun e w' ⟨he, hg⟩ => ⟨he.trans (ret_int ?_), hg⟩
  have e0 : orP a (pR 6) 0 = 0 := rfl
  have e1 := orP_ins e0 25 7 5 rfl ⟨by omega, by omega⟩ (by omega) (by decide) (by decide) (by decide)
  have e2 := orP_ins e1 7 5 0 rfl ⟨by omega, by omega⟩ (by omega) (by decide) (by decide) (by decide)
  have e3 := orP_zero e2 ⟨by omega, by omega⟩ rfl
  have e4 := orP_zero e3 ⟨by omega, by omega⟩ rfl
  rw [e4]
  refine Eq.trans ?_ (imm_6 a h0 h1)
  show wrap32 (_ * 1048576) / 1048576 = _
  congr 3
  omega
theorem readImm_7 : ReadImm 7 := by
  intro a w T h0 h1
  refine (ri_gen (k := 7) (by omega) a w T h0 h1).mono fun e w' ⟨he, hg⟩ => ⟨he.trans (ret_int ?_), hg⟩
  have e0 : orP a (pR 7) 0 = 0 := rfl
  have e1 := orP_zero e0 ⟨by omega, by omega⟩ rfl
  have e2 := orP_zero e1 ⟨by omega, by omega⟩ rfl
  have e3 := orP_zero e2 ⟨by omega, by omega⟩ rfl
  have e4 := orP_zero e3 ⟨by omega, by omega⟩ rfl
  rw [e4]
  refine Eq.trans ?_ (imm_7 a h0 h1)
  show wrap32 (_ * 1) / 1 = _
  rw [Int.mul_one, Int.ediv_one]
  unfold wrap32
  omega
theorem readImm_8 : ReadImm 8 := by
  intro a w T h0 h1
  refine (ri_gen (k := 8) (by omega) a w T h0 h1).mono fun e w' ⟨he, hg⟩ => ⟨he.trans (ret_int ?_), hg⟩
  have e0 : orP a (pR 8) 0 = 0 := rfl
  have e1 := orP_ins e0 25 2 0 rfl ⟨by omega, by omega⟩ (by omega) (by decide) (by decide) (by decide)
  have e2 := orP_zero e1 ⟨by omega, by omega⟩ rfl
  have e3 := orP_zero e2 ⟨by omega, by omega⟩ rfl
  have e4 := orP_zero e3 ⟨by omega, by omega⟩ rfl
  rw [e4]
  refine Eq.trans ?_ (imm_8 a h0 h1)
  show wrap32 (_ * 1) / 1 = _
  rw [Int.mul_one, Int.ediv_one]
  unfold wrap32
  omega
theorem readImm_9 : ReadImm 9 := by
  intro a w T h0 h1
  refine (ri_gen (k := 9) (by omega) a w T h0 h1).mono fun e w' ⟨he, hg⟩ => ⟨he.trans (ret_int ?_), hg⟩
  have e0 : orP a (pR 9) 0 = 0 := rfl
  have e1 := orP_zero e0 ⟨by omega, by omega⟩ rfl
  have e2 := orP_zero e1 ⟨by omega, by omega⟩ rfl
  have e3 := orP_zero e2 ⟨by omega, by omega⟩ rfl
  have e4 := orP_zero e3 ⟨by omega, by omega⟩ rfl
  rw [e4]
  refine Eq.trans ?_ (imm_9 a h0 h1)
  show wrap32 (_ * 1) / 1 = _
  rw [Int.mul_one, Int.ediv_one]
  unfold wrap32
  omega
theorem readImm_any (f : Int) (h0 : 0 ≤ f) (h1 : f ≤ 9) : ReadImm f := by
  have h : f = 0 ∨ f = 1 ∨ f = 2 ∨ f = 3 ∨ f = 4 ∨ f = 5 ∨ f = 6 ∨ f = 7 ∨ f = 8 ∨ f = 9 := by omega
  rcases h with rfl | rfl | rfl | rfl | rfl | rfl | rfl | rfl | rfl | rfl
  · exact readImm_0
  · exact readImm_1
  · exact readImm_2
  · exact readImm_3
  · exact readImm_4
  · exact readImm_5
  · exact readImm_6
  · exact readImm_7
  · exact readImm_8
  · exact readImm_9
end Go.Proofs.YtdiofidmlgliiaaDoor.Dw
