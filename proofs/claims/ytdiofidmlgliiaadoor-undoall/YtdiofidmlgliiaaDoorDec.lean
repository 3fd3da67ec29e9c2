/-
  Plain reckoning with words as instructions, as whole numbers: no program in sight. What is proved here: which op the told bits of a word tell ('raw'), that a word's told bits are an op's just where that op is told ('told_iff'), that every instruction that is read has its fields in their bounds ('is_of_dec'), and that of each such instruction the word that is laid together is read as it again ('dec_of_is').
-/
import Derived.Test.YtdiofidmlgliiaaDoorWord
namespace Go.Proofs.YtdiofidmlgliiaaDoor.Dc
open Wd
set_option linter.unusedVariables false

variable {w lo mi k : Int}
/-- One of a list, by a number that must be among others; 0: it is not. -/
def pk (n : Int) : List (Int × Int) → Int
  | [] => 0
  | (a, o) :: r => if n = a then o else pk n r

def lB : List (Int × Int) := [(0, 5), (1, 6), (4, 7), (5, 8), (6, 9), (7, 10)]
def lL : List (Int × Int) := [(0, 11), (1, 12), (2, 13), (4, 14), (5, 15)]
def lS : List (Int × Int) := [(0, 16), (1, 17), (2, 18)]
def lH : List (Int × Int) := [(1, 25), (5, 26), (261, 27)]
def lI : List (Int × Int) := [(0, 19), (2, 20), (3, 21), (4, 22), (6, 23), (7, 24)]
def lR0 : List (Int × Int) := [(0, 28), (1, 30), (2, 31), (3, 32), (4, 33), (5, 34), (6, 36), (7, 37)]
def lR32 : List (Int × Int) := [(0, 29), (5, 35)]
def lR1 : List (Int × Int) := [(0, 38), (1, 39), (2, 40), (3, 41), (4, 42), (5, 43), (6, 44), (7, 45)]
def lA : List (Int × Int) := [(2, 46), (3, 47), (1, 48), (0, 49), (4, 50), (12, 51), (8, 52), (16, 53), (20, 54), (24, 55), (28, 56)]
def lE : List (Int × Int) := [(115, 58), (1048691, 59)]

/-- The op that a word's told bits tell; 0: none. What LRW's Rs2 is is not asked. -/
def rawOf (w lo mi up : Int) : Int :=
  if lo = 55 then 1 else if lo = 23 then 2 else if lo = 111 then 3
  else if lo = 103 then pk mi [(0, 4)] else if lo = 99 then pk mi lB else if lo = 3 then pk mi lL else if lo = 35 then pk mi lS
  else if lo = 19 then (if mi = 1 ∨ mi = 5 then pk (8 * up + mi) lH else pk mi lI)
  else if lo = 51 then (if up = 0 then pk mi lR0 else if up = 32 then pk mi lR32 else if up = 1 then pk mi lR1 else 0)
  else if lo = 47 then (if mi = 2 then pk (up / 4) lA else 0)
  else if lo = 15 then pk mi [(0, 57)] else if lo = 115 then pk w lE else 0
def raw (w : Int) : Int := rawOf w (w % 128) (w / 4096 % 8) (w / 33554432)

/-- The form of an op: 1 U, 2 J, 3 I, 4 H, 5 B, 6 S, 7 R, 8 A, 9 E; 0: it is none. -/
def frm (k : Int) : Int :=
  if k = 1 ∨ k = 2 then 1 else if k = 3 then 2 else if k = 4 then 3 else if 5 ≤ k ∧ k ≤ 10 then 5 else if 11 ≤ k ∧ k ≤ 15 then 3
  else if 16 ≤ k ∧ k ≤ 18 then 6 else if 19 ≤ k ∧ k ≤ 24 then 3 else if 25 ≤ k ∧ k ≤ 27 then 4 else if 28 ≤ k ∧ k ≤ 45 then 7
  else if 46 ≤ k ∧ k ≤ 56 then 8 else if k = 57 then 3 else if k = 58 ∨ k = 59 then 9 else 0
/-- Which bits of a word tell its instruction. -/
def mask (f : Int) : Int :=
  if f = 1 ∨ f = 2 then 127 else if f = 3 ∨ f = 5 ∨ f = 6 then 28799 else if f = 4 ∨ f = 7 then 4261441663 else if f = 8 then 4160778367 else if f = 9 then 4294967295 else 0
def nth (l : List Int) (k : Int) : Int := l.getD k.toNat 0
def uppers : List Int := [0,0,0,0,0,0,0,0,0,0,0,0,0,0,0,0,0,0,0,0,0,0,0,0,0,0,0,32,0,32,0,0,0,0,0,32,0,0,1,1,1,1,1,1,1,1,8,12,4,0,16,48,32,64,80,96,112,0,0,0]
def rowOf (op first low : Int) (mids : List Int) : Int := low + nth mids (op - first) * 4096 + nth uppers op * 33554432
/-- The bits that tell an op. -/
def tbits (k : Int) : Int :=
  if k = 1 then 55 else if k = 2 then 23 else if k = 3 then 111 else if k = 4 then rowOf k 4 103 [0] else if 5 ≤ k ∧ k ≤ 10 then rowOf k 5 99 [0, 1, 4, 5, 6, 7]
  else if 11 ≤ k ∧ k ≤ 15 then rowOf k 11 3 [0, 1, 2, 4, 5] else if 16 ≤ k ∧ k ≤ 18 then rowOf k 16 35 [0, 1, 2] else if 19 ≤ k ∧ k ≤ 24 then rowOf k 19 19 [0, 2, 3, 4, 6, 7]
  else if 25 ≤ k ∧ k ≤ 27 then rowOf k 25 19 [1, 5, 5] else if 28 ≤ k ∧ k ≤ 37 then rowOf k 28 51 [0, 0, 1, 2, 3, 4, 5, 5, 6, 7] else if 38 ≤ k ∧ k ≤ 45 then rowOf k 38 51 [0, 1, 2, 3, 4, 5, 6, 7]
  else if 46 ≤ k ∧ k ≤ 56 then rowOf k k 47 [2] else if k = 57 then rowOf k 57 15 [0] else if k = 58 then 115 else if k = 59 then 1048691 else 0

/-- The op that a word is; 0: it is none. -/
def dop (w : Int) : Int := if raw w = 46 ∧ w / 1048576 % 32 ≠ 0 then 0 else raw w
def sgn (h n : Int) : Int := if n ≥ h then n - 2 * h else n
def immF (f w : Int) : Int :=
  if f = 1 then sg w - w % 4096
  else if f = 2 then sgn 1048576 (w / 2147483648 * 1048576 + w / 4096 % 256 * 4096 + w / 1048576 % 2 * 2048 + w / 2097152 % 1024 * 2)
  else if f = 3 then sgn 2048 (w / 1048576)
  else if f = 4 then w / 1048576 % 32
  else if f = 5 then sgn 4096 (w / 2147483648 * 4096 + w / 128 % 2 * 2048 + w / 33554432 % 64 * 32 + w / 256 % 16 * 2)
  else if f = 6 then sgn 2048 (w / 33554432 * 32 + w / 128 % 32)
  else if f = 8 then w / 33554432 % 4 else 0
def hasRd (f : Int) : Bool := f == 1 || f == 2 || f == 3 || f == 4 || f == 7 || f == 8
def hasRs1 (f : Int) : Bool := f == 3 || f == 4 || f == 5 || f == 6 || f == 7 || f == 8
def hasRs2 (f : Int) : Bool := f == 5 || f == 6 || f == 7 || f == 8
def rdF (f w : Int) : Int := if hasRd f then w / 128 % 32 else 0
def rs1F (f w : Int) : Int := if hasRs1 f then w / 32768 % 32 else 0
def rs2F (f w : Int) : Int := if hasRs2 f then w / 1048576 % 32 else 0

/-! ### Bits -/
theorem nand_mask (w i n : Nat) : w &&& ((2 ^ n - 1) * 2 ^ i) = w / 2 ^ i % 2 ^ n * 2 ^ i := by
  apply Nat.eq_of_testBit_eq
  intro j
  rw [Nat.testBit_and, Nat.testBit_mul_two_pow, Nat.testBit_mul_two_pow, Nat.testBit_two_pow_sub_one, Nat.testBit_mod_two_pow, Nat.testBit_div_two_pow]
  by_cases h : i ≤ j
  · have e : j - i + i = j := by omega
    simp [h, e]
    rw [Bool.and_comm]
  · simp [h]
theorem nor_add (x y i : Nat) (h : x < 2 ^ i) : y * 2 ^ i ||| x = y * 2 ^ i + x := by
  rw [Nat.mul_comm]; exact (Nat.two_pow_add_eq_or_of_lt h y).symm
theorem nand7 (w : Nat) : w &&& 127 = w % 128 := by
  have := nand_mask w 0 7; simpa using this
theorem nand12 (w : Nat) : w &&& 28672 = w / 4096 % 8 * 4096 := nand_mask w 12 3
theorem nand25 (w : Nat) : w &&& 4261412864 = w / 33554432 % 128 * 33554432 := nand_mask w 25 7
theorem nand27 (w : Nat) : w &&& 4160749568 = w / 134217728 % 32 * 134217728 := nand_mask w 27 5
theorem nandM (w : Nat) : w &&& 28799 = w / 4096 % 8 * 4096 + w % 128 := by
  rw [show (28799 : Nat) = 28672 ||| 127 by decide, Nat.and_or_distrib_left, nand7, nand12, ← nor_add _ _ 12 (by omega)]
theorem nandU (w : Nat) : w &&& 4261441663 = w / 33554432 % 128 * 33554432 + (w / 4096 % 8 * 4096 + w % 128) := by
  rw [show (4261441663 : Nat) = 4261412864 ||| 28799 by decide, Nat.and_or_distrib_left, nandM, nand25, ← nor_add _ _ 25 (by omega)]
theorem nandA (w : Nat) : w &&& 4160778367 = w / 134217728 % 32 * 134217728 + (w / 4096 % 8 * 4096 + w % 128) := by
  rw [show (4160778367 : Nat) = 4160749568 ||| 28799 by decide, Nat.and_or_distrib_left, nandM, nand27, ← nor_add _ _ 27 (by omega)]
theorem band1 (h0 : 0 ≤ w) (h1 : w < 4294967296) : band w 127 = w % 128 := by
  unfold band; rw [show (127 : Int).toNat = 127 from rfl, nand7]; omega
theorem bandM (h0 : 0 ≤ w) (h1 : w < 4294967296) : band w 28799 = w % 128 + w / 4096 % 8 * 4096 := by
  unfold band; rw [show (28799 : Int).toNat = 28799 from rfl, nandM]; omega
theorem bandU (h0 : 0 ≤ w) (h1 : w < 4294967296) : band w 4261441663 = w % 128 + w / 4096 % 8 * 4096 + w / 33554432 * 33554432 := by
  unfold band; rw [show (4261441663 : Int).toNat = 4261441663 from rfl, nandU]; omega
theorem bandA (h0 : 0 ≤ w) (h1 : w < 4294967296) : band w 4160778367 = w % 128 + w / 4096 % 8 * 4096 + w / 134217728 * 134217728 := by
  unfold band; rw [show (4160778367 : Int).toNat = 4160778367 from rfl, nandA]; omega
theorem bandE (h0 : 0 ≤ w) (h1 : w < 4294967296) : band w 4294967295 = w := by
  unfold band; rw [show (4294967295 : Int).toNat = 2 ^ 32 - 1 from rfl, Nat.and_two_pow_sub_one_eq_mod]; omega

/-! ### The told bits -/
/-- A word's bits, as a form tells them. -/
def part (f w : Int) : Int :=
  if f = 1 ∨ f = 2 then w % 128 else if f = 3 ∨ f = 5 ∨ f = 6 then w % 128 + w / 4096 % 8 * 4096 else if f = 4 ∨ f = 7 then w % 128 + w / 4096 % 8 * 4096 + w / 33554432 * 33554432
  else if f = 8 then w % 128 + w / 4096 % 8 * 4096 + w / 134217728 * 134217728 else if f = 9 then w else 0
theorem band_part {f : Int} (h0 : 0 ≤ w) (h1 : w < 4294967296) : band w (mask f) = part f w := by
  unfold mask part
  split
  · exact band1 h0 h1
  split
  · exact bandM h0 h1
  split
  · exact bandU h0 h1
  split
  · exact bandA h0 h1
  split
  · exact bandE h0 h1
  · simp [band]
theorem frm_bd (k : Int) : 0 ≤ frm k ∧ frm k ≤ 9 := by
  unfold frm; repeat' split
  all_goals omega
theorem raw_of {up : Int} (h1 : w % 128 = lo) (h2 : w / 4096 % 8 = mi) (h3 : w / 33554432 = up) : raw w = rawOf w lo mi up := by subst h1 h2 h3; rfl
theorem raw_of1 (h1 : w % 128 = lo) : raw w = rawOf w lo (w / 4096 % 8) (w / 33554432) := by subst h1; rfl
theorem raw_of2 (h1 : w % 128 = lo) (h2 : w / 4096 % 8 = mi) : raw w = rawOf w lo mi (w / 33554432) := by subst h1 h2; rfl
theorem t1 {T : Int} (h : w % 128 = T) (e : ∀ a b, rawOf w T a b = k) : raw w = k := by rw [raw_of1 h]; exact e _ _
theorem t2 {T : Int} (h : w % 128 + w / 4096 % 8 * 4096 = T) (e : ∀ b, rawOf w (T % 128) (T / 4096 % 8) b = k) : raw w = k := by
  rw [raw_of2 (lo := T % 128) (mi := T / 4096 % 8) (by omega) (by omega)]; exact e _
theorem t3 {T : Int} (h : w % 128 + w / 4096 % 8 * 4096 + w / 33554432 * 33554432 = T) (e : rawOf w (T % 128) (T / 4096 % 8) (T / 33554432) = k) : raw w = k := by
  rw [raw_of (lo := T % 128) (mi := T / 4096 % 8) (up := T / 33554432) (by omega) (by omega) (by omega)]; exact e
theorem t4 {T : Int} (h : w % 128 + w / 4096 % 8 * 4096 + w / 134217728 * 134217728 = T) (e : ∀ b, b / 4 = T / 134217728 → rawOf w (T % 128) (T / 4096 % 8) b = k) : raw w = k := by
  rw [raw_of2 (lo := T % 128) (mi := T / 4096 % 8) (by omega) (by omega)]; exact e _ (by omega)
theorem t5 {T : Int} (h : w = T) (e : raw T = k) : raw w = k := by rw [h]; exact e
theorem told_raw (h0 : 0 ≤ w) (h1 : w < 4294967296) (hk : 1 ≤ k) (hk' : k ≤ 59) (h : part (frm k) w = tbits k) : raw w = k := by
  have hd : (k = 1 ∨ k = 2 ∨ k = 3) ∨ (k = 4 ∨ k = 5 ∨ k = 6 ∨ k = 7 ∨ k = 8 ∨ k = 9 ∨ k = 10 ∨ k = 11 ∨ k = 12 ∨ k = 13 ∨ k = 14 ∨ k = 15 ∨ k = 16 ∨ k = 17 ∨ k = 18 ∨ k = 19 ∨ k = 20 ∨ k = 21 ∨ k = 22 ∨ k = 23 ∨ k = 24 ∨ k = 57) ∨ (k = 25 ∨ k = 26 ∨ k = 27 ∨ k = 28 ∨ k = 29 ∨ k = 30 ∨ k = 31 ∨ k = 32 ∨ k = 33 ∨ k = 34 ∨ k = 35 ∨ k = 36 ∨ k = 37 ∨ k = 38 ∨ k = 39 ∨ k = 40 ∨ k = 41 ∨ k = 42 ∨ k = 43 ∨ k = 44 ∨ k = 45) ∨ (k = 46 ∨ k = 47 ∨ k = 48 ∨ k = 49 ∨ k = 50 ∨ k = 51 ∨ k = 52 ∨ k = 53 ∨ k = 54 ∨ k = 55 ∨ k = 56) ∨ (k = 58 ∨ k = 59) := by omega
  rcases hd with hd | hd | hd | hd | hd
  · rcases hd with rfl | rfl | rfl <;> exact t1 h fun _ _ => rfl
  · rcases hd with rfl | rfl | rfl | rfl | rfl | rfl | rfl | rfl | rfl | rfl | rfl | rfl | rfl | rfl | rfl | rfl | rfl | rfl | rfl | rfl | rfl | rfl <;> exact t2 h fun _ => rfl
  · rcases hd with rfl | rfl | rfl | rfl | rfl | rfl | rfl | rfl | rfl | rfl | rfl | rfl | rfl | rfl | rfl | rfl | rfl | rfl | rfl | rfl | rfl <;> exact t3 h rfl
  · rcases hd with rfl | rfl | rfl | rfl | rfl | rfl | rfl | rfl | rfl | rfl | rfl <;> exact t4 h fun b hb => by show pk (b / 4) lA = _; rw [hb]; rfl
  · rcases hd with rfl | rfl <;> exact t5 h (by decide)
/-- What is told by a list: none, or one of it. -/
theorem pk_cases {n : Int} {P : Int → Prop} : (l : List (Int × Int)) → (h0 : P 0) → (∀ x ∈ l, n = x.1 → P x.2) → P (pk n l)
  | [], h0, _ => h0
  | (a, o) :: r, h0, h => by
    unfold pk
    split
    · exact h (a, o) (by simp) ‹_›
    · exact pk_cases r h0 fun x hx => h x (by simp [hx])
/-- The first and the last op that the lowest bits leave. -/
def sp1 (lo : Int) : Int := if lo = 55 then 1 else if lo = 23 then 2 else if lo = 111 then 3 else if lo = 103 then 4 else if lo = 99 then 5 else if lo = 3 then 11 else if lo = 35 then 16 else if lo = 19 then 19 else if lo = 51 then 28 else if lo = 47 then 46 else if lo = 15 then 57 else if lo = 115 then 58 else 0
def sp2 (lo : Int) : Int := if lo = 55 then 1 else if lo = 23 then 2 else if lo = 111 then 3 else if lo = 103 then 4 else if lo = 99 then 10 else if lo = 3 then 15 else if lo = 35 then 18 else if lo = 19 then 27 else if lo = 51 then 45 else if lo = 47 then 56 else if lo = 15 then 57 else if lo = 115 then 59 else -1
def Q (w k : Int) : Prop := k ≠ 0 → part (frm k) w = tbits k ∧ 1 ≤ k ∧ k ≤ 59 ∧ sp1 (w % 128) ≤ k ∧ k ≤ sp2 (w % 128)
theorem Q0 (w : Int) : Q w 0 := fun h => absurd rfl h
theorem q_ {L : Int} (hl : w % 128 = L) (hp : part (frm k) w = tbits k) (hb : 1 ≤ k ∧ k ≤ 59 ∧ sp1 L ≤ k ∧ k ≤ sp2 L) : Q w k := fun _ => by subst hl; exact ⟨hp, hb⟩
theorem qM {L M : Int} (hl : w % 128 = L) (hm : w / 4096 % 8 = M) (f : ∀ v, part (frm k) v = v % 128 + v / 4096 % 8 * 4096) (e : L + M * 4096 = tbits k) (hb : 1 ≤ k ∧ k ≤ 59 ∧ sp1 L ≤ k ∧ k ≤ sp2 L) : Q w k :=
  q_ hl (by rw [f, hl, hm]; exact e) hb
theorem qU {L M U : Int} (hl : w % 128 = L) (hm : w / 4096 % 8 = M) (hu : w / 33554432 = U) (f : ∀ v, part (frm k) v = v % 128 + v / 4096 % 8 * 4096 + v / 33554432 * 33554432) (e : L + M * 4096 + U * 33554432 = tbits k) (hb : 1 ≤ k ∧ k ≤ 59 ∧ sp1 L ≤ k ∧ k ≤ sp2 L) : Q w k :=
  q_ hl (by rw [f, hl, hm, hu]; exact e) hb
theorem qA {L M U : Int} (hl : w % 128 = L) (hm : w / 4096 % 8 = M) (hu : w / 33554432 / 4 = U) (f : ∀ v, part (frm k) v = v % 128 + v / 4096 % 8 * 4096 + v / 134217728 * 134217728) (e : L + M * 4096 + U * 134217728 = tbits k) (hb : 1 ≤ k ∧ k ≤ 59 ∧ sp1 L ≤ k ∧ k ≤ sp2 L) : Q w k :=
  q_ hl (by rw [f, hl, hm, show w / 134217728 = U by omega]; exact e) hb
theorem raw_told (h0 : 0 ≤ w) (h1 : w < 4294967296) : Q w (raw w) := by
  unfold raw rawOf
  by_cases hl : w % 128 = 55
  · rw [if_pos hl]
    exact q_ hl hl (by decide)
  rw [if_neg hl]; clear hl
  by_cases hl : w % 128 = 23
  · rw [if_pos hl]
    exact q_ hl hl (by decide)
  rw [if_neg hl]; clear hl
  by_cases hl : w % 128 = 111
  · rw [if_pos hl]
    exact q_ hl hl (by decide)
  rw [if_neg hl]; clear hl
  by_cases hl : w % 128 = 103
  · rw [if_pos hl]
    refine pk_cases [(0, 4)] (Q0 w) fun x hx hn => ?_
    simp only [List.mem_cons, List.not_mem_nil, or_false] at hx
    subst hx
    exact qM hl hn (fun _ => rfl) rfl (by decide)
  rw [if_neg hl]; clear hl
  by_cases hl : w % 128 = 99
  · rw [if_pos hl]
    refine pk_cases lB (Q0 w) fun x hx hn => ?_
    simp only [lB, List.mem_cons, List.not_mem_nil, or_false] at hx
    rcases hx with rfl | rfl | rfl | rfl | rfl | rfl <;> exact qM hl hn (fun _ => rfl) rfl (by decide)
  rw [if_neg hl]; clear hl
  by_cases hl : w % 128 = 3
  · rw [if_pos hl]
    refine pk_cases lL (Q0 w) fun x hx hn => ?_
    simp only [lL, List.mem_cons, List.not_mem_nil, or_false] at hx
    rcases hx with rfl | rfl | rfl | rfl | rfl <;> exact qM hl hn (fun _ => rfl) rfl (by decide)
  rw [if_neg hl]; clear hl
  by_cases hl : w % 128 = 35
  · rw [if_pos hl]
    refine pk_cases lS (Q0 w) fun x hx hn => ?_
    simp only [lS, List.mem_cons, List.not_mem_nil, or_false] at hx
    rcases hx with rfl | rfl | rfl <;> exact qM hl hn (fun _ => rfl) rfl (by decide)
  rw [if_neg hl]; clear hl
  by_cases hl : w % 128 = 19
  · rw [if_pos hl]
    by_cases hm : w / 4096 % 8 = 1 ∨ w / 4096 % 8 = 5
    · rw [if_pos hm]
      refine pk_cases lH (Q0 w) fun x hx hn => ?_
      simp only [lH, List.mem_cons, List.not_mem_nil, or_false] at hx
      rcases hx with rfl | rfl | rfl
      · exact qU (M := 1) (U := 0) hl (by simp only at hn; omega) (by simp only at hn; omega) (fun _ => rfl) rfl (by decide)
      · exact qU (M := 5) (U := 0) hl (by simp only at hn; omega) (by simp only at hn; omega) (fun _ => rfl) rfl (by decide)
      · exact qU (M := 5) (U := 32) hl (by simp only at hn; omega) (by simp only at hn; omega) (fun _ => rfl) rfl (by decide)
    · rw [if_neg hm]
      refine pk_cases lI (Q0 w) fun x hx hn => ?_
      simp only [lI, List.mem_cons, List.not_mem_nil, or_false] at hx
      rcases hx with rfl | rfl | rfl | rfl | rfl | rfl <;> exact qM hl hn (fun _ => rfl) rfl (by decide)
  rw [if_neg hl]; clear hl
  by_cases hl : w % 128 = 51
  · rw [if_pos hl]
    by_cases hu : w / 33554432 = 0
    · rw [if_pos hu]
      refine pk_cases lR0 (Q0 w) fun x hx hn => ?_
      simp only [lR0, List.mem_cons, List.not_mem_nil, or_false] at hx
      rcases hx with rfl | rfl | rfl | rfl | rfl | rfl | rfl | rfl <;> exact qU hl hn hu (fun _ => rfl) rfl (by decide)
    rw [if_neg hu]; clear hu
    by_cases hu : w / 33554432 = 32
    · rw [if_pos hu]
      refine pk_cases lR32 (Q0 w) fun x hx hn => ?_
      simp only [lR32, List.mem_cons, List.not_mem_nil, or_false] at hx
      rcases hx with rfl | rfl <;> exact qU hl hn hu (fun _ => rfl) rfl (by decide)
    rw [if_neg hu]; clear hu
    by_cases hu : w / 33554432 = 1
    · rw [if_pos hu]
      refine pk_cases lR1 (Q0 w) fun x hx hn => ?_
      simp only [lR1, List.mem_cons, List.not_mem_nil, or_false] at hx
      rcases hx with rfl | rfl | rfl | rfl | rfl | rfl | rfl | rfl <;> exact qU hl hn hu (fun _ => rfl) rfl (by decide)
    rw [if_neg hu]; clear hu
    exact Q0 w
  rw [if_neg hl]; clear hl
  by_cases hl : w % 128 = 47
  · rw [if_pos hl]
    by_cases hm : w / 4096 % 8 = 2
    · rw [if_pos hm]
      refine pk_cases lA (Q0 w) fun x hx hn => ?_
      simp only [lA, List.mem_cons, List.not_mem_nil, or_false] at hx
      rcases hx with rfl | rfl | rfl | rfl | rfl | rfl | rfl | rfl | rfl | rfl | rfl <;> exact qA hl hm hn (fun _ => rfl) rfl (by decide)
    rw [if_neg hm]; exact Q0 w
  rw [if_neg hl]; clear hl
  by_cases hl : w % 128 = 15
  · rw [if_pos hl]
    refine pk_cases [(0, 57)] (Q0 w) fun x hx hn => ?_
    simp only [List.mem_cons, List.not_mem_nil, or_false] at hx
    subst hx
    exact qM hl hn (fun _ => rfl) rfl (by decide)
  rw [if_neg hl]; clear hl
  by_cases hl : w % 128 = 115
  · rw [if_pos hl]
    refine pk_cases lE (Q0 w) fun x hx hn => ?_
    simp only [lE, List.mem_cons, List.not_mem_nil, or_false] at hx
    rcases hx with rfl | rfl <;> exact q_ hl hn (by decide)
  rw [if_neg hl]; clear hl
  exact Q0 w
/-- A word's told bits are an op's just where that op is told. -/
theorem told_iff (h0 : 0 ≤ w) (h1 : w < 4294967296) (hk : 1 ≤ k) (hk' : k ≤ 59) : band w (mask (frm k)) = tbits k ↔ raw w = k := by
  rw [band_part h0 h1]
  refine ⟨told_raw h0 h1 hk hk', fun h => ?_⟩
  have := (raw_told h0 h1 (by omega)).1
  rwa [h] at this
theorem raw_bd (h0 : 0 ≤ w) (h1 : w < 4294967296) : 0 ≤ raw w ∧ raw w ≤ 59 := by
  by_cases h : raw w = 0
  · omega
  · have := raw_told h0 h1 h; omega
end Go.Proofs.YtdiofidmlgliiaaDoor.Dc
