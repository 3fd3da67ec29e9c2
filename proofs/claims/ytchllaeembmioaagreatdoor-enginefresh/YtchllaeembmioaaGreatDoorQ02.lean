/-
  Dec: texts of ours that lie in one file.
-/
import Derived.Test.YtchllaeembmioaaGreatDoorQ01
set_option linter.unusedVariables false
set_option linter.unusedSimpArgs false
set_option maxHeartbeats 8000000
set_option maxRecDepth 100000
namespace Go.Proofs.YtchllaeembmioaaGreatDoor.Dc
open Wd

def pk (n : Int) : List (Int × Int) → Int
 | [] => 0
 | (a, o) :: r => if n = a then o else pk n r

def lB : List (Int × Int) := [(0, 5), (1, 6), (4, 7), (5, 8), (6, 9), (7, 10)]
def lL : List (Int × Int) := [(0, 11), (1, 12), (2, 13), (4, 14), (5, 15)]
def lS : List (Int × Int) := [(0, 16), (1, 17), (2, 18)]
def lH : List (Int × Int) := [(1, 25), (5, 26), (261, 27)]
def lI : List (Int × Int) := [(0, 19), (2, 20), (3, 21), (4, 22), (6, 23), (7, 24)]
def lR0 : List (Int × Int) := [(0, 28), (1, 30), (2, 31), (3, 32), (4, 33), (5, 34), (6, 36), (7, 37)]
def lR32 : List (Int × Int) := [(0, 29), (5, 35)]
def lR1 : List (Int × Int) := [(0, 38), (1, 39), (2, 40), (3, 41), (4, 42), (5, 43), (6, 44), (7, 45)]
def lA : List (Int × Int) := [(2, 46), (3, 47), (1, 48), (0, 49), (4, 50), (12, 51), (8, 52), (16, 53), (20, 54), (24, 55), (28, 56)]
def lE : List (Int × Int) := [(115, 58), (1048691, 59)]

def rawOf (w lo mi up : Int) : Int :=
 if lo = 55 then 1 else if lo = 23 then 2 else if lo = 111 then 3
 else if lo = 103 then pk mi [(0, 4)] else if lo = 99 then pk mi lB else if lo = 3 then pk mi lL else if lo = 35 then pk mi lS
 else if lo = 19 then (if mi = 1 ∨ mi = 5 then pk (8 * up + mi) lH else pk mi lI)
 else if lo = 51 then (if up = 0 then pk mi lR0 else if up = 32 then pk mi lR32 else if up = 1 then pk mi lR1 else 0)
 else if lo = 47 then (if mi = 2 then pk (up / 4) lA else 0)
 else if lo = 15 then pk mi [(0, 57)] else if lo = 115 then pk w lE else 0
def raw (w : Int) : Int := rawOf w (w % 128) (w / 4096 % 8) (w / 33554432)

def frm (k : Int) : Int :=
 if k = 1 ∨ k = 2 then 1 else if k = 3 then 2 else if k = 4 then 3 else if 5 ≤ k ∧ k ≤ 10 then 5 else if 11 ≤ k ∧ k ≤ 15 then 3
 else if 16 ≤ k ∧ k ≤ 18 then 6 else if 19 ≤ k ∧ k ≤ 24 then 3 else if 25 ≤ k ∧ k ≤ 27 then 4 else if 28 ≤ k ∧ k ≤ 45 then 7
 else if 46 ≤ k ∧ k ≤ 56 then 8 else if k = 57 then 3 else if k = 58 ∨ k = 59 then 9 else 0
def mask (f : Int) : Int :=
 if f = 1 ∨ f = 2 then 127 else if f = 3 ∨ f = 5 ∨ f = 6 then 28799 else if f = 4 ∨ f = 7 then 4261441663 else if f = 8 then 4160778367 else if f = 9 then 4294967295 else 0
def nth (l : List Int) (k : Int) : Int := l.getD k.toNat 0
def uppers : List Int := [0,0,0,0,0,0,0,0,0,0,0,0,0,0,0,0,0,0,0,0,0,0,0,0,0,0,0,32,0,32,0,0,0,0,0,32,0,0,1,1,1,1,1,1,1,1,8,12,4,0,16,48,32,64,80,96,112,0,0,0]
def rowOf (op first low : Int) (mids : List Int) : Int := low + nth mids (op - first) * 4096 + nth uppers op * 33554432
def tbits (k : Int) : Int :=
 if k = 1 then 55 else if k = 2 then 23 else if k = 3 then 111 else if k = 4 then rowOf k 4 103 [0] else if 5 ≤ k ∧ k ≤ 10 then rowOf k 5 99 [0, 1, 4, 5, 6, 7]
 else if 11 ≤ k ∧ k ≤ 15 then rowOf k 11 3 [0, 1, 2, 4, 5] else if 16 ≤ k ∧ k ≤ 18 then rowOf k 16 35 [0, 1, 2] else if 19 ≤ k ∧ k ≤ 24 then rowOf k 19 19 [0, 2, 3, 4, 6, 7]
 else if 25 ≤ k ∧ k ≤ 27 then rowOf k 25 19 [1, 5, 5] else if 28 ≤ k ∧ k ≤ 37 then rowOf k 28 51 [0, 0, 1, 2, 3, 4, 5, 5, 6, 7] else if 38 ≤ k ∧ k ≤ 45 then rowOf k 38 51 [0, 1, 2, 3, 4, 5, 6, 7]
 else if 46 ≤ k ∧ k ≤ 56 then rowOf k k 47 [2] else if k = 57 then rowOf k 57 15 [0] else if k = 58 then 115 else if k = 59 then 1048691 else 0

def dop (w : Int) : Int := if raw w = 46 ∧ w / 1048576 % 32 ≠ 0 then 0 else raw w
def sgn (h n : Int) : Int := if n ≥ h then n - 2 * h else n
def immF (f w : Int) : Int :=
 if f = 1 then sg w - w % 4096
 else if f = 2 then sgn 1048576 (w / 2147483648 * 1048576 + w / 4096 % 256 * 4096 + w / 1048576 % 2 * 2048 + w / 2097152 % 1024 * 2)
 else if f = 3 then sgn 2048 (w / 1048576)
 else if f = 4 then w / 1048576 % 32
 else if f = 5 then sgn 4096 (w / 2147483648 * 4096 + w / 128 % 2 * 2048 + w / 33554432 % 64 * 32 + w / 256 % 16 * 2)
 else if f = 6 then sgn 2048 (w / 33554432 * 32 + w / 128 % 32)
 else if f = 8 then w / 33554432 % 4 else 0
def hasRd (f : Int) : Bool := f == 1 || f == 2 || f == 3 || f == 4 || f == 7 || f == 8
def hasRs1 (f : Int) : Bool := f == 3 || f == 4 || f == 5 || f == 6 || f == 7 || f == 8
def hasRs2 (f : Int) : Bool := f == 5 || f == 6 || f == 7 || f == 8
def rdF (f w : Int) : Int := if hasRd f then w / 128 % 32 else 0
def rs1F (f w : Int) : Int := if hasRs1 f then w / 32768 % 32 else 0
def rs2F (f w : Int) : Int := if hasRs2 f then w / 1048576 % 32 else 0

theorem nand_mask (w i n : Nat) : w &&& ((2 ^ n - 1) * 2 ^ i) = w / 2 ^ i % 2 ^ n * 2 ^ i := by
 apply Nat.eq_of_testBit_eq
 intro j
 rw [Nat.testBit_and, Nat.testBit_mul_two_pow, Nat.testBit_mul_two_pow, Nat.testBit_two_pow_sub_one, Nat.testBit_mod_two_pow, Nat.testBit_div_two_pow]
 by_cases h : i ≤ j
 ·have e : j - i + i = j := by omega
  simp [h, e]
  rw [Bool.and_comm]
 ·simp [h]
theorem nor_add (x y i : Nat) (h : x < 2 ^ i) : y * 2 ^ i ||| x = y * 2 ^ i + x := by
 rw [Nat.mul_comm]; exact (Nat.two_pow_add_eq_or_of_lt h y).symm
theorem nand7 (w : Nat) : w &&& 127 = w % 128 := by
 have := nand_mask w 0 7; simpa using this
theorem nand12 (w : Nat) : w &&& 28672 = w / 4096 % 8 * 4096 := nand_mask w 12 3
theorem nand25 (w : Nat) : w &&& 4261412864 = w / 33554432 % 128 * 33554432 := nand_mask w 25 7
theorem nand27 (w : Nat) : w &&& 4160749568 = w / 134217728 % 32 * 134217728 := nand_mask w 27 5
theorem nandM (w : Nat) : w &&& 28799 = w / 4096 % 8 * 4096 + w % 128 := by
 rw [show (28799 : Nat) = 28672 ||| 127 by decide, Nat.and_or_distrib_left, nand7, nand12, ← nor_add _ _ 12 (by omega)]
theorem nandU (w : Nat) : w &&& 4261441663 = w / 33554432 % 128 * 33554432 + (w / 4096 % 8 * 4096 + w % 128) := by
 rw [show (4261441663 : Nat) = 4261412864 ||| 28799 by decide, Nat.and_or_distrib_left, nandM, nand25, ← nor_add _ _ 25 (by omega)]
theorem nandA (w : Nat) : w &&& 4160778367 = w / 134217728 % 32 * 134217728 + (w / 4096 % 8 * 4096 + w % 128) := by
 rw [show (4160778367 : Nat) = 4160749568 ||| 28799 by decide, Nat.and_or_distrib_left, nandM, nand27, ← nor_add _ _ 27 (by omega)]
theorem band1 {w : Int} (h0 : 0 ≤ w) (h1 : w < 4294967296) : band w 127 = w % 128 := by
 unfold band; rw [show (127 : Int).toNat = 127 from rfl, nand7]; omega
theorem bandM {w : Int} (h0 : 0 ≤ w) (h1 : w < 4294967296) : band w 28799 = w % 128 + w / 4096 % 8 * 4096 := by
 unfold band; rw [show (28799 : Int).toNat = 28799 from rfl, nandM]; omega
theorem bandU {w : Int} (h0 : 0 ≤ w) (h1 : w < 4294967296) : band w 4261441663 = w % 128 + w / 4096 % 8 * 4096 + w / 33554432 * 33554432 := by
 unfold band; rw [show (4261441663 : Int).toNat = 4261441663 from rfl, nandU]; omega
theorem bandA {w : Int} (h0 : 0 ≤ w) (h1 : w < 4294967296) : band w 4160778367 = w % 128 + w / 4096 % 8 * 4096 + w / 134217728 * 134217728 := by
 unfold band; rw [show (4160778367 : Int).toNat = 4160778367 from rfl, nandA]; omega
theorem bandE {w : Int} (h0 : 0 ≤ w) (h1 : w < 4294967296) : band w 4294967295 = w := by
 unfold band; rw [show (4294967295 : Int).toNat = 2 ^ 32 - 1 from rfl, Nat.and_two_pow_sub_one_eq_mod]; omega

def part (f w : Int) : Int :=
 if f = 1 ∨ f = 2 then w % 128 else if f = 3 ∨ f = 5 ∨ f = 6 then w % 128 + w / 4096 % 8 * 4096 else if f = 4 ∨ f = 7 then w % 128 + w / 4096 % 8 * 4096 + w / 33554432 * 33554432
 else if f = 8 then w % 128 + w / 4096 % 8 * 4096 + w / 134217728 * 134217728 else if f = 9 then w else 0
theorem band_part {f w : Int} (h0 : 0 ≤ w) (h1 : w < 4294967296) : band w (mask f) = part f w := by
 unfold mask part
 split
 ·exact band1 h0 h1
 split
 ·exact bandM h0 h1
 split
 ·exact bandU h0 h1
 split
 ·exact bandA h0 h1
 split
 ·exact bandE h0 h1
 ·simp [band]
theorem frm_bd (k : Int) : 0 ≤ frm k ∧ frm k ≤ 9 := by
 unfold frm; repeat' split
 all_goals omega
theorem raw_of {w lo mi up : Int} (h1 : w % 128 = lo) (h2 : w / 4096 % 8 = mi) (h3 : w / 33554432 = up) : raw w = rawOf w lo mi up := by subst h1 h2 h3; rfl
theorem raw_of1 {w lo : Int} (h1 : w % 128 = lo) : raw w = rawOf w lo (w / 4096 % 8) (w / 33554432) := by subst h1; rfl
theorem raw_of2 {w lo mi : Int} (h1 : w % 128 = lo) (h2 : w / 4096 % 8 = mi) : raw w = rawOf w lo mi (w / 33554432) := by subst h1 h2; rfl
theorem frm1 : frm 1 = 1 := by decide
theorem tbits1 : tbits 1 = 55 := by decide
theorem told1 {w : Int} (h0 : 0 ≤ w) (h1 : w < 4294967296) (h : part 1 w = 55) : raw w = 1 := by
 have h : w % 128 = 55 := h
 rw [raw_of1 h]; rfl
theorem frm2 : frm 2 = 1 := by decide
theorem tbits2 : tbits 2 = 23 := by decide
theorem told2 {w : Int} (h0 : 0 ≤ w) (h1 : w < 4294967296) (h : part 1 w = 23) : raw w = 2 := by
 have h : w % 128 = 23 := h
 rw [raw_of1 h]; rfl
theorem frm3 : frm 3 = 2 := by decide
theorem tbits3 : tbits 3 = 111 := by decide
theorem told3 {w : Int} (h0 : 0 ≤ w) (h1 : w < 4294967296) (h : part 2 w = 111) : raw w = 3 := by
 have h : w % 128 = 111 := h
 rw [raw_of1 h]; rfl
theorem frm4 : frm 4 = 3 := by decide
theorem tbits4 : tbits 4 = 103 := by decide
theorem told4 {w : Int} (h0 : 0 ≤ w) (h1 : w < 4294967296) (h : part 3 w = 103) : raw w = 4 := by
 have h : w % 128 + w / 4096 % 8 * 4096 = 103 := h
 rw [raw_of2 (lo := 103) (mi := 0) (by omega) (by omega)]; rfl
theorem frm5 : frm 5 = 5 := by decide
theorem tbits5 : tbits 5 = 99 := by decide
theorem told5 {w : Int} (h0 : 0 ≤ w) (h1 : w < 4294967296) (h : part 5 w = 99) : raw w = 5 := by
 have h : w % 128 + w / 4096 % 8 * 4096 = 99 := h
 rw [raw_of2 (lo := 99) (mi := 0) (by omega) (by omega)]; rfl
theorem frm6 : frm 6 = 5 := by decide
theorem tbits6 : tbits 6 = 4195 := by decide
theorem told6 {w : Int} (h0 : 0 ≤ w) (h1 : w < 4294967296) (h : part 5 w = 4195) : raw w = 6 := by
 have h : w % 128 + w / 4096 % 8 * 4096 = 4195 := h
 rw [raw_of2 (lo := 99) (mi := 1) (by omega) (by omega)]; rfl
theorem frm7 : frm 7 = 5 := by decide
theorem tbits7 : tbits 7 = 16483 := by decide
theorem told7 {w : Int} (h0 : 0 ≤ w) (h1 : w < 4294967296) (h : part 5 w = 16483) : raw w = 7 := by
 have h : w % 128 + w / 4096 % 8 * 4096 = 16483 := h
 rw [raw_of2 (lo := 99) (mi := 4) (by omega) (by omega)]; rfl
theorem frm8 : frm 8 = 5 := by decide
theorem tbits8 : tbits 8 = 20579 := by decide
theorem told8 {w : Int} (h0 : 0 ≤ w) (h1 : w < 4294967296) (h : part 5 w = 20579) : raw w = 8 := by
 have h : w % 128 + w / 4096 % 8 * 4096 = 20579 := h
 rw [raw_of2 (lo := 99) (mi := 5) (by omega) (by omega)]; rfl
theorem frm9 : frm 9 = 5 := by decide
theorem tbits9 : tbits 9 = 24675 := by decide
theorem told9 {w : Int} (h0 : 0 ≤ w) (h1 : w < 4294967296) (h : part 5 w = 24675) : raw w = 9 := by
 have h : w % 128 + w / 4096 % 8 * 4096 = 24675 := h
 rw [raw_of2 (lo := 99) (mi := 6) (by omega) (by omega)]; rfl
theorem frm10 : frm 10 = 5 := by decide
theorem tbits10 : tbits 10 = 28771 := by decide
theorem told10 {w : Int} (h0 : 0 ≤ w) (h1 : w < 4294967296) (h : part 5 w = 28771) : raw w = 10 := by
 have h : w % 128 + w / 4096 % 8 * 4096 = 28771 := h
 rw [raw_of2 (lo := 99) (mi := 7) (by omega) (by omega)]; rfl
theorem frm11 : frm 11 = 3 := by decide
theorem tbits11 : tbits 11 = 3 := by decide
theorem told11 {w : Int} (h0 : 0 ≤ w) (h1 : w < 4294967296) (h : part 3 w = 3) : raw w = 11 := by
 have h : w % 128 + w / 4096 % 8 * 4096 = 3 := h
 rw [raw_of2 (lo := 3) (mi := 0) (by omega) (by omega)]; rfl
theorem frm12 : frm 12 = 3 := by decide
theorem tbits12 : tbits 12 = 4099 := by decide
theorem told12 {w : Int} (h0 : 0 ≤ w) (h1 : w < 4294967296) (h : part 3 w = 4099) : raw w = 12 := by
 have h : w % 128 + w / 4096 % 8 * 4096 = 4099 := h
 rw [raw_of2 (lo := 3) (mi := 1) (by omega) (by omega)]; rfl
theorem frm13 : frm 13 = 3 := by decide
theorem tbits13 : tbits 13 = 8195 := by decide
theorem told13 {w : Int} (h0 : 0 ≤ w) (h1 : w < 4294967296) (h : part 3 w = 8195) : raw w = 13 := by
 have h : w % 128 + w / 4096 % 8 * 4096 = 8195 := h
 rw [raw_of2 (lo := 3) (mi := 2) (by omega) (by omega)]; rfl
theorem frm14 : frm 14 = 3 := by decide
theorem tbits14 : tbits 14 = 16387 := by decide
theorem told14 {w : Int} (h0 : 0 ≤ w) (h1 : w < 4294967296) (h : part 3 w = 16387) : raw w = 14 := by
 have h : w % 128 + w / 4096 % 8 * 4096 = 16387 := h
 rw [raw_of2 (lo := 3) (mi := 4) (by omega) (by omega)]; rfl
theorem frm15 : frm 15 = 3 := by decide
theorem tbits15 : tbits 15 = 20483 := by decide
theorem told15 {w : Int} (h0 : 0 ≤ w) (h1 : w < 4294967296) (h : part 3 w = 20483) : raw w = 15 := by
 have h : w % 128 + w / 4096 % 8 * 4096 = 20483 := h
 rw [raw_of2 (lo := 3) (mi := 5) (by omega) (by omega)]; rfl
theorem frm16 : frm 16 = 6 := by decide
theorem tbits16 : tbits 16 = 35 := by decide
theorem told16 {w : Int} (h0 : 0 ≤ w) (h1 : w < 4294967296) (h : part 6 w = 35) : raw w = 16 := by
 have h : w % 128 + w / 4096 % 8 * 4096 = 35 := h
 rw [raw_of2 (lo := 35) (mi := 0) (by omega) (by omega)]; rfl
theorem frm17 : frm 17 = 6 := by decide
theorem tbits17 : tbits 17 = 4131 := by decide
theorem told17 {w : Int} (h0 : 0 ≤ w) (h1 : w < 4294967296) (h : part 6 w = 4131) : raw w = 17 := by
 have h : w % 128 + w / 4096 % 8 * 4096 = 4131 := h
 rw [raw_of2 (lo := 35) (mi := 1) (by omega) (by omega)]; rfl
theorem frm18 : frm 18 = 6 := by decide
theorem tbits18 : tbits 18 = 8227 := by decide
theorem told18 {w : Int} (h0 : 0 ≤ w) (h1 : w < 4294967296) (h : part 6 w = 8227) : raw w = 18 := by
 have h : w % 128 + w / 4096 % 8 * 4096 = 8227 := h
 rw [raw_of2 (lo := 35) (mi := 2) (by omega) (by omega)]; rfl
theorem frm19 : frm 19 = 3 := by decide
theorem tbits19 : tbits 19 = 19 := by decide
theorem told19 {w : Int} (h0 : 0 ≤ w) (h1 : w < 4294967296) (h : part 3 w = 19) : raw w = 19 := by
 have h : w % 128 + w / 4096 % 8 * 4096 = 19 := h
 rw [raw_of2 (lo := 19) (mi := 0) (by omega) (by omega)]; rfl
theorem frm20 : frm 20 = 3 := by decide
theorem tbits20 : tbits 20 = 8211 := by decide
theorem told20 {w : Int} (h0 : 0 ≤ w) (h1 : w < 4294967296) (h : part 3 w = 8211) : raw w = 20 := by
 have h : w % 128 + w / 4096 % 8 * 4096 = 8211 := h
 rw [raw_of2 (lo := 19) (mi := 2) (by omega) (by omega)]; rfl
theorem frm21 : frm 21 = 3 := by decide
theorem tbits21 : tbits 21 = 12307 := by decide
theorem told21 {w : Int} (h0 : 0 ≤ w) (h1 : w < 4294967296) (h : part 3 w = 12307) : raw w = 21 := by
 have h : w % 128 + w / 4096 % 8 * 4096 = 12307 := h
 rw [raw_of2 (lo := 19) (mi := 3) (by omega) (by omega)]; rfl
theorem frm22 : frm 22 = 3 := by decide
theorem tbits22 : tbits 22 = 16403 := by decide
theorem told22 {w : Int} (h0 : 0 ≤ w) (h1 : w < 4294967296) (h : part 3 w = 16403) : raw w = 22 := by
 have h : w % 128 + w / 4096 % 8 * 4096 = 16403 := h
 rw [raw_of2 (lo := 19) (mi := 4) (by omega) (by omega)]; rfl
theorem frm23 : frm 23 = 3 := by decide
theorem tbits23 : tbits 23 = 24595 := by decide
theorem told23 {w : Int} (h0 : 0 ≤ w) (h1 : w < 4294967296) (h : part 3 w = 24595) : raw w = 23 := by
 have h : w % 128 + w / 4096 % 8 * 4096 = 24595 := h
 rw [raw_of2 (lo := 19) (mi := 6) (by omega) (by omega)]; rfl
theorem frm24 : frm 24 = 3 := by decide
theorem tbits24 : tbits 24 = 28691 := by decide
theorem told24 {w : Int} (h0 : 0 ≤ w) (h1 : w < 4294967296) (h : part 3 w = 28691) : raw w = 24 := by
 have h : w % 128 + w / 4096 % 8 * 4096 = 28691 := h
 rw [raw_of2 (lo := 19) (mi := 7) (by omega) (by omega)]; rfl
theorem frm25 : frm 25 = 4 := by decide
theorem tbits25 : tbits 25 = 4115 := by decide
theorem told25 {w : Int} (h0 : 0 ≤ w) (h1 : w < 4294967296) (h : part 4 w = 4115) : raw w = 25 := by
 have h : w % 128 + w / 4096 % 8 * 4096 + w / 33554432 * 33554432 = 4115 := h
 rw [raw_of (lo := 19) (mi := 1) (up := 0) (by omega) (by omega) (by omega)]; rfl
theorem frm26 : frm 26 = 4 := by decide
theorem tbits26 : tbits 26 = 20499 := by decide
theorem told26 {w : Int} (h0 : 0 ≤ w) (h1 : w < 4294967296) (h : part 4 w = 20499) : raw w = 26 := by
 have h : w % 128 + w / 4096 % 8 * 4096 + w / 33554432 * 33554432 = 20499 := h
 rw [raw_of (lo := 19) (mi := 5) (up := 0) (by omega) (by omega) (by omega)]; rfl
theorem frm27 : frm 27 = 4 := by decide
theorem tbits27 : tbits 27 = 1073762323 := by decide
theorem told27 {w : Int} (h0 : 0 ≤ w) (h1 : w < 4294967296) (h : part 4 w = 1073762323) : raw w = 27 := by
 have h : w % 128 + w / 4096 % 8 * 4096 + w / 33554432 * 33554432 = 1073762323 := h
 rw [raw_of (lo := 19) (mi := 5) (up := 32) (by omega) (by omega) (by omega)]; rfl
theorem frm28 : frm 28 = 7 := by decide
theorem tbits28 : tbits 28 = 51 := by decide
theorem told28 {w : Int} (h0 : 0 ≤ w) (h1 : w < 4294967296) (h : part 7 w = 51) : raw w = 28 := by
 have h : w % 128 + w / 4096 % 8 * 4096 + w / 33554432 * 33554432 = 51 := h
 rw [raw_of (lo := 51) (mi := 0) (up := 0) (by omega) (by omega) (by omega)]; rfl
theorem frm29 : frm 29 = 7 := by decide
theorem tbits29 : tbits 29 = 1073741875 := by decide
theorem told29 {w : Int} (h0 : 0 ≤ w) (h1 : w < 4294967296) (h : part 7 w = 1073741875) : raw w = 29 := by
 have h : w % 128 + w / 4096 % 8 * 4096 + w / 33554432 * 33554432 = 1073741875 := h
 rw [raw_of (lo := 51) (mi := 0) (up := 32) (by omega) (by omega) (by omega)]; rfl
theorem frm30 : frm 30 = 7 := by decide
theorem tbits30 : tbits 30 = 4147 := by decide
theorem told30 {w : Int} (h0 : 0 ≤ w) (h1 : w < 4294967296) (h : part 7 w = 4147) : raw w = 30 := by
 have h : w % 128 + w / 4096 % 8 * 4096 + w / 33554432 * 33554432 = 4147 := h
 rw [raw_of (lo := 51) (mi := 1) (up := 0) (by omega) (by omega) (by omega)]; rfl
theorem frm31 : frm 31 = 7 := by decide
theorem tbits31 : tbits 31 = 8243 := by decide
theorem told31 {w : Int} (h0 : 0 ≤ w) (h1 : w < 4294967296) (h : part 7 w = 8243) : raw w = 31 := by
 have h : w % 128 + w / 4096 % 8 * 4096 + w / 33554432 * 33554432 = 8243 := h
 rw [raw_of (lo := 51) (mi := 2) (up := 0) (by omega) (by omega) (by omega)]; rfl
theorem frm32 : frm 32 = 7 := by decide
theorem tbits32 : tbits 32 = 12339 := by decide
theorem told32 {w : Int} (h0 : 0 ≤ w) (h1 : w < 4294967296) (h : part 7 w = 12339) : raw w = 32 := by
 have h : w % 128 + w / 4096 % 8 * 4096 + w / 33554432 * 33554432 = 12339 := h
 rw [raw_of (lo := 51) (mi := 3) (up := 0) (by omega) (by omega) (by omega)]; rfl
theorem frm33 : frm 33 = 7 := by decide
theorem tbits33 : tbits 33 = 16435 := by decide
theorem told33 {w : Int} (h0 : 0 ≤ w) (h1 : w < 4294967296) (h : part 7 w = 16435) : raw w = 33 := by
 have h : w % 128 + w / 4096 % 8 * 4096 + w / 33554432 * 33554432 = 16435 := h
 rw [raw_of (lo := 51) (mi := 4) (up := 0) (by omega) (by omega) (by omega)]; rfl
theorem frm34 : frm 34 = 7 := by decide
theorem tbits34 : tbits 34 = 20531 := by decide
theorem told34 {w : Int} (h0 : 0 ≤ w) (h1 : w < 4294967296) (h : part 7 w = 20531) : raw w = 34 := by
 have h : w % 128 + w / 4096 % 8 * 4096 + w / 33554432 * 33554432 = 20531 := h
 rw [raw_of (lo := 51) (mi := 5) (up := 0) (by omega) (by omega) (by omega)]; rfl
theorem frm35 : frm 35 = 7 := by decide
theorem tbits35 : tbits 35 = 1073762355 := by decide
theorem told35 {w : Int} (h0 : 0 ≤ w) (h1 : w < 4294967296) (h : part 7 w = 1073762355) : raw w = 35 := by
 have h : w % 128 + w / 4096 % 8 * 4096 + w / 33554432 * 33554432 = 1073762355 := h
 rw [raw_of (lo := 51) (mi := 5) (up := 32) (by omega) (by omega) (by omega)]; rfl
theorem frm36 : frm 36 = 7 := by decide
theorem tbits36 : tbits 36 = 24627 := by decide
theorem told36 {w : Int} (h0 : 0 ≤ w) (h1 : w < 4294967296) (h : part 7 w = 24627) : raw w = 36 := by
 have h : w % 128 + w / 4096 % 8 * 4096 + w / 33554432 * 33554432 = 24627 := h
 rw [raw_of (lo := 51) (mi := 6) (up := 0) (by omega) (by omega) (by omega)]; rfl
theorem frm37 : frm 37 = 7 := by decide
theorem tbits37 : tbits 37 = 28723 := by decide
theorem told37 {w : Int} (h0 : 0 ≤ w) (h1 : w < 4294967296) (h : part 7 w = 28723) : raw w = 37 := by
 have h : w % 128 + w / 4096 % 8 * 4096 + w / 33554432 * 33554432 = 28723 := h
 rw [raw_of (lo := 51) (mi := 7) (up := 0) (by omega) (by omega) (by omega)]; rfl
theorem frm38 : frm 38 = 7 := by decide
theorem tbits38 : tbits 38 = 33554483 := by decide
theorem told38 {w : Int} (h0 : 0 ≤ w) (h1 : w < 4294967296) (h : part 7 w = 33554483) : raw w = 38 := by
 have h : w % 128 + w / 4096 % 8 * 4096 + w / 33554432 * 33554432 = 33554483 := h
 rw [raw_of (lo := 51) (mi := 0) (up := 1) (by omega) (by omega) (by omega)]; rfl
theorem frm39 : frm 39 = 7 := by decide
theorem tbits39 : tbits 39 = 33558579 := by decide
theorem told39 {w : Int} (h0 : 0 ≤ w) (h1 : w < 4294967296) (h : part 7 w = 33558579) : raw w = 39 := by
 have h : w % 128 + w / 4096 % 8 * 4096 + w / 33554432 * 33554432 = 33558579 := h
 rw [raw_of (lo := 51) (mi := 1) (up := 1) (by omega) (by omega) (by omega)]; rfl
theorem frm40 : frm 40 = 7 := by decide
theorem tbits40 : tbits 40 = 33562675 := by decide
theorem told40 {w : Int} (h0 : 0 ≤ w) (h1 : w < 4294967296) (h : part 7 w = 33562675) : raw w = 40 := by
 have h : w % 128 + w / 4096 % 8 * 4096 + w / 33554432 * 33554432 = 33562675 := h
 rw [raw_of (lo := 51) (mi := 2) (up := 1) (by omega) (by omega) (by omega)]; rfl
theorem frm41 : frm 41 = 7 := by decide
theorem tbits41 : tbits 41 = 33566771 := by decide
theorem told41 {w : Int} (h0 : 0 ≤ w) (h1 : w < 4294967296) (h : part 7 w = 33566771) : raw w = 41 := by
 have h : w % 128 + w / 4096 % 8 * 4096 + w / 33554432 * 33554432 = 33566771 := h
 rw [raw_of (lo := 51) (mi := 3) (up := 1) (by omega) (by omega) (by omega)]; rfl
theorem frm42 : frm 42 = 7 := by decide
theorem tbits42 : tbits 42 = 33570867 := by decide
theorem told42 {w : Int} (h0 : 0 ≤ w) (h1 : w < 4294967296) (h : part 7 w = 33570867) : raw w = 42 := by
 have h : w % 128 + w / 4096 % 8 * 4096 + w / 33554432 * 33554432 = 33570867 := h
 rw [raw_of (lo := 51) (mi := 4) (up := 1) (by omega) (by omega) (by omega)]; rfl
theorem frm43 : frm 43 = 7 := by decide
theorem tbits43 : tbits 43 = 33574963 := by decide
theorem told43 {w : Int} (h0 : 0 ≤ w) (h1 : w < 4294967296) (h : part 7 w = 33574963) : raw w = 43 := by
 have h : w % 128 + w / 4096 % 8 * 4096 + w / 33554432 * 33554432 = 33574963 := h
 rw [raw_of (lo := 51) (mi := 5) (up := 1) (by omega) (by omega) (by omega)]; rfl
theorem frm44 : frm 44 = 7 := by decide
theorem tbits44 : tbits 44 = 33579059 := by decide
theorem told44 {w : Int} (h0 : 0 ≤ w) (h1 : w < 4294967296) (h : part 7 w = 33579059) : raw w = 44 := by
 have h : w % 128 + w / 4096 % 8 * 4096 + w / 33554432 * 33554432 = 33579059 := h
 rw [raw_of (lo := 51) (mi := 6) (up := 1) (by omega) (by omega) (by omega)]; rfl
theorem frm45 : frm 45 = 7 := by decide
theorem tbits45 : tbits 45 = 33583155 := by decide
theorem told45 {w : Int} (h0 : 0 ≤ w) (h1 : w < 4294967296) (h : part 7 w = 33583155) : raw w = 45 := by
 have h : w % 128 + w / 4096 % 8 * 4096 + w / 33554432 * 33554432 = 33583155 := h
 rw [raw_of (lo := 51) (mi := 7) (up := 1) (by omega) (by omega) (by omega)]; rfl
theorem frm46 : frm 46 = 8 := by decide
theorem tbits46 : tbits 46 = 268443695 := by decide
theorem told46 {w : Int} (h0 : 0 ≤ w) (h1 : w < 4294967296) (h : part 8 w = 268443695) : raw w = 46 := by
 have h : w % 128 + w / 4096 % 8 * 4096 + w / 134217728 * 134217728 = 268443695 := h
 rw [raw_of2 (lo := 47) (mi := 2) (by omega) (by omega)]; show pk (w / 33554432 / 4) lA = _; rw [show w / 33554432 / 4 = 2 by omega]; rfl
theorem frm47 : frm 47 = 8 := by decide
theorem tbits47 : tbits 47 = 402661423 := by decide
theorem told47 {w : Int} (h0 : 0 ≤ w) (h1 : w < 4294967296) (h : part 8 w = 402661423) : raw w = 47 := by
 have h : w % 128 + w / 4096 % 8 * 4096 + w / 134217728 * 134217728 = 402661423 := h
 rw [raw_of2 (lo := 47) (mi := 2) (by omega) (by omega)]; show pk (w / 33554432 / 4) lA = _; rw [show w / 33554432 / 4 = 3 by omega]; rfl
theorem frm48 : frm 48 = 8 := by decide
theorem tbits48 : tbits 48 = 134225967 := by decide
theorem told48 {w : Int} (h0 : 0 ≤ w) (h1 : w < 4294967296) (h : part 8 w = 134225967) : raw w = 48 := by
 have h : w % 128 + w / 4096 % 8 * 4096 + w / 134217728 * 134217728 = 134225967 := h
 rw [raw_of2 (lo := 47) (mi := 2) (by omega) (by omega)]; show pk (w / 33554432 / 4) lA = _; rw [show w / 33554432 / 4 = 1 by omega]; rfl
theorem frm49 : frm 49 = 8 := by decide
theorem tbits49 : tbits 49 = 8239 := by decide
theorem told49 {w : Int} (h0 : 0 ≤ w) (h1 : w < 4294967296) (h : part 8 w = 8239) : raw w = 49 := by
 have h : w % 128 + w / 4096 % 8 * 4096 + w / 134217728 * 134217728 = 8239 := h
 rw [raw_of2 (lo := 47) (mi := 2) (by omega) (by omega)]; show pk (w / 33554432 / 4) lA = _; rw [show w / 33554432 / 4 = 0 by omega]; rfl
theorem frm50 : frm 50 = 8 := by decide
theorem tbits50 : tbits 50 = 536879151 := by decide
theorem told50 {w : Int} (h0 : 0 ≤ w) (h1 : w < 4294967296) (h : part 8 w = 536879151) : raw w = 50 := by
 have h : w % 128 + w / 4096 % 8 * 4096 + w / 134217728 * 134217728 = 536879151 := h
 rw [raw_of2 (lo := 47) (mi := 2) (by omega) (by omega)]; show pk (w / 33554432 / 4) lA = _; rw [show w / 33554432 / 4 = 4 by omega]; rfl
theorem frm51 : frm 51 = 8 := by decide
theorem tbits51 : tbits 51 = 1610620975 := by decide
theorem told51 {w : Int} (h0 : 0 ≤ w) (h1 : w < 4294967296) (h : part 8 w = 1610620975) : raw w = 51 := by
 have h : w % 128 + w / 4096 % 8 * 4096 + w / 134217728 * 134217728 = 1610620975 := h
 rw [raw_of2 (lo := 47) (mi := 2) (by omega) (by omega)]; show pk (w / 33554432 / 4) lA = _; rw [show w / 33554432 / 4 = 12 by omega]; rfl
theorem frm52 : frm 52 = 8 := by decide
theorem tbits52 : tbits 52 = 1073750063 := by decide
theorem told52 {w : Int} (h0 : 0 ≤ w) (h1 : w < 4294967296) (h : part 8 w = 1073750063) : raw w = 52 := by
 have h : w % 128 + w / 4096 % 8 * 4096 + w / 134217728 * 134217728 = 1073750063 := h
 rw [raw_of2 (lo := 47) (mi := 2) (by omega) (by omega)]; show pk (w / 33554432 / 4) lA = _; rw [show w / 33554432 / 4 = 8 by omega]; rfl
theorem frm53 : frm 53 = 8 := by decide
theorem tbits53 : tbits 53 = 2147491887 := by decide
theorem told53 {w : Int} (h0 : 0 ≤ w) (h1 : w < 4294967296) (h : part 8 w = 2147491887) : raw w = 53 := by
 have h : w % 128 + w / 4096 % 8 * 4096 + w / 134217728 * 134217728 = 2147491887 := h
 rw [raw_of2 (lo := 47) (mi := 2) (by omega) (by omega)]; show pk (w / 33554432 / 4) lA = _; rw [show w / 33554432 / 4 = 16 by omega]; rfl
theorem frm54 : frm 54 = 8 := by decide
theorem tbits54 : tbits 54 = 2684362799 := by decide
theorem told54 {w : Int} (h0 : 0 ≤ w) (h1 : w < 4294967296) (h : part 8 w = 2684362799) : raw w = 54 := by
 have h : w % 128 + w / 4096 % 8 * 4096 + w / 134217728 * 134217728 = 2684362799 := h
 rw [raw_of2 (lo := 47) (mi := 2) (by omega) (by omega)]; show pk (w / 33554432 / 4) lA = _; rw [show w / 33554432 / 4 = 20 by omega]; rfl
theorem frm55 : frm 55 = 8 := by decide
theorem tbits55 : tbits 55 = 3221233711 := by decide
theorem told55 {w : Int} (h0 : 0 ≤ w) (h1 : w < 4294967296) (h : part 8 w = 3221233711) : raw w = 55 := by
 have h : w % 128 + w / 4096 % 8 * 4096 + w / 134217728 * 134217728 = 3221233711 := h
 rw [raw_of2 (lo := 47) (mi := 2) (by omega) (by omega)]; show pk (w / 33554432 / 4) lA = _; rw [show w / 33554432 / 4 = 24 by omega]; rfl
theorem frm56 : frm 56 = 8 := by decide
theorem tbits56 : tbits 56 = 3758104623 := by decide
theorem told56 {w : Int} (h0 : 0 ≤ w) (h1 : w < 4294967296) (h : part 8 w = 3758104623) : raw w = 56 := by
 have h : w % 128 + w / 4096 % 8 * 4096 + w / 134217728 * 134217728 = 3758104623 := h
 rw [raw_of2 (lo := 47) (mi := 2) (by omega) (by omega)]; show pk (w / 33554432 / 4) lA = _; rw [show w / 33554432 / 4 = 28 by omega]; rfl
theorem frm57 : frm 57 = 3 := by decide
theorem tbits57 : tbits 57 = 15 := by decide
theorem told57 {w : Int} (h0 : 0 ≤ w) (h1 : w < 4294967296) (h : part 3 w = 15) : raw w = 57 := by
 have h : w % 128 + w / 4096 % 8 * 4096 = 15 := h
 rw [raw_of2 (lo := 15) (mi := 0) (by omega) (by omega)]; rfl
theorem tbits58 : tbits 58 = 115 := by decide
theorem told58 {w : Int} (h0 : 0 ≤ w) (h1 : w < 4294967296) (h : part 9 w = 115) : raw w = 58 := by
 have h : w = 115 := h
 subst h; decide
theorem tbits59 : tbits 59 = 1048691 := by decide
theorem told59 {w : Int} (h0 : 0 ≤ w) (h1 : w < 4294967296) (h : part 9 w = 1048691) : raw w = 59 := by
 have h : w = 1048691 := h
 subst h; decide
theorem told_raw {w k : Int} (h0 : 0 ≤ w) (h1 : w < 4294967296) (hk : 1 ≤ k) (hk' : k ≤ 59) (h : part (frm k) w = tbits k) : raw w = k := by
 have hd : k = 1 ∨ k = 2 ∨ k = 3 ∨ k = 4 ∨ k = 5 ∨ k = 6 ∨ k = 7 ∨ k = 8 ∨ k = 9 ∨ k = 10 ∨ k = 11 ∨ k = 12 ∨ k = 13 ∨ k = 14 ∨ k = 15 ∨ k = 16 ∨ k = 17 ∨ k = 18 ∨ k = 19 ∨ k = 20 ∨ k = 21 ∨ k = 22 ∨ k = 23 ∨ k = 24 ∨ k = 25 ∨ k = 26 ∨ k = 27 ∨ k = 28 ∨ k = 29 ∨ k = 30 ∨ k = 31 ∨ k = 32 ∨ k = 33 ∨ k = 34 ∨ k = 35 ∨ k = 36 ∨ k = 37 ∨ k = 38 ∨ k = 39 ∨ k = 40 ∨ k = 41 ∨ k = 42 ∨ k = 43 ∨ k = 44 ∨ k = 45 ∨ k = 46 ∨ k = 47 ∨ k = 48 ∨ k = 49 ∨ k = 50 ∨ k = 51 ∨ k = 52 ∨ k = 53 ∨ k = 54 ∨ k = 55 ∨ k = 56 ∨ k = 57 ∨ k = 58 ∨ k = 59 := by omega
 rcases hd with rfl | rfl | rfl | rfl | rfl | rfl | rfl | rfl | rfl | rfl | rfl | rfl | rfl | rfl | rfl | rfl | rfl | rfl | rfl | rfl | rfl | rfl | rfl | rfl | rfl | rfl | rfl | rfl | rfl | rfl | rfl | rfl | rfl | rfl | rfl | rfl | rfl | rfl | rfl | rfl | rfl | rfl | rfl | rfl | rfl | rfl | rfl | rfl | rfl | rfl | rfl | rfl | rfl | rfl | rfl | rfl | rfl | rfl | rfl
 ·exact told1 h0 h1 (h.trans tbits1)
 ·exact told2 h0 h1 (h.trans tbits2)
 ·exact told3 h0 h1 (h.trans tbits3)
 ·exact told4 h0 h1 (h.trans tbits4)
 ·exact told5 h0 h1 (h.trans tbits5)
 ·exact told6 h0 h1 (h.trans tbits6)
 ·exact told7 h0 h1 (h.trans tbits7)
 ·exact told8 h0 h1 (h.trans tbits8)
 ·exact told9 h0 h1 (h.trans tbits9)
 ·exact told10 h0 h1 (h.trans tbits10)
 ·exact told11 h0 h1 (h.trans tbits11)
 ·exact told12 h0 h1 (h.trans tbits12)
 ·exact told13 h0 h1 (h.trans tbits13)
 ·exact told14 h0 h1 (h.trans tbits14)
 ·exact told15 h0 h1 (h.trans tbits15)
 ·exact told16 h0 h1 (h.trans tbits16)
 ·exact told17 h0 h1 (h.trans tbits17)
 ·exact told18 h0 h1 (h.trans tbits18)
 ·exact told19 h0 h1 (h.trans tbits19)
 ·exact told20 h0 h1 (h.trans tbits20)
 ·exact told21 h0 h1 (h.trans tbits21)
 ·exact told22 h0 h1 (h.trans tbits22)
 ·exact told23 h0 h1 (h.trans tbits23)
 ·exact told24 h0 h1 (h.trans tbits24)
 ·exact told25 h0 h1 (h.trans tbits25)
 ·exact told26 h0 h1 (h.trans tbits26)
 ·exact told27 h0 h1 (h.trans tbits27)
 ·exact told28 h0 h1 (h.trans tbits28)
 ·exact told29 h0 h1 (h.trans tbits29)
 ·exact told30 h0 h1 (h.trans tbits30)
 ·exact told31 h0 h1 (h.trans tbits31)
 ·exact told32 h0 h1 (h.trans tbits32)
 ·exact told33 h0 h1 (h.trans tbits33)
 ·exact told34 h0 h1 (h.trans tbits34)
 ·exact told35 h0 h1 (h.trans tbits35)
 ·exact told36 h0 h1 (h.trans tbits36)
 ·exact told37 h0 h1 (h.trans tbits37)
 ·exact told38 h0 h1 (h.trans tbits38)
 ·exact told39 h0 h1 (h.trans tbits39)
 ·exact told40 h0 h1 (h.trans tbits40)
 ·exact told41 h0 h1 (h.trans tbits41)
 ·exact told42 h0 h1 (h.trans tbits42)
 ·exact told43 h0 h1 (h.trans tbits43)
 ·exact told44 h0 h1 (h.trans tbits44)
 ·exact told45 h0 h1 (h.trans tbits45)
 ·exact told46 h0 h1 (h.trans tbits46)
 ·exact told47 h0 h1 (h.trans tbits47)
 ·exact told48 h0 h1 (h.trans tbits48)
 ·exact told49 h0 h1 (h.trans tbits49)
 ·exact told50 h0 h1 (h.trans tbits50)
 ·exact told51 h0 h1 (h.trans tbits51)
 ·exact told52 h0 h1 (h.trans tbits52)
 ·exact told53 h0 h1 (h.trans tbits53)
 ·exact told54 h0 h1 (h.trans tbits54)
 ·exact told55 h0 h1 (h.trans tbits55)
 ·exact told56 h0 h1 (h.trans tbits56)
 ·exact told57 h0 h1 (h.trans tbits57)
 ·exact told58 h0 h1 (h.trans tbits58)
 ·exact told59 h0 h1 (h.trans tbits59)
theorem pk_cases {n : Int} {P : Int → Prop} : (l : List (Int × Int)) → (h0 : P 0) → (∀ x ∈ l, n = x.1 → P x.2) → P (pk n l)
 | [], h0, _ => h0
 | (a, o) :: r, h0, h => by
  unfold pk
  split
  ·exact h (a, o) (by simp) ‹_›
  ·exact pk_cases r h0 fun x hx => h x (by simp [hx])
def sp1 (lo : Int) : Int := if lo = 55 then 1 else if lo = 23 then 2 else if lo = 111 then 3 else if lo = 103 then 4 else if lo = 99 then 5 else if lo = 3 then 11 else if lo = 35 then 16 else if lo = 19 then 19 else if lo = 51 then 28 else if lo = 47 then 46 else if lo = 15 then 57 else if lo = 115 then 58 else 0
def sp2 (lo : Int) : Int := if lo = 55 then 1 else if lo = 23 then 2 else if lo = 111 then 3 else if lo = 103 then 4 else if lo = 99 then 10 else if lo = 3 then 15 else if lo = 35 then 18 else if lo = 19 then 27 else if lo = 51 then 45 else if lo = 47 then 56 else if lo = 15 then 57 else if lo = 115 then 59 else -1
def Q (w k : Int) : Prop := k ≠ 0 → part (frm k) w = tbits k ∧ 1 ≤ k ∧ k ≤ 59 ∧ sp1 (w % 128) ≤ k ∧ k ≤ sp2 (w % 128)
theorem Q0 (w : Int) : Q w 0 := fun h => absurd rfl h
theorem q1 {w : Int} (hl : w % 128 = 55) : Q w 1 := fun _ =>
 ⟨by rw [frm1, tbits1]; show w % 128 = 55; omega, by omega, by omega, by rw [hl]; decide, by rw [hl]; decide⟩
theorem q2 {w : Int} (hl : w % 128 = 23) : Q w 2 := fun _ =>
 ⟨by rw [frm2, tbits2]; show w % 128 = 23; omega, by omega, by omega, by rw [hl]; decide, by rw [hl]; decide⟩
theorem q3 {w : Int} (hl : w % 128 = 111) : Q w 3 := fun _ =>
 ⟨by rw [frm3, tbits3]; show w % 128 = 111; omega, by omega, by omega, by rw [hl]; decide, by rw [hl]; decide⟩
theorem q4 {w : Int} (hl : w % 128 = 103) (hm : w / 4096 % 8 = 0) : Q w 4 := fun _ =>
 ⟨by rw [frm4, tbits4]; show w % 128 + w / 4096 % 8 * 4096 = 103; omega, by omega, by omega, by rw [hl]; decide, by rw [hl]; decide⟩
theorem q5 {w : Int} (hl : w % 128 = 99) (hm : w / 4096 % 8 = 0) : Q w 5 := fun _ =>
 ⟨by rw [frm5, tbits5]; show w % 128 + w / 4096 % 8 * 4096 = 99; omega, by omega, by omega, by rw [hl]; decide, by rw [hl]; decide⟩
theorem q6 {w : Int} (hl : w % 128 = 99) (hm : w / 4096 % 8 = 1) : Q w 6 := fun _ =>
 ⟨by rw [frm6, tbits6]; show w % 128 + w / 4096 % 8 * 4096 = 4195; omega, by omega, by omega, by rw [hl]; decide, by rw [hl]; decide⟩
theorem q7 {w : Int} (hl : w % 128 = 99) (hm : w / 4096 % 8 = 4) : Q w 7 := fun _ =>
 ⟨by rw [frm7, tbits7]; show w % 128 + w / 4096 % 8 * 4096 = 16483; omega, by omega, by omega, by rw [hl]; decide, by rw [hl]; decide⟩
theorem q8 {w : Int} (hl : w % 128 = 99) (hm : w / 4096 % 8 = 5) : Q w 8 := fun _ =>
 ⟨by rw [frm8, tbits8]; show w % 128 + w / 4096 % 8 * 4096 = 20579; omega, by omega, by omega, by rw [hl]; decide, by rw [hl]; decide⟩
theorem q9 {w : Int} (hl : w % 128 = 99) (hm : w / 4096 % 8 = 6) : Q w 9 := fun _ =>
 ⟨by rw [frm9, tbits9]; show w % 128 + w / 4096 % 8 * 4096 = 24675; omega, by omega, by omega, by rw [hl]; decide, by rw [hl]; decide⟩
theorem q10 {w : Int} (hl : w % 128 = 99) (hm : w / 4096 % 8 = 7) : Q w 10 := fun _ =>
 ⟨by rw [frm10, tbits10]; show w % 128 + w / 4096 % 8 * 4096 = 28771; omega, by omega, by omega, by rw [hl]; decide, by rw [hl]; decide⟩
theorem q11 {w : Int} (hl : w % 128 = 3) (hm : w / 4096 % 8 = 0) : Q w 11 := fun _ =>
 ⟨by rw [frm11, tbits11]; show w % 128 + w / 4096 % 8 * 4096 = 3; omega, by omega, by omega, by rw [hl]; decide, by rw [hl]; decide⟩
theorem q12 {w : Int} (hl : w % 128 = 3) (hm : w / 4096 % 8 = 1) : Q w 12 := fun _ =>
 ⟨by rw [frm12, tbits12]; show w % 128 + w / 4096 % 8 * 4096 = 4099; omega, by omega, by omega, by rw [hl]; decide, by rw [hl]; decide⟩
theorem q13 {w : Int} (hl : w % 128 = 3) (hm : w / 4096 % 8 = 2) : Q w 13 := fun _ =>
 ⟨by rw [frm13, tbits13]; show w % 128 + w / 4096 % 8 * 4096 = 8195; omega, by omega, by omega, by rw [hl]; decide, by rw [hl]; decide⟩
theorem q14 {w : Int} (hl : w % 128 = 3) (hm : w / 4096 % 8 = 4) : Q w 14 := fun _ =>
 ⟨by rw [frm14, tbits14]; show w % 128 + w / 4096 % 8 * 4096 = 16387; omega, by omega, by omega, by rw [hl]; decide, by rw [hl]; decide⟩
theorem q15 {w : Int} (hl : w % 128 = 3) (hm : w / 4096 % 8 = 5) : Q w 15 := fun _ =>
 ⟨by rw [frm15, tbits15]; show w % 128 + w / 4096 % 8 * 4096 = 20483; omega, by omega, by omega, by rw [hl]; decide, by rw [hl]; decide⟩
theorem q16 {w : Int} (hl : w % 128 = 35) (hm : w / 4096 % 8 = 0) : Q w 16 := fun _ =>
 ⟨by rw [frm16, tbits16]; show w % 128 + w / 4096 % 8 * 4096 = 35; omega, by omega, by omega, by rw [hl]; decide, by rw [hl]; decide⟩
theorem q17 {w : Int} (hl : w % 128 = 35) (hm : w / 4096 % 8 = 1) : Q w 17 := fun _ =>
 ⟨by rw [frm17, tbits17]; show w % 128 + w / 4096 % 8 * 4096 = 4131; omega, by omega, by omega, by rw [hl]; decide, by rw [hl]; decide⟩
theorem q18 {w : Int} (hl : w % 128 = 35) (hm : w / 4096 % 8 = 2) : Q w 18 := fun _ =>
 ⟨by rw [frm18, tbits18]; show w % 128 + w / 4096 % 8 * 4096 = 8227; omega, by omega, by omega, by rw [hl]; decide, by rw [hl]; decide⟩
theorem q19 {w : Int} (hl : w % 128 = 19) (hm : w / 4096 % 8 = 0) : Q w 19 := fun _ =>
 ⟨by rw [frm19, tbits19]; show w % 128 + w / 4096 % 8 * 4096 = 19; omega, by omega, by omega, by rw [hl]; decide, by rw [hl]; decide⟩
theorem q20 {w : Int} (hl : w % 128 = 19) (hm : w / 4096 % 8 = 2) : Q w 20 := fun _ =>
 ⟨by rw [frm20, tbits20]; show w % 128 + w / 4096 % 8 * 4096 = 8211; omega, by omega, by omega, by rw [hl]; decide, by rw [hl]; decide⟩
theorem q21 {w : Int} (hl : w % 128 = 19) (hm : w / 4096 % 8 = 3) : Q w 21 := fun _ =>
 ⟨by rw [frm21, tbits21]; show w % 128 + w / 4096 % 8 * 4096 = 12307; omega, by omega, by omega, by rw [hl]; decide, by rw [hl]; decide⟩
theorem q22 {w : Int} (hl : w % 128 = 19) (hm : w / 4096 % 8 = 4) : Q w 22 := fun _ =>
 ⟨by rw [frm22, tbits22]; show w % 128 + w / 4096 % 8 * 4096 = 16403; omega, by omega, by omega, by rw [hl]; decide, by rw [hl]; decide⟩
theorem q23 {w : Int} (hl : w % 128 = 19) (hm : w / 4096 % 8 = 6) : Q w 23 := fun _ =>
 ⟨by rw [frm23, tbits23]; show w % 128 + w / 4096 % 8 * 4096 = 24595; omega, by omega, by omega, by rw [hl]; decide, by rw [hl]; decide⟩
theorem q24 {w : Int} (hl : w % 128 = 19) (hm : w / 4096 % 8 = 7) : Q w 24 := fun _ =>
 ⟨by rw [frm24, tbits24]; show w % 128 + w / 4096 % 8 * 4096 = 28691; omega, by omega, by omega, by rw [hl]; decide, by rw [hl]; decide⟩
theorem q25 {w : Int} (hl : w % 128 = 19) (hm : w / 4096 % 8 = 1) (hu : w / 33554432 = 0) : Q w 25 := fun _ =>
 ⟨by rw [frm25, tbits25]; show w % 128 + w / 4096 % 8 * 4096 + w / 33554432 * 33554432 = 4115; omega, by omega, by omega, by rw [hl]; decide, by rw [hl]; decide⟩
theorem q26 {w : Int} (hl : w % 128 = 19) (hm : w / 4096 % 8 = 5) (hu : w / 33554432 = 0) : Q w 26 := fun _ =>
 ⟨by rw [frm26, tbits26]; show w % 128 + w / 4096 % 8 * 4096 + w / 33554432 * 33554432 = 20499; omega, by omega, by omega, by rw [hl]; decide, by rw [hl]; decide⟩
theorem q27 {w : Int} (hl : w % 128 = 19) (hm : w / 4096 % 8 = 5) (hu : w / 33554432 = 32) : Q w 27 := fun _ =>
 ⟨by rw [frm27, tbits27]; show w % 128 + w / 4096 % 8 * 4096 + w / 33554432 * 33554432 = 1073762323; omega, by omega, by omega, by rw [hl]; decide, by rw [hl]; decide⟩
theorem q28 {w : Int} (hl : w % 128 = 51) (hm : w / 4096 % 8 = 0) (hu : w / 33554432 = 0) : Q w 28 := fun _ =>
 ⟨by rw [frm28, tbits28]; show w % 128 + w / 4096 % 8 * 4096 + w / 33554432 * 33554432 = 51; omega, by omega, by omega, by rw [hl]; decide, by rw [hl]; decide⟩
theorem q29 {w : Int} (hl : w % 128 = 51) (hm : w / 4096 % 8 = 0) (hu : w / 33554432 = 32) : Q w 29 := fun _ =>
 ⟨by rw [frm29, tbits29]; show w % 128 + w / 4096 % 8 * 4096 + w / 33554432 * 33554432 = 1073741875; omega, by omega, by omega, by rw [hl]; decide, by rw [hl]; decide⟩
theorem q30 {w : Int} (hl : w % 128 = 51) (hm : w / 4096 % 8 = 1) (hu : w / 33554432 = 0) : Q w 30 := fun _ =>
 ⟨by rw [frm30, tbits30]; show w % 128 + w / 4096 % 8 * 4096 + w / 33554432 * 33554432 = 4147; omega, by omega, by omega, by rw [hl]; decide, by rw [hl]; decide⟩
theorem q31 {w : Int} (hl : w % 128 = 51) (hm : w / 4096 % 8 = 2) (hu : w / 33554432 = 0) : Q w 31 := fun _ =>
 ⟨by rw [frm31, tbits31]; show w % 128 + w / 4096 % 8 * 4096 + w / 33554432 * 33554432 = 8243; omega, by omega, by omega, by rw [hl]; decide, by rw [hl]; decide⟩
theorem q32 {w : Int} (hl : w % 128 = 51) (hm : w / 4096 % 8 = 3) (hu : w / 33554432 = 0) : Q w 32 := fun _ =>
 ⟨by rw [frm32, tbits32]; show w % 128 + w / 4096 % 8 * 4096 + w / 33554432 * 33554432 = 12339; omega, by omega, by omega, by rw [hl]; decide, by rw [hl]; decide⟩
theorem q33 {w : Int} (hl : w % 128 = 51) (hm : w / 4096 % 8 = 4) (hu : w / 33554432 = 0) : Q w 33 := fun _ =>
 ⟨by rw [frm33, tbits33]; show w % 128 + w / 4096 % 8 * 4096 + w / 33554432 * 33554432 = 16435; omega, by omega, by omega, by rw [hl]; decide, by rw [hl]; decide⟩
theorem q34 {w : Int} (hl : w % 128 = 51) (hm : w / 4096 % 8 = 5) (hu : w / 33554432 = 0) : Q w 34 := fun _ =>
 ⟨by rw [frm34, tbits34]; show w % 128 + w / 4096 % 8 * 4096 + w / 33554432 * 33554432 = 20531; omega, by omega, by omega, by rw [hl]; decide, by rw [hl]; decide⟩
theorem q35 {w : Int} (hl : w % 128 = 51) (hm : w / 4096 % 8 = 5) (hu : w / 33554432 = 32) : Q w 35 := fun _ =>
 ⟨by rw [frm35, tbits35]; show w % 128 + w / 4096 % 8 * 4096 + w / 33554432 * 33554432 = 1073762355; omega, by omega, by omega, by rw [hl]; decide, by rw [hl]; decide⟩
theorem q36 {w : Int} (hl : w % 128 = 51) (hm : w / 4096 % 8 = 6) (hu : w / 33554432 = 0) : Q w 36 := fun _ =>
 ⟨by rw [frm36, tbits36]; show w % 128 + w / 4096 % 8 * 4096 + w / 33554432 * 33554432 = 24627; omega, by omega, by omega, by rw [hl]; decide, by rw [hl]; decide⟩
theorem q37 {w : Int} (hl : w % 128 = 51) (hm : w / 4096 % 8 = 7) (hu : w / 33554432 = 0) : Q w 37 := fun _ =>
 ⟨by rw [frm37, tbits37]; show w % 128 + w / 4096 % 8 * 4096 + w / 33554432 * 33554432 = 28723; omega, by omega, by omega, by rw [hl]; decide, by rw [hl]; decide⟩
theorem q38 {w : Int} (hl : w % 128 = 51) (hm : w / 4096 % 8 = 0) (hu : w / 33554432 = 1) : Q w 38 := fun _ =>
 ⟨by rw [frm38, tbits38]; show w % 128 + w / 4096 % 8 * 4096 + w / 33554432 * 33554432 = 33554483; omega, by omega, by omega, by rw [hl]; decide, by rw [hl]; decide⟩
theorem q39 {w : Int} (hl : w % 128 = 51) (hm : w / 4096 % 8 = 1) (hu : w / 33554432 = 1) : Q w 39 := fun _ =>
 ⟨by rw [frm39, tbits39]; show w % 128 + w / 4096 % 8 * 4096 + w / 33554432 * 33554432 = 33558579; omega, by omega, by omega, by rw [hl]; decide, by rw [hl]; decide⟩
theorem q40 {w : Int} (hl : w % 128 = 51) (hm : w / 4096 % 8 = 2) (hu : w / 33554432 = 1) : Q w 40 := fun _ =>
 ⟨by rw [frm40, tbits40]; show w % 128 + w / 4096 % 8 * 4096 + w / 33554432 * 33554432 = 33562675; omega, by omega, by omega, by rw [hl]; decide, by rw [hl]; decide⟩
theorem q41 {w : Int} (hl : w % 128 = 51) (hm : w / 4096 % 8 = 3) (hu : w / 33554432 = 1) : Q w 41 := fun _ =>
 ⟨by rw [frm41, tbits41]; show w % 128 + w / 4096 % 8 * 4096 + w / 33554432 * 33554432 = 33566771; omega, by omega, by omega, by rw [hl]; decide, by rw [hl]; decide⟩
theorem q42 {w : Int} (hl : w % 128 = 51) (hm : w / 4096 % 8 = 4) (hu : w / 33554432 = 1) : Q w 42 := fun _ =>
 ⟨by rw [frm42, tbits42]; show w % 128 + w / 4096 % 8 * 4096 + w / 33554432 * 33554432 = 33570867; omega, by omega, by omega, by rw [hl]; decide, by rw [hl]; decide⟩
theorem q43 {w : Int} (hl : w % 128 = 51) (hm : w / 4096 % 8 = 5) (hu : w / 33554432 = 1) : Q w 43 := fun _ =>
 ⟨by rw [frm43, tbits43]; show w % 128 + w / 4096 % 8 * 4096 + w / 33554432 * 33554432 = 33574963; omega, by omega, by omega, by rw [hl]; decide, by rw [hl]; decide⟩
theorem q44 {w : Int} (hl : w % 128 = 51) (hm : w / 4096 % 8 = 6) (hu : w / 33554432 = 1) : Q w 44 := fun _ =>
 ⟨by rw [frm44, tbits44]; show w % 128 + w / 4096 % 8 * 4096 + w / 33554432 * 33554432 = 33579059; omega, by omega, by omega, by rw [hl]; decide, by rw [hl]; decide⟩
theorem q45 {w : Int} (hl : w % 128 = 51) (hm : w / 4096 % 8 = 7) (hu : w / 33554432 = 1) : Q w 45 := fun _ =>
 ⟨by rw [frm45, tbits45]; show w % 128 + w / 4096 % 8 * 4096 + w / 33554432 * 33554432 = 33583155; omega, by omega, by omega, by rw [hl]; decide, by rw [hl]; decide⟩
theorem q46 {w : Int} (hl : w % 128 = 47) (hm : w / 4096 % 8 = 2) (hu : w / 33554432 / 4 = 2) : Q w 46 := fun _ =>
 ⟨by rw [frm46, tbits46]; show w % 128 + w / 4096 % 8 * 4096 + w / 134217728 * 134217728 = 268443695; omega, by omega, by omega, by rw [hl]; decide, by rw [hl]; decide⟩
theorem q47 {w : Int} (hl : w % 128 = 47) (hm : w / 4096 % 8 = 2) (hu : w / 33554432 / 4 = 3) : Q w 47 := fun _ =>
 ⟨by rw [frm47, tbits47]; show w % 128 + w / 4096 % 8 * 4096 + w / 134217728 * 134217728 = 402661423; omega, by omega, by omega, by rw [hl]; decide, by rw [hl]; decide⟩
theorem q48 {w : Int} (hl : w % 128 = 47) (hm : w / 4096 % 8 = 2) (hu : w / 33554432 / 4 = 1) : Q w 48 := fun _ =>
 ⟨by rw [frm48, tbits48]; show w % 128 + w / 4096 % 8 * 4096 + w / 134217728 * 134217728 = 134225967; omega, by omega, by omega, by rw [hl]; decide, by rw [hl]; decide⟩
theorem q49 {w : Int} (hl : w % 128 = 47) (hm : w / 4096 % 8 = 2) (hu : w / 33554432 / 4 = 0) : Q w 49 := fun _ =>
 ⟨by rw [frm49, tbits49]; show w % 128 + w / 4096 % 8 * 4096 + w / 134217728 * 134217728 = 8239; omega, by omega, by omega, by rw [hl]; decide, by rw [hl]; decide⟩
theorem q50 {w : Int} (hl : w % 128 = 47) (hm : w / 4096 % 8 = 2) (hu : w / 33554432 / 4 = 4) : Q w 50 := fun _ =>
 ⟨by rw [frm50, tbits50]; show w % 128 + w / 4096 % 8 * 4096 + w / 134217728 * 134217728 = 536879151; omega, by omega, by omega, by rw [hl]; decide, by rw [hl]; decide⟩
theorem q51 {w : Int} (hl : w % 128 = 47) (hm : w / 4096 % 8 = 2) (hu : w / 33554432 / 4 = 12) : Q w 51 := fun _ =>
 ⟨by rw [frm51, tbits51]; show w % 128 + w / 4096 % 8 * 4096 + w / 134217728 * 134217728 = 1610620975; omega, by omega, by omega, by rw [hl]; decide, by rw [hl]; decide⟩
theorem q52 {w : Int} (hl : w % 128 = 47) (hm : w / 4096 % 8 = 2) (hu : w / 33554432 / 4 = 8) : Q w 52 := fun _ =>
 ⟨by rw [frm52, tbits52]; show w % 128 + w / 4096 % 8 * 4096 + w / 134217728 * 134217728 = 1073750063; omega, by omega, by omega, by rw [hl]; decide, by rw [hl]; decide⟩
theorem q53 {w : Int} (hl : w % 128 = 47) (hm : w / 4096 % 8 = 2) (hu : w / 33554432 / 4 = 16) : Q w 53 := fun _ =>
 ⟨by rw [frm53, tbits53]; show w % 128 + w / 4096 % 8 * 4096 + w / 134217728 * 134217728 = 2147491887; omega, by omega, by omega, by rw [hl]; decide, by rw [hl]; decide⟩
theorem q54 {w : Int} (hl : w % 128 = 47) (hm : w / 4096 % 8 = 2) (hu : w / 33554432 / 4 = 20) : Q w 54 := fun _ =>
 ⟨by rw [frm54, tbits54]; show w % 128 + w / 4096 % 8 * 4096 + w / 134217728 * 134217728 = 2684362799; omega, by omega, by omega, by rw [hl]; decide, by rw [hl]; decide⟩
theorem q55 {w : Int} (hl : w % 128 = 47) (hm : w / 4096 % 8 = 2) (hu : w / 33554432 / 4 = 24) : Q w 55 := fun _ =>
 ⟨by rw [frm55, tbits55]; show w % 128 + w / 4096 % 8 * 4096 + w / 134217728 * 134217728 = 3221233711; omega, by omega, by omega, by rw [hl]; decide, by rw [hl]; decide⟩
theorem q56 {w : Int} (hl : w % 128 = 47) (hm : w / 4096 % 8 = 2) (hu : w / 33554432 / 4 = 28) : Q w 56 := fun _ =>
 ⟨by rw [frm56, tbits56]; show w % 128 + w / 4096 % 8 * 4096 + w / 134217728 * 134217728 = 3758104623; omega, by omega, by omega, by rw [hl]; decide, by rw [hl]; decide⟩
theorem q57 {w : Int} (hl : w % 128 = 15) (hm : w / 4096 % 8 = 0) : Q w 57 := fun _ =>
 ⟨by rw [frm57, tbits57]; show w % 128 + w / 4096 % 8 * 4096 = 15; omega, by omega, by omega, by rw [hl]; decide, by rw [hl]; decide⟩
theorem q58 {w : Int} (h : w = 115) : Q w 58 := by
 subst h; intro _; decide
theorem q59 {w : Int} (h : w = 1048691) : Q w 59 := by
 subst h; intro _; decide
theorem raw_told {w : Int} (h0 : 0 ≤ w) (h1 : w < 4294967296) : Q w (raw w) := by
 unfold raw rawOf
 by_cases hl : w % 128 = 55
 ·rw [if_pos hl]
  exact q1 hl
 rw [if_neg hl]; clear hl
 by_cases hl : w % 128 = 23
 ·rw [if_pos hl]
  exact q2 hl
 rw [if_neg hl]; clear hl
 by_cases hl : w % 128 = 111
 ·rw [if_pos hl]
  exact q3 hl
 rw [if_neg hl]; clear hl
 by_cases hl : w % 128 = 103
 ·rw [if_pos hl]
  refine pk_cases [(0, 4)] (Q0 w) fun x hx hn => ?_
  simp only [List.mem_cons, List.not_mem_nil, or_false] at hx
  subst hx
  exact q4 hl hn
 rw [if_neg hl]; clear hl
 by_cases hl : w % 128 = 99
 ·rw [if_pos hl]
  refine pk_cases lB (Q0 w) fun x hx hn => ?_
  simp only [lB, List.mem_cons, List.not_mem_nil, or_false] at hx
  rcases hx with rfl | rfl | rfl | rfl | rfl | rfl
  ·exact q5 hl hn
  ·exact q6 hl hn
  ·exact q7 hl hn
  ·exact q8 hl hn
  ·exact q9 hl hn
  ·exact q10 hl hn
 rw [if_neg hl]; clear hl
 by_cases hl : w % 128 = 3
 ·rw [if_pos hl]
  refine pk_cases lL (Q0 w) fun x hx hn => ?_
  simp only [lL, List.mem_cons, List.not_mem_nil, or_false] at hx
  rcases hx with rfl | rfl | rfl | rfl | rfl
  ·exact q11 hl hn
  ·exact q12 hl hn
  ·exact q13 hl hn
  ·exact q14 hl hn
  ·exact q15 hl hn
 rw [if_neg hl]; clear hl
 by_cases hl : w % 128 = 35
 ·rw [if_pos hl]
  refine pk_cases lS (Q0 w) fun x hx hn => ?_
  simp only [lS, List.mem_cons, List.not_mem_nil, or_false] at hx
  rcases hx with rfl | rfl | rfl
  ·exact q16 hl hn
  ·exact q17 hl hn
  ·exact q18 hl hn
 rw [if_neg hl]; clear hl
 by_cases hl : w % 128 = 19
 ·rw [if_pos hl]
  by_cases hm : w / 4096 % 8 = 1 ∨ w / 4096 % 8 = 5
  ·rw [if_pos hm]
   refine pk_cases lH (Q0 w) fun x hx hn => ?_
   simp only [lH, List.mem_cons, List.not_mem_nil, or_false] at hx
   rcases hx with rfl | rfl | rfl
   ·exact q25 hl (by simp only at hn; omega) (by simp only at hn; omega)
   ·exact q26 hl (by simp only at hn; omega) (by simp only at hn; omega)
   ·exact q27 hl (by simp only at hn; omega) (by simp only at hn; omega)
  ·rw [if_neg hm]
   refine pk_cases lI (Q0 w) fun x hx hn => ?_
   simp only [lI, List.mem_cons, List.not_mem_nil, or_false] at hx
   rcases hx with rfl | rfl | rfl | rfl | rfl | rfl
   ·exact q19 hl hn
   ·exact q20 hl hn
   ·exact q21 hl hn
   ·exact q22 hl hn
   ·exact q23 hl hn
   ·exact q24 hl hn
 rw [if_neg hl]; clear hl
 by_cases hl : w % 128 = 51
 ·rw [if_pos hl]
  by_cases hu : w / 33554432 = 0
  ·rw [if_pos hu]
   refine pk_cases lR0 (Q0 w) fun x hx hn => ?_
   simp only [lR0, List.mem_cons, List.not_mem_nil, or_false] at hx
   rcases hx with rfl | rfl | rfl | rfl | rfl | rfl | rfl | rfl
   ·exact q28 hl hn hu
   ·exact q30 hl hn hu
   ·exact q31 hl hn hu
   ·exact q32 hl hn hu
   ·exact q33 hl hn hu
   ·exact q34 hl hn hu
   ·exact q36 hl hn hu
   ·exact q37 hl hn hu
  rw [if_neg hu]; clear hu
  by_cases hu : w / 33554432 = 32
  ·rw [if_pos hu]
   refine pk_cases lR32 (Q0 w) fun x hx hn => ?_
   simp only [lR32, List.mem_cons, List.not_mem_nil, or_false] at hx
   rcases hx with rfl | rfl
   ·exact q29 hl hn hu
   ·exact q35 hl hn hu
  rw [if_neg hu]; clear hu
  by_cases hu : w / 33554432 = 1
  ·rw [if_pos hu]
   refine pk_cases lR1 (Q0 w) fun x hx hn => ?_
   simp only [lR1, List.mem_cons, List.not_mem_nil, or_false] at hx
   rcases hx with rfl | rfl | rfl | rfl | rfl | rfl | rfl | rfl
   ·exact q38 hl hn hu
   ·exact q39 hl hn hu
   ·exact q40 hl hn hu
   ·exact q41 hl hn hu
   ·exact q42 hl hn hu
   ·exact q43 hl hn hu
   ·exact q44 hl hn hu
   ·exact q45 hl hn hu
  rw [if_neg hu]; clear hu
  exact Q0 w
 rw [if_neg hl]; clear hl
 by_cases hl : w % 128 = 47
 ·rw [if_pos hl]
  by_cases hm : w / 4096 % 8 = 2
  ·rw [if_pos hm]
   refine pk_cases lA (Q0 w) fun x hx hn => ?_
   simp only [lA, List.mem_cons, List.not_mem_nil, or_false] at hx
   rcases hx with rfl | rfl | rfl | rfl | rfl | rfl | rfl | rfl | rfl | rfl | rfl
   ·exact q46 hl hm hn
   ·exact q47 hl hm hn
   ·exact q48 hl hm hn
   ·exact q49 hl hm hn
   ·exact q50 hl hm hn
   ·exact q51 hl hm hn
   ·exact q52 hl hm hn
   ·exact q53 hl hm hn
   ·exact q54 hl hm hn
   ·exact q55 hl hm hn
   ·exact q56 hl hm hn
  rw [if_neg hm]; exact Q0 w
 rw [if_neg hl]; clear hl
 by_cases hl : w % 128 = 15
 ·rw [if_pos hl]
  refine pk_cases [(0, 57)] (Q0 w) fun x hx hn => ?_
  simp only [List.mem_cons, List.not_mem_nil, or_false] at hx
  subst hx
  exact q57 hl hn
 rw [if_neg hl]; clear hl
 by_cases hl : w % 128 = 115
 ·rw [if_pos hl]
  refine pk_cases lE (Q0 w) fun x hx hn => ?_
  simp only [lE, List.mem_cons, List.not_mem_nil, or_false] at hx
  rcases hx with rfl | rfl
  ·exact q58 hn
  ·exact q59 hn
 rw [if_neg hl]; clear hl
 exact Q0 w
theorem told_iff {w k : Int} (h0 : 0 ≤ w) (h1 : w < 4294967296) (hk : 1 ≤ k) (hk' : k ≤ 59) : band w (mask (frm k)) = tbits k ↔ raw w = k := by
 rw [band_part h0 h1]
 refine ⟨told_raw h0 h1 hk hk', fun h => ?_⟩
 have := (raw_told h0 h1 (by omega)).1
 rwa [h] at this
theorem raw_bd {w : Int} (h0 : 0 ≤ w) (h1 : w < 4294967296) : 0 ≤ raw w ∧ raw w ≤ 59 := by
 by_cases h : raw w = 0
 ·omega
 ·have := raw_told h0 h1 h; omega
end Go.Proofs.YtchllaeembmioaaGreatDoor.Dc
