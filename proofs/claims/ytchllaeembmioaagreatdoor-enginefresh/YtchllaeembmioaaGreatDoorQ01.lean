/-
  Mem, To, Kp, Kr1, Kr2, Hv, Word: texts of ours that lie in one file.
-/
import Derived.Test.YtchllaeembmioaaGreatDoorRows
import Derived.WalkKit
import Derived.ProofKit
import Derived.OpenShut
import Derived.RowKit3
import Derived.Laws.CopyOwn
import Derived.Laws.IdiomStrings
import Derived.Deep.QuietTactic
import Derived.BigQuiet
import Derived.SizedLaws
import Derived.Deep.Slices
import Derived.Deep.MidRow
import Derived.Deep.WholeRow
set_option linter.unusedVariables false
set_option linter.unusedSimpArgs false
set_option maxHeartbeats 8000000
set_option maxRecDepth 100000
namespace Go.Proofs.YtchllaeembmioaaGreatDoor.Mm
open Go.ChangeShapes Go.WideShapes Go.ChangeAt Go.RowKit

def bv (l : List UInt8) (i : Nat) : Int := ((l.getD i 0).toNat : Int)
theorem bv_bd (l : List UInt8) (i : Nat) : 0 ≤ bv l i ∧ bv l i ≤ 255 := by
 unfold bv; have := (l.getD i 0).toNat_lt; omega
theorem bv_of {l : List UInt8} {i : Nat} (h : i < l.length) : (l[i].toNat : Int) = bv l i := by
 unfold bv; simp [List.getD, h]
def lsz (op : Int) : Nat := if op = 11 ∨ op = 14 then 1 else if op = 12 ∨ op = 15 then 2 else if op = 13 then 4 else 0
def ssz (op : Int) : Nat := if op = 16 then 1 else if op = 17 then 2 else if op = 18 then 4 else 0
def thr (m n : Nat) (a : Int) : Bool := decide (0 < n ∧ a % (n : Int) = 0 ∧ a + n ≤ m)
def raw (l : List UInt8) (a : Nat) : Nat → Int
 | 0 => 0
 | n + 1 => raw l a n + bv l (a + n) * 256 ^ n
def wide (op x : Int) : Int := if op = 11 then (if x < 128 then x else x + 4294967040) else if op = 12 then (if x < 32768 then x else x + 4294901760) else x
def ldOk (l : List UInt8) (op a : Int) : Bool := thr l.length (lsz op) a
def ldV (l : List UInt8) (op a : Int) : Int := if ldOk l op a = true then wide op (raw l a.toNat (lsz op)) else 0
def put (l : List UInt8) (a : Nat) (w : Int) : Nat → List UInt8
 | 0 => l
 | n + 1 => (put l a w n).set (a + n) (UInt8.ofNat (w / 256 ^ n % 256).toNat)
def stOk (l : List UInt8) (op a : Int) : Bool := thr l.length (ssz op) a
def stL (l : List UInt8) (op a w : Int) : List UInt8 := if stOk l op a = true then put l a.toNat w (ssz op) else []

theorem lsz_le (op : Int) : lsz op ≤ 4 := by unfold lsz; split <;> (try split) <;> (try split) <;> omega
theorem ssz_le (op : Int) : ssz op ≤ 4 := by unfold ssz; split <;> (try split) <;> (try split) <;> omega
theorem len_put (l : List UInt8) (a : Nat) (w : Int) : ∀ n, (put l a w n).length = l.length
 | 0 => rfl
 | n + 1 => by simp [put, len_put l a w n]
theorem bv_put (l : List UInt8) (a : Nat) (w : Int) : ∀ n i, i < l.length → bv (put l a w n) i = if a ≤ i ∧ i < a + n then w / 256 ^ (i - a) % 256 else bv l i
 | 0, i, hi => by rw [if_neg (by omega)]; rfl
 | n + 1, i, hi => by
  have ih := bv_put l a w n i hi
  unfold bv at ih ⊢
  unfold put
  by_cases h : i = a + n
  ·subst h
   rw [if_pos (by omega)]
   simp only [List.getD, List.getElem?_set, len_put]
   simp only [hi, if_true, Option.getD_some]
   have hm : (0 : Int) ≤ w / 256 ^ n % 256 ∧ w / 256 ^ n % 256 < 256 := by omega
   rw [UInt8.toNat_ofNat', Nat.add_sub_cancel_left]
   omega
  ·simp only [List.getD, List.getElem?_set] at ih ⊢
   rw [if_neg (by omega), ih]
   by_cases h2 : a ≤ i ∧ i < a + n
   ·rw [if_pos h2, if_pos (by omega)]
   ·rw [if_neg h2, if_neg (by omega)]
theorem raw_bd (l : List UInt8) (a : Nat) : ∀ n, 0 ≤ raw l a n ∧ raw l a n < 256 ^ n
 | 0 => by simp [raw]
 | n + 1 => by
  have h := raw_bd l a n
  have hb := bv_bd l (a + n)
  have hp : (0 : Int) < 256 ^ n := Int.pow_pos (by omega)
  have h1 : bv l (a + n) * 256 ^ n ≤ 255 * 256 ^ n := Int.mul_le_mul_of_nonneg_right hb.2 (by omega)
  have h0 : 0 ≤ bv l (a + n) * 256 ^ n := Int.mul_nonneg hb.1 (by omega)
  unfold raw
  rw [Int.pow_succ]
  omega

def Gr (w w' : World) : Prop := Below w.heap.size w w'
theorem Gr.refl (w : World) : Gr w w := Below.refl _ _
theorem Gr.size {w w' : World} (h : Gr w w') : w.heap.size ≤ w'.heap.size := Below.size h
theorem Gr.trans {a b c : World} (h : Gr a b) (k : Gr b c) : Gr a c := Below.trans h (Below.mono k h.size)
theorem Gr.alloc {a w : World} (h : Gr a w) (o : Obj) : Gr a (w.alloc o) := Below.alloc h h.size _
theorem Gr.setCell {a w : World} (h : Gr a w) {p : Addr} (hp : a.heap.size ≤ p.block) (v : Value) : Gr a (w.setCell p v) := Below.setCell h hp v
theorem Gr.drewN {a w : World} (h : Gr a w) (n : Nat) : Gr a (w.drewN n) := Below.trans h ⟨rfl, rfl, rfl, Nat.le_refl _, fun _ _ => rfl⟩
theorem Gr.grown {a w w' : World} {row : Option Nat} (h : Gr a w) (g : w.grownBy w' row) (hr : ∀ k, row = some k → a.heap.size ≤ k) : Gr a w' := Below.grown h g h.size hr
theorem Gr.cell {w w' : World} (h : Gr w w') (p : Addr) (hb : p.block < w.heap.size) : w'.cell? p = w.cell? p := Below.cell h hb

theorem add_at (b o t : Nat) : (⟨b, o, none⟩ : Addr).add t = ⟨b, o + t, none⟩ := by unfold Addr.add; split <;> simp_all
structure Mem (w : World) (ao : Option Addr) (n : Nat) (l : List UInt8) : Prop where
 len : l.length = n
 nil : ao = none → n = 0
 cell : ∀ ad, ao = some ad → ∀ t, t < n → w.cell? (ad.add t) = some (.int .u8 (bv l t))
theorem Mem.of {w w' : World} {ao : Option Addr} {n : Nat} {l : List UInt8} (h : Mem w ao n l) (g : Gr w w') : Mem w' ao n l :=
 ⟨h.len, h.nil, fun ad e t ht => (g.cell _ (World.block_lt_of_cell? w _ (h.cell ad e t ht))).trans (h.cell ad e t ht)⟩
theorem Mem.spot {w : World} {ao : Option Addr} {n : Nat} {l : List UInt8} (h : Mem w ao n l) (hn : 0 < n) :
  ∃ b o, ao = some ⟨b, o, none⟩ ∧ b < w.heap.size ∧ ∀ t, t < n → w.cell? ⟨b, o + t, none⟩ = some (.int .u8 (bv l t)) := by
 cases ao with
 | none => exact absurd (h.nil rfl) (by omega)
 | some ad =>
  obtain ⟨b, o, s⟩ := ad
  have hs : s = none := by simpa [Addr.add] using World.cell?_spot (h.cell _ rfl 0 hn)
  subst hs
  have hb : b < w.heap.size := by simpa [Addr.add] using World.block_lt_of_cell? w _ (h.cell _ rfl 0 hn)
  exact ⟨b, o, rfl, hb, fun t ht => by rw [← add_at]; exact h.cell _ rfl t ht⟩
theorem Mem.at {w : World} {b o n : Nat} {l : List UInt8} (hl : l.length = n) (h : ∀ t, t < n → w.cell? ⟨b, o + t, none⟩ = some (.int .u8 (bv l t))) : Mem w (some ⟨b, o, none⟩) n l :=
 ⟨hl, fun e => (by cases e), fun ad e t ht => by obtain rfl := Option.some.inj e; rw [add_at]; exact h t ht⟩
theorem Mem.none (w : World) : Mem w none 0 [] := ⟨rfl, fun _ => rfl, fun ad e => (by cases e)⟩

def bc (l : List UInt8) : List Value := l.map fun b => Value.int .u8 (b.toNat : Int)
theorem bc_get {l : List UInt8} {j : Nat} {u : Value} (h : (bc l)[j]? = some u) : j < l.length ∧ u = .int .u8 (bv l j) := by
 unfold bc at h
 rw [List.getElem?_map] at h
 cases hj : l[j]? with
 | none => simp [hj] at h
 | some b =>
  rw [hj] at h
  obtain ⟨hlt, hb⟩ := List.getElem?_eq_some_iff.1 hj
  refine ⟨hlt, ?_⟩
  rw [← bv_of hlt, hb]
  simpa using h.symm
theorem bc_one (l : List UInt8) : ∀ u ∈ bc l, u.oneCell' = true := by
 intro u hu
 obtain ⟨b, _, rfl⟩ := List.mem_map.1 hu
 rfl
def Row (w : World) (g : Nat) (l : List UInt8) : Prop := ∃ rest : List Value, w.heap[g]? = some (.cells (bc l ++ rest).toArray 5 (0, 0))
theorem Row.cell {w : World} {g : Nat} {l : List UInt8} (h : Row w g l) {t : Nat} (ht : t < l.length) : w.cell? ⟨g, t, none⟩ = some (.int .u8 (bv l t)) := by
 obtain ⟨rest, hg⟩ := h
 rw [cell_of_row w g t _ _ (0, 0) hg]
 have h1 : t < (bc l).length := by simpa [bc] using ht
 rw [List.getElem?_toArray, List.getElem?_append_left h1]
 have h2 := List.getElem?_eq_getElem h1
 rw [h2, (bc_get h2).2]
theorem Row.frozen {w : World} {g : Nat} {l : List UInt8} (h : Row w g l) (t : Nat) : w.frozen? ⟨g, t, none⟩ = false := by
 obtain ⟨rest, hg⟩ := h
 simp [World.frozen?, hg]
theorem Row.set {w : World} {g : Nat} {l : List UInt8} (h : Row w g l) {t : Nat} (ht : t < l.length) (v : Int) (h0 : 0 ≤ v) (h1 : v < 256) :
  Row (w.setCell ⟨g, t, none⟩ (.int .u8 v)) g (l.set t (UInt8.ofNat v.toNat)) := by
 obtain ⟨rest, hg⟩ := h
 refine ⟨rest, ?_⟩
 rw [heap_setCell_same w g t _ _ _ hg]
 have h2 : t < (bc l).length := by simpa [bc] using ht
 have e : (UInt8.ofNat v.toNat).toNat = v.toNat := by rw [UInt8.toNat_ofNat']; omega
 have e2 : (((UInt8.ofNat v.toNat).toNat : Nat) : Int) = v := by rw [e]; omega
 have e3 : bc (l.set t (UInt8.ofNat v.toNat)) = (bc l).set t (.int .u8 v) := by
  unfold bc; rw [List.map_set]; simp only [e2]
 rw [e3]
 simp [List.set_append_left _ _ h2]
theorem Row.mem {w : World} {g : Nat} {l : List UInt8} (h : Row w g l) : Mem w (some ⟨g, 0, none⟩) l.length l :=
 Mem.at rfl fun t ht => by rw [Nat.zero_add]; exact h.cell ht
theorem info5 : (Tryz.prog.info? 5).map (fun i => (i.zero, i.size, i.bytes)) = some (some (.int .u8 0), 1, 1) := by kernel_rfl

theorem ret_int {k : IntKind} {a b : Int} (h : a = b) : Ending.returned (.int k a) = .returned (.int k b) := by rw [h]
theorem ret_bool {a b : Bool} (h : a = b) : Ending.returned (.bool a) = .returned (.bool b) := by rw [h]
theorem thr_t {m n : Nat} {a : Int} (h0 : 0 < n) (h1 : a % (n : Int) = 0) (h2 : a + n ≤ m) : true = thr m n a := by simp [thr, h0, h1, h2]
theorem thr_f {m n : Nat} {a : Int} (h : ¬ (0 < n ∧ a % (n : Int) = 0 ∧ a + n ≤ m)) : false = thr m n a := by simp only [thr]; rw [decide_eq_false h]
theorem wrap_i8 (x : Int) (h0 : 0 ≤ x) (h1 : x < 256) : IntKind.i8.wrap x % 4294967296 = if x < 128 then x else x + 4294967040 := by
 have e : IntKind.i8.wrap x = if 128 ≤ x % 256 then x % 256 - 256 else x % 256 := by simp [IntKind.wrap, IntKind.bits, IntKind.signed]
 rw [e]
 repeat' split
 all_goals omega
theorem wrap_i16 (x : Int) (h0 : 0 ≤ x) (h1 : x < 65536) : IntKind.i16.wrap x % 4294967296 = if x < 32768 then x else x + 4294901760 := by
 have e : IntKind.i16.wrap x = if 32768 ≤ x % 65536 then x % 65536 - 65536 else x % 65536 := by simp [IntKind.wrap, IntKind.bits, IntKind.signed]
 rw [e]
 repeat' split
 all_goals omega
theorem ofInt32 (a : Nat) (h : (a : Int) < 4294967296) : (BitVec.ofInt 32 (a : Int)).toNat = a := by
 rw [BitVec.toNat_ofInt]; omega
theorem or_byte (x y : Int) (k : Nat) (hk : k < 4) (h0 : 0 ≤ x) (h1 : x < 256 ^ k) (hy : 0 ≤ y) (hy' : y ≤ 255) : bits .or .u32 x (y * 2 ^ (8 * k) % 4294967296) = x + y * 256 ^ k := by
 obtain ⟨x, rfl⟩ := Int.eq_ofNat_of_zero_le h0
 obtain ⟨y, rfl⟩ := Int.eq_ofNat_of_zero_le hy
 have e1 : (256 : Int) ^ k = ((2 ^ (8 * k) : Nat) : Int) := by
  rw [Nat.pow_mul]; simp
 have hx : x < 2 ^ (8 * k) := by rw [e1] at h1; exact_mod_cast h1
 have hp : 2 ^ (8 * k) * 256 ≤ 4294967296 := by
  have : 2 ^ (8 * k) ≤ 2 ^ (8 * 3) := Nat.pow_le_pow_right (by omega) (by omega)
  omega
 have hpp : 0 < 2 ^ (8 * k) := Nat.two_pow_pos _
 have hyb : y * 2 ^ (8 * k) ≤ 255 * 2 ^ (8 * k) := Nat.mul_le_mul_right _ (by omega)
 have hor : 2 ^ (8 * k) * y + x = 2 ^ (8 * k) * y ||| x := Nat.two_pow_add_eq_or_of_lt hx y
 have e2 : ((y : Int) * 2 ^ (8 * k) % 4294967296) = ((y * 2 ^ (8 * k) : Nat) : Int) := by
  have : ((y : Int) * 2 ^ (8 * k)) = ((y * 2 ^ (8 * k) : Nat) : Int) := by simp
  rw [this]; omega
 rw [e2, e1]
 show IntKind.u32.wrap ((BitVec.ofInt 32 (x : Int) ||| BitVec.ofInt 32 ((y * 2 ^ (8 * k) : Nat) : Int)).toNat : Int) = _
 rw [BitVec.toNat_or, ofInt32 x (by omega), ofInt32 _ (by omega), Nat.or_comm, Nat.mul_comm y, ← hor]
 show (((2 ^ (8 * k) * y + x : Nat) : Int)) % 4294967296 = _
 rw [Nat.mul_comm] at hyb
 rw [show ((y : Int) * ((2 ^ (8 * k) : Nat) : Int)) = ((2 ^ (8 * k) * y : Nat) : Int) by push_cast; rw [Int.mul_comm]]
 generalize 2 ^ (8 * k) * y = z at *
 generalize 2 ^ (8 * k) = p at *
 omega
theorem lsz_room {op : Int} {a : Nat} (h : (a : Int) % (lsz op : Nat) = 0) (ha : a < 4294967296) (h0 : 0 < lsz op) : a + lsz op ≤ 4294967296 := by
 have : lsz op = 1 ∨ lsz op = 2 ∨ lsz op = 4 := by
  have hh : lsz op ≠ 0 := by omega
  clear h h0
  unfold lsz at hh ⊢
  repeat' split
  all_goals simp_all
 rcases this with e | e | e <;> rw [e] at h ⊢ <;> omega
theorem raw_cap (l : List UInt8) (a : Nat) (op : Int) : raw l a (lsz op) < 4294967296 ∧ (op = 11 → raw l a (lsz op) < 256) ∧ (op = 12 → raw l a (lsz op) < 65536) := by
 have h := (raw_bd l a (lsz op)).2
 have q : 256 ^ lsz op ≤ 256 ^ 4 := Nat.pow_le_pow_right (show 0 < 256 by omega) (lsz_le op)
 have p : (256 : Int) ^ lsz op ≤ 4294967296 := by
  rw [show (256 : Int) ^ lsz op = ((256 ^ lsz op : Nat) : Int) by simp]
  omega
 refine ⟨by omega, fun e => ?_, fun e => ?_⟩
 ·subst e; exact h
 ·subst e; exact h
theorem thr_pos {n s : Nat} {a : Int} (h : thr n s a = true) (h0 : 0 ≤ a) : 0 < n := by
 simp only [thr, decide_eq_true_eq] at h
 omega
theorem ssz_room {op : Int} {a : Nat} (h : (a : Int) % (ssz op : Nat) = 0) (ha : a < 4294967296) (h0 : 0 < ssz op) : a + ssz op ≤ 4294967296 := by
 have : ssz op = 1 ∨ ssz op = 2 ∨ ssz op = 4 := by
  have hh : ssz op ≠ 0 := by omega
  clear h h0
  unfold ssz at hh ⊢
  repeat' split
  all_goals simp_all
 rcases this with e | e | e <;> rw [e] at h ⊢ <;> omega
theorem made_row {w w0 : World} {n : Nat} {xs : List Value} (h : w0.ownsRow w.heap.size 5 1 (.slice (some ⟨w.heap.size, 0, none⟩) n n) n xs) :
  ∃ cur : List Value, cur.length = n ∧ w0.heap[w.heap.size]? = some (.cells cur.toArray 5 (0, 0)) := by
 obtain ⟨_, hc⟩ := h
 rcases hc with ⟨h0, _⟩ | ⟨g', cap', cur, hv, hb, hg, hn, hm, hs, htake⟩
 ·cases h0
 ·simp only [Value.slice.injEq, Option.some.injEq, Addr.mk.injEq, true_and, and_true] at hv
  obtain ⟨e, rfl⟩ := hv
  rw [← e] at hg
  exact ⟨cur.toList, by simpa using hs, by simpa using hg⟩
theorem splice_all {cur cs : List Value} (h : cs.length = cur.length) : splice cur 0 cs = cs := by
 simp [splice, h]
theorem bc_len (l : List UInt8) : (bc l).length = l.length := by simp [bc]
theorem bc_src {w : World} {b o n : Nat} {l : List UInt8} (hl : l.length = n) (hc : ∀ t, t < n → w.cell? ⟨b, o + t, none⟩ = some (.int .u8 (bv l t))) : ∀ j v, (bc l)[j]? = some v → w.cell? ((⟨b, o, none⟩ : Addr).add j) = some v := by
 intro j v h
 obtain ⟨h1, rfl⟩ := bc_get h
 rw [add_at]
 exact hc j (by omega)
theorem size1 : (Tryz.prog.info? 5).map (·.size) = some 1 := by kernel_rfl
theorem byte_eq (x : Int) (k : Nat) (h0 : 0 ≤ x) : x / 2 ^ (8 * k) % 256 = x / 256 ^ k % 256 := by
 rw [show (256 : Int) ^ k = 2 ^ (8 * k) by rw [Int.pow_mul]; rfl]
end Go.Proofs.YtchllaeembmioaaGreatDoor.Mm
namespace Go.Proofs.YtchllaeembmioaaGreatDoor.Ts
open Go.ChangeShapes Go.WideShapes Go.ChangeAt Go.RowKit Mm

structure Iv where
 op : Int
 rd : Int
 r1 : Int
 r2 : Int
 im : Int
def ivL (i : Iv) : List Value := [.int .i64 i.op, .int .i64 i.rd, .int .i64 i.r1, .int .i64 i.r2, .int .i32 i.im]
def I64 (n : Int) : Prop := -9223372036854775808 ≤ n ∧ n ≤ 9223372036854775807
structure Iv.Ok (i : Iv) : Prop where
 op : I64 i.op
 rd : I64 i.rd
 r1 : I64 i.r1
 r2 : I64 i.r2
 im : -2147483648 ≤ i.im ∧ i.im ≤ 2147483647
structure Is (w : World) (ao : Option Addr) (n : Nat) (is : List Iv) : Prop where
 len : is.length = n
 ok : ∀ i ∈ is, i.Ok
 spot : 0 < n → ∃ b o, ao = some ⟨b, o, none⟩ ∧ b < w.heap.size ∧ ∀ j i, is[j]? = some i → w.cell? ⟨b, o + j * 5, none⟩ = some (.int .i64 i.op) ∧ w.cell? ⟨b, o + j * 5 + 1, none⟩ = some (.int .i64 i.rd) ∧ w.cell? ⟨b, o + j * 5 + 2, none⟩ = some (.int .i64 i.r1) ∧ w.cell? ⟨b, o + j * 5 + 3, none⟩ = some (.int .i64 i.r2) ∧ w.cell? ⟨b, o + j * 5 + 4, none⟩ = some (.int .i32 i.im)
theorem Is.of {w w' : World} {ao : Option Addr} {n : Nat} {is : List Iv} (h : Is w ao n is) (g : Gr w w') : Is w' ao n is :=
 ⟨h.len, h.ok, fun hn => by
  obtain ⟨b, o, e, hb, hc⟩ := h.spot hn
  refine ⟨b, o, e, Nat.lt_of_lt_of_le hb g.size, fun j i hj => ?_⟩
  obtain ⟨h0, h1, h2, h3, h4⟩ := hc j i hj
  exact ⟨(g.cell _ (by exact hb)).trans h0, (g.cell _ (by exact hb)).trans h1, (g.cell _ (by exact hb)).trans h2, (g.cell _ (by exact hb)).trans h3, (g.cell _ (by exact hb)).trans h4⟩⟩
end Go.Proofs.YtchllaeembmioaaGreatDoor.Ts
namespace Go.Proofs.YtchllaeembmioaaGreatDoor.Kc
open Go.ChangeShapes Go.WideShapes Go.ChangeAt Go.RowKit Mm Ts

structure Bv where
 pc : Int
 is : List Iv
def place (pc : Int) : List Bv → Nat → Int
 | [], _ => -1
 | b :: bs, k => if b.pc = pc then (k : Int) else place pc bs (k + 1)
def hasB (b : Bv) (f t : Int) : Bool := decide (max b.pc f < min (b.pc + 4 * (b.is.length : Int)) t)
def Bc (w : World) (b : Bv) (x y : Value) : Prop := x = .int .u32 b.pc ∧ (0 ≤ b.pc ∧ b.pc < 4294967296) ∧ ∃ sa sn sc, y = .slice sa sn sc ∧ Is w sa sn b.is ∧ sn * 40 ≤ 140737488351232
theorem Bc.of {w w' : World} {b : Bv} {x y : Value} (h : Bc w b x y) (G : Gr w w') : Bc w' b x y := by
 obtain ⟨e, p, sa, sn, sc, e2, I, hb⟩ := h
 exact ⟨e, p, sa, sn, sc, e2, I.of G, hb⟩
structure Bs (w : World) (ao : Option Addr) (n : Nat) (bs : List Bv) : Prop where
 len : bs.length = n
 spot : 0 < n → ∃ b o, ao = some ⟨b, o, none⟩ ∧ b < w.heap.size ∧ ∀ j x, bs[j]? = some x → ∃ u v, w.cell? ⟨b, o + j * 2, none⟩ = some u ∧ w.cell? ⟨b, o + j * 2 + 1, none⟩ = some v ∧ Bc w x u v
theorem Bs.of {w w' : World} {ao : Option Addr} {n : Nat} {bs : List Bv} (h : Bs w ao n bs) (g : Gr w w') : Bs w' ao n bs :=
 ⟨h.len, fun hn => by
  obtain ⟨b, o, e, hb, hc⟩ := h.spot hn
  refine ⟨b, o, e, Nat.lt_of_lt_of_le hb g.size, fun j i hj => ?_⟩
  obtain ⟨u, v, h0, h1, h2⟩ := hc j i hj
  exact ⟨u, v, (g.cell _ (by exact hb)).trans h0, (g.cell _ (by exact hb)).trans h1, h2.of g⟩⟩
theorem place_none {pc : Int} {bs : List Bv} {k : Nat} (h : ∀ (i : Nat) (x : Bv), bs[i]? = some x → ¬ x.pc = pc) : place pc bs k = -1 := by
 induction bs generalizing k with
 | nil => rfl
 | cons b r ih =>
  unfold place
  rw [if_neg (h 0 b rfl)]
  exact ih fun i x hx => h (i + 1) x (by simpa using hx)
theorem place_at {pc : Int} : ∀ {bs : List Bv} {j k : Nat} {x : Bv}, bs[j]? = some x → x.pc = pc → (∀ (i : Nat) (y : Bv), i < j → bs[i]? = some y → ¬ y.pc = pc) → place pc bs k = ((k + j : Nat) : Int)
 | [], j, k, x, h, _, _ => by simp at h
 | b :: r, 0, k, x, h, e, _ => by
  simp at h
  subst h
  unfold place
  rw [if_pos e, Nat.add_zero]
 | b :: r, j + 1, k, x, h, e, hn => by
  unfold place
  rw [if_neg (hn 0 b (by omega) rfl)]
  have := place_at (k := k + 1) (bs := r) (j := j) (by simpa using h) e fun i y hi hy => hn (i + 1) y (by omega) (by simpa using hy)
  rw [this]
  congr 1
  omega
end Go.Proofs.YtchllaeembmioaaGreatDoor.Kc
namespace Go.Proofs.YtchllaeembmioaaGreatDoor.Kc
open Go.ChangeShapes Go.WideShapes Go.ChangeAt Go.RowKit Mm Ts

theorem Place_any {w : World} {ao : Option Addr} {n : Nat} (cap : Nat) {bs : List Bv} (B : Bs w ao n bs) (hn : n ≤ 140737488351232) (pc : Int) :
  Calls Tryz.prog 13 #[.slice ao n cap, .int .u32 pc] w fun e w' => e = .returned (.int .i64 (place pc bs 0)) ∧ Gr w w' := by
 have HL : Hid (bs.length = n) := B.len
 have HB : Hid (Bs w ao n bs) := B
 clear B
 go_enter Tryz.func13, Tryz.ntmps13
 go_wp2_with fail
 go_loopw [5] (fun i wr => ∃ j : Nat, j ≤ n ∧ i = .int .i64 j ∧ (∀ (t : Nat) (x : Bv), t < j → bs[t]? = some x → ¬ x.pc = pc) ∧ Gr w wr) (fun i _ => n - (intOf i).toNat)
 case atStart => exact ⟨0, Nat.zero_le _, rfl, fun t x h => absurd h (by omega), Gr.refl _⟩
 case round =>
  obtain ⟨j, hj, rfl, hno, G⟩ := hrel
  have HNo : Hid (∀ (t : Nat) (x : Bv), t < j → bs[t]? = some x → ¬ x.pc = pc) := hno
  have HG : Hid (Gr w wr) := G
  clear hno G
  by_cases hlt : j < n
  ·obtain ⟨c, hc⟩ : ∃ c, bs[j]? = some c := ⟨_, List.getElem?_eq_getElem (by rw [HL.out]; exact hlt)⟩
   obtain ⟨b, o, rfl, hb, hcell⟩ := (HB.out.of HG.out).spot (by omega)
   obtain ⟨u, v, h0, h1, rfl, hpc, _⟩ := hcell j c hc
   by_cases e : c.pc = pc
   ·have HE : Hid (place pc bs 0 = (j : Int)) := by
     unfold Hid
     rw [place_at (k := 0) hc e HNo.out, Nat.zero_add]
    have be : (c.pc == pc) = true := by simp [e]
    generalize c.pc = x at *
    clear hcell hc HB HNo e
    go_wp2_with fail
    go_ret
    exact ⟨ret_int HE.out.symm, HG.out⟩
   ·have HNx : Hid (∀ (t : Nat) (x : Bv), t < j + 1 → bs[t]? = some x → ¬ x.pc = pc) := fun t x ht hx => by
     by_cases ej : t = j
     ·subst ej
      rw [hc] at hx
      injection hx with hx
      rw [← hx]
      exact e
     ·exact HNo.out t x (by omega) hx
    have be : (c.pc == pc) = false := by simp [e]
    generalize c.pc = x at *
    clear hcell hc HB HNo e
    go_wp2_with fail
    go_roundw
    case rel => exact ⟨j + 1, by omega, by go_num, HNx.out, HG.out⟩
    case measure => simp [intOf]; omega
  ·have ej : j = n := by omega
   have HE : Hid (place pc bs 0 = -1) := place_none fun t x hx => HNo.out t x (by have := (List.getElem?_eq_some_iff.1 hx).1; have := HL.out; omega) hx
   clear HB HNo ej
   go_wp2_with fail
   go_ret
   exact ⟨ret_int HE.out.symm, HG.out⟩
end Go.Proofs.YtchllaeembmioaaGreatDoor.Kc
namespace Go.Proofs.YtchllaeembmioaaGreatDoor.Kc
open Go.ChangeShapes Go.WideShapes Go.ChangeAt Go.RowKit Mm Ts

end Go.Proofs.YtchllaeembmioaaGreatDoor.Kc
namespace Go.Proofs.YtchllaeembmioaaGreatDoor.Hh
open Go.ChangeShapes Go.WideShapes Go.ChangeAt Go.RowKit Mm

structure Hv where
 regs : List Int
 pc : Int
 held : Bool
 heldAt : Int
 state : Int
 cause : Int
def hL (h : Hv) : List Value := h.regs.map (Value.int .u32) ++ [.int .u32 h.pc, .bool h.held, .int .u32 h.heldAt, .int .i64 h.state, .int .i64 h.cause]
def hA (h : Hv) : Array Value := (hL h).toArray
def rg (h : Hv) (i : Nat) : Int := h.regs.getD i 0
structure Hv.Ok (h : Hv) : Prop where
 len : h.regs.length = 32
 reg : ∀ i, 0 ≤ rg h i ∧ rg h i < 4294967296
 pc0 : 0 ≤ h.pc
 pc1 : h.pc < 4294967296
 at0 : 0 ≤ h.heldAt
 at1 : h.heldAt < 4294967296
def Hv.set (h : Hv) (r : Nat) (x : Int) : Hv := if r = 0 then h else { h with regs := h.regs.set r x }
def Hv.go (h : Hv) (x : Int) : Hv := { h with pc := x }
def Hv.trap (h : Hv) (c : Int) : Hv := { h with state := 2, cause := c }
def Hv.hold (h : Hv) (b : Bool) (x : Int) : Hv := { h with held := b, heldAt := x }
def Hv.halt (h : Hv) : Hv := { h with state := 1 }
theorem rg_set (h : Hv) (r : Nat) (x : Int) (i : Nat) : rg { h with regs := h.regs.set r x } i = if i = r ∧ r < h.regs.length then x else rg h i := by
 unfold rg
 simp only [List.getD, List.getElem?_set]
 by_cases e : r = i
 ·subst e
  by_cases l : r < h.regs.length
  ·simp [l]
  ·simp [l]
 ·have e2 : ¬ i = r := fun q => e q.symm
  simp [e, e2]
theorem Hv.Ok.set {h : Hv} (o : h.Ok) (r : Nat) {x : Int} (h0 : 0 ≤ x) (h1 : x < 4294967296) : (h.set r x).Ok := by
 unfold Hv.set
 split
 ·exact o
 ·refine ⟨by simp [o.len], fun i => ?_, o.pc0, o.pc1, o.at0, o.at1⟩
  rw [rg_set]
  split
  ·exact ⟨h0, h1⟩
  ·exact o.reg i
theorem Hv.Ok.go {h : Hv} (o : h.Ok) {x : Int} (h0 : 0 ≤ x) (h1 : x < 4294967296) : (h.go x).Ok := ⟨o.len, o.reg, h0, h1, o.at0, o.at1⟩
theorem Hv.Ok.trap {h : Hv} (o : h.Ok) (c : Int) : (h.trap c).Ok := ⟨o.len, o.reg, o.pc0, o.pc1, o.at0, o.at1⟩
theorem Hv.Ok.halt {h : Hv} (o : h.Ok) : h.halt.Ok := ⟨o.len, o.reg, o.pc0, o.pc1, o.at0, o.at1⟩
theorem Hv.Ok.hold {h : Hv} (o : h.Ok) (b : Bool) {x : Int} (h0 : 0 ≤ x) (h1 : x < 4294967296) : (h.hold b x).Ok := ⟨o.len, o.reg, o.pc0, o.pc1, h0, h1⟩
theorem hL_len {h : Hv} (o : h.Ok) : (hL h).length = 37 := by simp [hL, o.len]
theorem hA_size {h : Hv} (o : h.Ok) : (hA h).size = 37 := by simp [hA, hL_len o]
theorem hL_reg {h : Hv} (o : h.Ok) {i : Nat} (hi : i < 32) : (hL h)[i]? = some (.int .u32 (rg h i)) := by
 have := o.len
 unfold hL
 rw [List.getElem?_append_left (by simp; omega), List.getElem?_map, List.getElem?_eq_getElem (by omega)]
 simp [rg, List.getD, List.getElem?_eq_getElem (show i < h.regs.length by omega)]
theorem hL_fld {h : Hv} (o : h.Ok) (j : Nat) : (hL h)[32 + j]? = [Value.int .u32 h.pc, .bool h.held, .int .u32 h.heldAt, .int .i64 h.state, .int .i64 h.cause][j]? := by
 unfold hL
 rw [List.getElem?_append_right (by simp [o.len])]
 simp [o.len]
theorem set_reg {h : Hv} (o : h.Ok) {i : Nat} (hi : i < 32) (x : Int) : (hL h).set i (.int .u32 x) = hL { h with regs := h.regs.set i x } := by
 have := o.len
 unfold hL
 rw [List.set_append_left _ _ (by simp; omega), List.map_set]
theorem set_pc {h : Hv} (o : h.Ok) (x : Int) : (hL h).set 32 (.int .u32 x) = hL { h with pc := x } := by
 unfold hL; rw [List.set_append_right _ _ (by simp [o.len])]; simp [o.len]
theorem set_held {h : Hv} (o : h.Ok) (x : Bool) : (hL h).set 33 (.bool x) = hL { h with held := x } := by
 unfold hL; rw [List.set_append_right _ _ (by simp [o.len])]; simp [o.len]
theorem set_heldAt {h : Hv} (o : h.Ok) (x : Int) : (hL h).set 34 (.int .u32 x) = hL { h with heldAt := x } := by
 unfold hL; rw [List.set_append_right _ _ (by simp [o.len])]; simp [o.len]
theorem set_state {h : Hv} (o : h.Ok) (x : Int) : (hL h).set 35 (.int .i64 x) = hL { h with state := x } := by
 unfold hL; rw [List.set_append_right _ _ (by simp [o.len])]; simp [o.len]
theorem set_cause {h : Hv} (o : h.Ok) (x : Int) : (hL h).set 36 (.int .i64 x) = hL { h with cause := x } := by
 unfold hL; rw [List.set_append_right _ _ (by simp [o.len])]; simp [o.len]
theorem one_hA (h : Hv) : (hA h).all (·.oneCell') = true := by
 refine all_oneCell_toArray ?_
 intro v hv
 simp only [hL, List.mem_append, List.mem_map, List.mem_cons, List.not_mem_nil, or_false] at hv
 rcases hv with ⟨n, _, rfl⟩ | rfl | rfl | rfl | rfl | rfl <;> rfl
theorem gr_setRow {a w : World} (h : Gr a w) {g : Nat} (hg : a.heap.size ≤ g) (cs : Array Value) : Gr a (w.setRow g cs) := below_setRow h hg cs
end Go.Proofs.YtchllaeembmioaaGreatDoor.Hh
namespace Go.Proofs.YtchllaeembmioaaGreatDoor.Wd

def sg (a : Int) : Int := if a < 2147483648 then a else a - 4294967296
def band (a b : Int) : Int := ((a.toNat &&& b.toNat : Nat) : Int)
def bor (a b : Int) : Int := ((a.toNat ||| b.toNat : Nat) : Int)
def bxor (a b : Int) : Int := ((a.toNat ^^^ b.toNat : Nat) : Int)
def tr (b : Bool) : Int := if b then 1 else 0
def pw (b : Int) : Int := 2 ^ (b % 32).toNat
def lo (n : Int) : Int := n % 4294967296
def hi (n : Int) : Int := n / 4294967296 % 4294967296
def dv (a b : Int) : Int := if b = 0 then 4294967295 else lo ((sg a).tdiv (sg b))
def rm (a b : Int) : Int := if b = 0 then a else lo ((sg a).tmod (sg b))
def dvu (a b : Int) : Int := if b = 0 then 4294967295 else a / b
def rmu (a b : Int) : Int := if b = 0 then a else a % b

def alu (op a b : Int) : Int :=
 if op = 28 then lo (a + b) else if op = 29 then lo (a - b) else if op = 37 then band a b else if op = 36 then bor a b
 else if op = 33 then bxor a b else if op = 30 then lo (a * pw b) else if op = 34 then a / pw b else if op = 35 then lo (sg a / pw b)
 else if op = 31 then tr (decide (sg a < sg b)) else if op = 32 then tr (decide (a < b)) else if op = 38 then lo (a * b)
 else if op = 39 then hi (sg a * sg b) else if op = 40 then hi (sg a * b) else if op = 41 then hi (a * b)
 else if op = 42 then dv a b else if op = 44 then rm a b else if op = 43 then dvu a b else if op = 45 then rmu a b else 0

def holds (op a b : Int) : Bool :=
 if op = 5 then decide (a = b) else if op = 6 then decide (a ≠ b) else if op = 7 then decide (sg a < sg b) else if op = 8 then decide (sg b ≤ sg a)
 else if op = 9 then decide (a < b) else if op = 10 then decide (b ≤ a) else false

def amo (op a b : Int) : Int :=
 if op = 48 then b else if op = 49 then lo (a + b) else if op = 50 then bxor a b else if op = 51 then band a b else if op = 52 then bor a b
 else if op = 53 then (if sg a < sg b then a else b) else if op = 54 then (if sg a < sg b then b else a)
 else if op = 55 then (if a < b then a else b) else if op = 56 then (if a < b then b else a) else 0

theorem sg_bd {a : Int} (h0 : 0 ≤ a) (h1 : a < 4294967296) : -2147483648 ≤ sg a ∧ sg a < 2147483648 := by
 unfold sg; split <;> omega
theorem sg_lo {a : Int} (h0 : 0 ≤ a) (h1 : a < 4294967296) : lo (sg a) = a := by
 unfold sg lo; split <;> omega
theorem sg_zero {a : Int} (h0 : 0 ≤ a) (h1 : a < 4294967296) : sg a = 0 ↔ a = 0 := by
 unfold sg; split <;> omega
theorem lo_bd (n : Int) : 0 ≤ lo n ∧ lo n < 4294967296 := by unfold lo; omega
theorem pw_nat (b : Int) (h : 0 ≤ b) : pw b = ((2 ^ (b.toNat % 32) : Nat) : Int) := by
 unfold pw
 rw [show (b % 32).toNat = b.toNat % 32 by omega]
 simp
theorem pw_bd (b : Int) (h : 0 ≤ b) : 1 ≤ pw b ∧ pw b ≤ 2147483648 := by
 rw [pw_nat b h]
 have h1 : 2 ^ (b.toNat % 32) ≤ 2 ^ 31 := Nat.pow_le_pow_right (by omega) (by omega)
 have h2 : 0 < 2 ^ (b.toNat % 32) := Nat.two_pow_pos _
 omega
theorem mul_bd {x y : Int} (hx : -2147483648 ≤ x) (hx' : x ≤ 2147483648) (hy : -4294967296 < y) (hy' : y < 4294967296) : -9223372036854775808 ≤ x * y ∧ x * y ≤ 9223372036854775807 := by
 by_cases h : 0 ≤ x
 ·have a1 : x * y ≤ x * 4294967295 := Int.mul_le_mul_of_nonneg_left (by omega) h
  have a2 : x * (-4294967295) ≤ x * y := Int.mul_le_mul_of_nonneg_left (by omega) h
  omega
 ·have a1 : x * y ≤ x * (-4294967295) := Int.mul_le_mul_of_nonpos_left (by omega) (by omega)
  have a2 : x * 4294967295 ≤ x * y := Int.mul_le_mul_of_nonpos_left (by omega) (by omega)
  omega
theorem mulu_bd {x y : Int} (hx : 0 ≤ x) (hx' : x < 4294967296) (hy : 0 ≤ y) (hy' : y < 4294967296) : 0 ≤ x * y ∧ x * y ≤ 18446744065119617025 := by
 have a1 : x * y ≤ x * 4294967295 := Int.mul_le_mul_of_nonneg_left (by omega) hx
 have a2 : 0 ≤ x * y := Int.mul_nonneg hx hy
 omega
end Go.Proofs.YtchllaeembmioaaGreatDoor.Wd
