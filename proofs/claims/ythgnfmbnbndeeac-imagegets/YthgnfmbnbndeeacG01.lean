/-
  A0, Mem, Hv, Word, Dec, Hs: texts of ours that lie in one file.
-/
import Derived.Laws.Rows
import Derived.Laws.Tables
import Derived.Test.YthgnfmbnbndeeacRows
import Derived.WalkKit
import Derived.ProofKit
import Derived.OpenShut
import Derived.RowKit3
import Derived.Laws.CopyOwn
import Derived.Laws.IdiomStrings
import Derived.Deep.QuietTactic
import Derived.BigQuiet
import Derived.Deep.MidRow
import Derived.Deep.WholeRow
/-
  Laws of the library in short: a cell of a row that is written out, a row behind a store.
-/
namespace Go.Proofs.Ythgnfmbnbndeeac
set_option linter.unusedVariables false

variable {w : World} {g t : Nat} {fr : Nat × Nat} {a0 a1 a2 a3 a4 a5 a6 a7 : Value} {r : List Value}
theorem cr {w : World} {g j : Nat} {cs : Array Value} {t : TypeId} {fr : Nat × Nat} (h : w.heap[g]? = some (.cells cs t fr)) : w.cell? ⟨g, j, none⟩ = cs[j]? := cell_of_row _ _ _ _ _ _ h
theorem fzr {w : World} {g j : Nat} {cs : Array Value} {t : TypeId} (h : w.heap[g]? = some (.cells cs t (0, 0))) : w.frozen? ⟨g, j, none⟩ = false := frozen_of_row _ _ _ _ _ h
theorem hss {w : World} {g i : Nat} {cs : Array Value} {t : TypeId} {v : Value} (h : w.heap[g]? = some (.cells cs t (0, 0))) : (w.setCell ⟨g, i, none⟩ v).heap[g]? = some (.cells (cs.setIfInBounds i v) t (0, 0)) := heap_setCell_same _ _ _ _ _ _ h
theorem hso {w : World} {a : Addr} {k : Nat} {v : Value} (h : k ≠ a.block) : (w.setCell a v).heap[k]? = w.heap[k]? := heap_setCell_other _ _ _ _ h
theorem sro {w : World} {g k : Nat} {cs : Array Value} (h : k ≠ g) : (w.setRow g cs).heap[k]? = w.heap[k]? := setRow_other _ _ _ _ h
theorem srh {w : World} {g : Nat} {old cs : Array Value} {t : TypeId} (h : w.heap[g]? = some (.cells old t (0, 0))) : (w.setRow g cs).heap[g]? = some (.cells cs t (0, 0)) := setRow_heap _ _ _ _ _ (0, 0) h
theorem gs {α : Type} {a : Array α} {i : Nat} {x : α} (h : a[i]? = some x) : ∃ h, a[i] = x := Array.getElem?_eq_some_iff.1 h
theorem cr0 (h : w.heap[g]? = some (.cells (a0 :: r).toArray t fr)) : w.cell? ⟨g, 0, none⟩ = some a0 := (cr h).trans (by simp)
theorem cr1 (h : w.heap[g]? = some (.cells (a0 :: a1 :: r).toArray t fr)) : w.cell? ⟨g, 1, none⟩ = some a1 := (cr h).trans (by simp)
theorem cr2 (h : w.heap[g]? = some (.cells (a0 :: a1 :: a2 :: r).toArray t fr)) : w.cell? ⟨g, 2, none⟩ = some a2 := (cr h).trans (by simp)
theorem cr3 (h : w.heap[g]? = some (.cells (a0 :: a1 :: a2 :: a3 :: r).toArray t fr)) : w.cell? ⟨g, 3, none⟩ = some a3 := (cr h).trans (by simp)
theorem cr4 (h : w.heap[g]? = some (.cells (a0 :: a1 :: a2 :: a3 :: a4 :: r).toArray t fr)) : w.cell? ⟨g, 4, none⟩ = some a4 := (cr h).trans (by simp)
theorem cr5 (h : w.heap[g]? = some (.cells (a0 :: a1 :: a2 :: a3 :: a4 :: a5 :: r).toArray t fr)) : w.cell? ⟨g, 5, none⟩ = some a5 := (cr h).trans (by simp)
theorem cr6 (h : w.heap[g]? = some (.cells (a0 :: a1 :: a2 :: a3 :: a4 :: a5 :: a6 :: r).toArray t fr)) : w.cell? ⟨g, 6, none⟩ = some a6 := (cr h).trans (by simp)
theorem cr7 (h : w.heap[g]? = some (.cells (a0 :: a1 :: a2 :: a3 :: a4 :: a5 :: a6 :: a7 :: r).toArray t fr)) : w.cell? ⟨g, 7, none⟩ = some a7 := (cr h).trans (by simp)
theorem cr8 {a8 : Value} (h : w.heap[g]? = some (.cells (a0 :: a1 :: a2 :: a3 :: a4 :: a5 :: a6 :: a7 :: a8 :: r).toArray t fr)) : w.cell? ⟨g, 8, none⟩ = some a8 := (cr h).trans (by simp)
end Go.Proofs.Ythgnfmbnbndeeac
/-
  Bytes, and what the document says of loads and stores, as plain lists and whole numbers; and the words 'this slice reads as these bytes in this world' ('Mem') and 'memory was made, nothing old has turned' ('Gr').
-/
namespace Go.Proofs.Ythgnfmbnbndeeac.Mm
open Go.ChangeShapes Go.WideShapes Go.ChangeAt Go.RowKit
set_option linter.unusedVariables false

variable {l : List UInt8} {a w w' : World} {b n o g t m : Nat} {ao : Option Addr} {op : Int}
/-- Byte i, as a number. -/
def bv (l : List UInt8) (i : Nat) : Int := ((l.getD i 0).toNat : Int)
theorem bv_bd (l : List UInt8) (i : Nat) : 0 ≤ bv l i ∧ bv l i ≤ 255 := by
  unfold bv; have := (l.getD i 0).toNat_lt; omega
theorem bv_of {i : Nat} (h : i < l.length) : (l[i].toNat : Int) = bv l i := by
  unfold bv; simp [List.getD, h]
theorem ext_bv {a b : List UInt8} (h : a.length = b.length) (hb : ∀ i, i < a.length → bv a i = bv b i) : a = b := by
  refine List.ext_getElem h fun i h1 h2 => ?_
  have := hb i h1
  rw [← bv_of h1, ← bv_of h2] at this
  exact UInt8.toNat_inj.1 (by omega)
/-- How many bytes a load asks for; a store. -/
def lsz (op : Int) : Nat := if op = 11 ∨ op = 14 then 1 else if op = 12 ∨ op = 15 then 2 else if op = 13 then 4 else 0
def ssz (op : Int) : Nat := if op = 16 then 1 else if op = 17 then 2 else if op = 18 then 4 else 0
/-- Do n bytes stand at place a, in a memory of m bytes? -/
def thr (m n : Nat) (a : Int) : Bool := decide (0 < n ∧ a % (n : Int) = 0 ∧ a + n ≤ m)
/-- n bytes from place a on, as a number, the lowest one first. -/
def raw (l : List UInt8) (a : Nat) : Nat → Int
  | 0 => 0
  | n + 1 => raw l a n + bv l (a + n) * 256 ^ n
def wide (op x : Int) : Int := if op = 11 then (if x < 128 then x else x + 4294967040) else if op = 12 then (if x < 32768 then x else x + 4294901760) else x
def ldOk (l : List UInt8) (op a : Int) : Bool := thr l.length (lsz op) a
def ldV (l : List UInt8) (op a : Int) : Int := if ldOk l op a = true then wide op (raw l a.toNat (lsz op)) else 0
/-- w's lowest n bytes laid from place a on. -/
def put (l : List UInt8) (a : Nat) (w : Int) : Nat → List UInt8
  | 0 => l
  | n + 1 => (put l a w n).set (a + n) (UInt8.ofNat (w / 256 ^ n % 256).toNat)
def stOk (l : List UInt8) (op a : Int) : Bool := thr l.length (ssz op) a
def stL (l : List UInt8) (op a w : Int) : List UInt8 := if stOk l op a = true then put l a.toNat w (ssz op) else []

theorem lsz_le (op : Int) : lsz op ≤ 4 := by unfold lsz; split <;> (try split) <;> (try split) <;> omega
theorem ssz_le (op : Int) : ssz op ≤ 4 := by unfold ssz; split <;> (try split) <;> (try split) <;> omega
theorem len_put (l : List UInt8) (a : Nat) (w : Int) : ∀ n, (put l a w n).length = l.length
  | 0 => rfl
  | n + 1 => by simp [put, len_put l a w n]
theorem bv_put (l : List UInt8) (a : Nat) (w : Int) : ∀ n i, i < l.length → bv (put l a w n) i = if a ≤ i ∧ i < a + n then w / 256 ^ (i - a) % 256 else bv l i
  | 0, i, hi => by rw [if_neg (by omega)]; rfl
  | n + 1, i, hi => by
    have ih := bv_put l a w n i hi
    unfold bv at ih ⊢
    unfold put
    by_cases h : i = a + n
    · subst h
      rw [if_pos (by omega)]
      simp only [List.getD, List.getElem?_set, len_put]
      simp only [hi, if_true, Option.getD_some]
      have hm : (0 : Int) ≤ w / 256 ^ n % 256 ∧ w / 256 ^ n % 256 < 256 := by omega
      rw [UInt8.toNat_ofNat', Nat.add_sub_cancel_left]
      omega
    · simp only [List.getD, List.getElem?_set] at ih ⊢
      rw [if_neg (by omega), ih]
      by_cases h2 : a ≤ i ∧ i < a + n
      · rw [if_pos h2, if_pos (by omega)]
      · rw [if_neg h2, if_neg (by omega)]
theorem raw_bd (l : List UInt8) (a : Nat) : ∀ n, 0 ≤ raw l a n ∧ raw l a n < 256 ^ n
  | 0 => by simp [raw]
  | n + 1 => by
    have h := raw_bd l a n
    have hb := bv_bd l (a + n)
    have hp : (0 : Int) < 256 ^ n := Int.pow_pos (by omega)
    have h1 : bv l (a + n) * 256 ^ n ≤ 255 * 256 ^ n := Int.mul_le_mul_of_nonneg_right hb.2 (by omega)
    have h0 : 0 ≤ bv l (a + n) * 256 ^ n := Int.mul_nonneg hb.1 (by omega)
    unfold raw
    rw [Int.pow_succ]
    omega

/-- Memory was made, or an order drawn; of what was there nothing has turned. -/
def Gr (w w' : World) : Prop := Below w.heap.size w w'
theorem Gr.refl (w : World) : Gr w w := Below.refl _ _
theorem Gr.size (h : Gr w w') : w.heap.size ≤ w'.heap.size := Below.size h
theorem Gr.trans {b c : World} (h : Gr a b) (k : Gr b c) : Gr a c := Below.trans h (Below.mono k h.size)
theorem Gr.alloc (h : Gr a w) (o : Obj) : Gr a (w.alloc o) := Below.alloc h h.size _
theorem Gr.setCell (h : Gr a w) {p : Addr} (hp : a.heap.size ≤ p.block) (v : Value) : Gr a (w.setCell p v) := Below.setCell h hp v
theorem Gr.drewN (h : Gr a w) (n : Nat) : Gr a (w.drewN n) := Below.trans h ⟨rfl, rfl, rfl, Nat.le_refl _, fun _ _ => rfl⟩
theorem Gr.grown {row : Option Nat} (h : Gr a w) (g : w.grownBy w' row) (hr : ∀ k, row = some k → a.heap.size ≤ k) : Gr a w' := Below.grown h g h.size hr
theorem Gr.cell (h : Gr w w') (p : Addr) (hb : p.block < w.heap.size) : w'.cell? p = w.cell? p := Below.cell h hb

theorem add_at (b o t : Nat) : (⟨b, o, none⟩ : Addr).add t = ⟨b, o + t, none⟩ := by unfold Addr.add; split <;> simp_all
/-- In world w, the slice at ao of n elements reads as the bytes l. -/
structure Mem (w : World) (ao : Option Addr) (n : Nat) (l : List UInt8) : Prop where
  len : l.length = n
  nil : ao = none → n = 0
  cell : ∀ ad, ao = some ad → ∀ t, t < n → w.cell? (ad.add t) = some (.int .u8 (bv l t))
theorem Mem.of (h : Mem w ao n l) (g : Gr w w') : Mem w' ao n l :=
  ⟨h.len, h.nil, fun ad e t ht => (g.cell _ (World.block_lt_of_cell? w _ (h.cell ad e t ht))).trans (h.cell ad e t ht)⟩
theorem add_block (ad : Addr) (t : Nat) : (ad.add t).block = ad.block := by unfold Addr.add; split <;> rfl
theorem Mem.apart (h : Mem w ao n l) (e : ∀ ad, ao = some ad → w'.heap[ad.block]? = w.heap[ad.block]?) : Mem w' ao n l :=
  ⟨h.len, h.nil, fun ad q t ht => (World.cell?_of_block (by rw [add_block]; exact e ad q)).trans (h.cell ad q t ht)⟩
theorem Mem.spot (h : Mem w ao n l) (hn : 0 < n) :
    ∃ b o, ao = some ⟨b, o, none⟩ ∧ b < w.heap.size ∧ ∀ t, t < n → w.cell? ⟨b, o + t, none⟩ = some (.int .u8 (bv l t)) := by
  cases ao with
  | none => exact absurd (h.nil rfl) (by omega)
  | some ad =>
    obtain ⟨b, o, s⟩ := ad
    have hs : s = none := by simpa [Addr.add] using World.cell?_spot (h.cell _ rfl 0 hn)
    subst hs
    have hb : b < w.heap.size := by simpa [Addr.add] using World.block_lt_of_cell? w _ (h.cell _ rfl 0 hn)
    exact ⟨b, o, rfl, hb, fun t ht => by rw [← add_at]; exact h.cell _ rfl t ht⟩
theorem Mem.at (hl : l.length = n) (h : ∀ t, t < n → w.cell? ⟨b, o + t, none⟩ = some (.int .u8 (bv l t))) : Mem w (some ⟨b, o, none⟩) n l :=
  ⟨hl, fun e => (by cases e), fun ad e t ht => by obtain rfl := Option.some.inj e; rw [add_at]; exact h t ht⟩
theorem Mem.none (w : World) : Mem w none 0 [] := ⟨rfl, fun _ => rfl, fun ad e => (by cases e)⟩

/-- Byte cells. -/
def bc (l : List UInt8) : List Value := l.map fun b => Value.int .u8 (b.toNat : Int)
theorem bc_get {j : Nat} {u : Value} (h : (bc l)[j]? = some u) : j < l.length ∧ u = .int .u8 (bv l j) := by
  unfold bc at h
  rw [List.getElem?_map] at h
  cases hj : l[j]? with
  | none => simp [hj] at h
  | some b =>
    rw [hj] at h
    obtain ⟨hlt, hb⟩ := List.getElem?_eq_some_iff.1 hj
    refine ⟨hlt, ?_⟩
    rw [← bv_of hlt, hb]
    simpa using h.symm
theorem bc_one (l : List UInt8) : ∀ u ∈ bc l, u.oneCell' = true := by
  intro u hu
  obtain ⟨b, _, rfl⟩ := List.mem_map.1 hu
  rfl
/-- Block g is a row of the program's own that begins with the bytes l. -/
def Row (w : World) (g : Nat) (l : List UInt8) : Prop := ∃ rest : List Value, w.heap[g]? = some (.cells (bc l ++ rest).toArray 5 (0, 0))
theorem Row.cell (h : Row w g l) (ht : t < l.length) : w.cell? ⟨g, t, none⟩ = some (.int .u8 (bv l t)) := by
  obtain ⟨rest, hg⟩ := h
  rw [cell_of_row w g t _ _ (0, 0) hg]
  have h1 : t < (bc l).length := by simpa [bc] using ht
  rw [List.getElem?_toArray, List.getElem?_append_left h1]
  have h2 := List.getElem?_eq_getElem h1
  rw [h2, (bc_get h2).2]
theorem Row.frozen (h : Row w g l) (t : Nat) : w.frozen? ⟨g, t, none⟩ = false := by
  obtain ⟨rest, hg⟩ := h
  simp [World.frozen?, hg]
theorem Row.lt (h : Row w g l) : g < w.heap.size := by
  obtain ⟨rest, hg⟩ := h
  exact (gs hg).1
theorem Row.set (h : Row w g l) (ht : t < l.length) (v : Int) (h0 : 0 ≤ v) (h1 : v < 256) :
    Row (w.setCell ⟨g, t, none⟩ (.int .u8 v)) g (l.set t (UInt8.ofNat v.toNat)) := by
  obtain ⟨rest, hg⟩ := h
  refine ⟨rest, ?_⟩
  rw [heap_setCell_same w g t _ _ _ hg]
  have h2 : t < (bc l).length := by simpa [bc] using ht
  have e : (UInt8.ofNat v.toNat).toNat = v.toNat := by rw [UInt8.toNat_ofNat']; omega
  have e2 : (((UInt8.ofNat v.toNat).toNat : Nat) : Int) = v := by rw [e]; omega
  have e3 : bc (l.set t (UInt8.ofNat v.toNat)) = (bc l).set t (.int .u8 v) := by
    unfold bc; rw [List.map_set]; simp only [e2]
  rw [e3]
  simp [List.set_append_left _ _ h2]
theorem Row.mem (h : Row w g l) : Mem w (some ⟨g, 0, none⟩) l.length l :=
  Mem.at rfl fun t ht => by rw [Nat.zero_add]; exact h.cell ht
theorem Row.own {base e cap : Nat} (he : e = 5) (h : w.ownsRow base e 1 (.slice (some ⟨g, 0, none⟩) n cap) n (bc l)) : Row w g l := by
  subst he
  obtain ⟨_, hc⟩ := h
  rcases hc with ⟨h0, _⟩ | ⟨g', cap', cur, hv, hb, hg, hn, hm, hs, htake⟩
  · cases h0
  · simp only [Value.slice.injEq, Option.some.injEq, Addr.mk.injEq, true_and, and_true] at hv
    obtain ⟨rfl, rfl⟩ := hv
    refine ⟨cur.toList.drop (n * 1), ?_⟩
    rw [← htake, List.take_append_drop]
    simpa using hg
theorem info5 : (Try.prog.info? 5).map (fun i => (i.zero, i.size, i.bytes)) = some (some (.int .u8 0), 1, 1) := by kernel_rfl

theorem ret_int {k : IntKind} {a b : Int} (h : a = b) : Ending.returned (.int k a) = .returned (.int k b) := by rw [h]
theorem ret_bool {a b : Bool} (h : a = b) : Ending.returned (.bool a) = .returned (.bool b) := by rw [h]
theorem thr_t {a : Int} (h0 : 0 < n) (h1 : a % (n : Int) = 0) (h2 : a + n ≤ m) : true = thr m n a := by simp [thr, h0, h1, h2]
theorem thr_f {a : Int} (h : ¬ (0 < n ∧ a % (n : Int) = 0 ∧ a + n ≤ m)) : false = thr m n a := by simp only [thr]; rw [decide_eq_false h]
theorem wrap_i8 (x : Int) (h0 : 0 ≤ x) (h1 : x < 256) : IntKind.i8.wrap x % 4294967296 = if x < 128 then x else x + 4294967040 := by
  have e : IntKind.i8.wrap x = if 128 ≤ x % 256 then x % 256 - 256 else x % 256 := by simp [IntKind.wrap, IntKind.bits, IntKind.signed]
  rw [e]
  repeat' split
  all_goals omega
theorem wrap_i16 (x : Int) (h0 : 0 ≤ x) (h1 : x < 65536) : IntKind.i16.wrap x % 4294967296 = if x < 32768 then x else x + 4294901760 := by
  have e : IntKind.i16.wrap x = if 32768 ≤ x % 65536 then x % 65536 - 65536 else x % 65536 := by simp [IntKind.wrap, IntKind.bits, IntKind.signed]
  rw [e]
  repeat' split
  all_goals omega
theorem ofInt32 (a : Nat) (h : (a : Int) < 4294967296) : (BitVec.ofInt 32 (a : Int)).toNat = a := by
  rw [BitVec.toNat_ofInt]; omega
theorem or_byte (x y : Int) (k : Nat) (hk : k < 4) (h0 : 0 ≤ x) (h1 : x < 256 ^ k) (hy : 0 ≤ y) (hy' : y ≤ 255) : bits .or .u32 x (y * 2 ^ (8 * k) % 4294967296) = x + y * 256 ^ k := by
  obtain ⟨x, rfl⟩ := Int.eq_ofNat_of_zero_le h0
  obtain ⟨y, rfl⟩ := Int.eq_ofNat_of_zero_le hy
  have e1 : (256 : Int) ^ k = ((2 ^ (8 * k) : Nat) : Int) := by
    rw [Nat.pow_mul]; simp
  have hx : x < 2 ^ (8 * k) := by rw [e1] at h1; exact_mod_cast h1
  have hp : 2 ^ (8 * k) * 256 ≤ 4294967296 := by
    have : 2 ^ (8 * k) ≤ 2 ^ (8 * 3) := Nat.pow_le_pow_right (by omega) (by omega)
    omega
  have hpp : 0 < 2 ^ (8 * k) := Nat.two_pow_pos _
  have hyb : y * 2 ^ (8 * k) ≤ 255 * 2 ^ (8 * k) := Nat.mul_le_mul_right _ (by omega)
  have hor : 2 ^ (8 * k) * y + x = 2 ^ (8 * k) * y ||| x := Nat.two_pow_add_eq_or_of_lt hx y
  have e2 : ((y : Int) * 2 ^ (8 * k) % 4294967296) = ((y * 2 ^ (8 * k) : Nat) : Int) := by
    have : ((y : Int) * 2 ^ (8 * k)) = ((y * 2 ^ (8 * k) : Nat) : Int) := by simp
    rw [this]; omega
  rw [e2, e1]
  show IntKind.u32.wrap ((BitVec.ofInt 32 (x : Int) ||| BitVec.ofInt 32 ((y * 2 ^ (8 * k) : Nat) : Int)).toNat : Int) = _
  rw [BitVec.toNat_or, ofInt32 x (by omega), ofInt32 _ (by omega), Nat.or_comm, Nat.mul_comm y, ← hor]
  show (((2 ^ (8 * k) * y + x : Nat) : Int)) % 4294967296 = _
  rw [Nat.mul_comm] at hyb
  rw [show ((y : Int) * ((2 ^ (8 * k) : Nat) : Int)) = ((2 ^ (8 * k) * y : Nat) : Int) by push_cast; rw [Int.mul_comm]]
  generalize 2 ^ (8 * k) * y = z at *
  generalize 2 ^ (8 * k) = p at *
  omega
theorem lsz_room {a : Nat} (h : (a : Int) % (lsz op : Nat) = 0) (ha : a < 4294967296) (h0 : 0 < lsz op) : a + lsz op ≤ 4294967296 := by
  have : lsz op = 1 ∨ lsz op = 2 ∨ lsz op = 4 := by
    have hh : lsz op ≠ 0 := by omega
    clear h h0
    unfold lsz at hh ⊢
    repeat' split
    all_goals simp_all
  rcases this with e | e | e <;> rw [e] at h ⊢ <;> omega
theorem raw_cap (l : List UInt8) (a : Nat) (op : Int) : raw l a (lsz op) < 4294967296 ∧ (op = 11 → raw l a (lsz op) < 256) ∧ (op = 12 → raw l a (lsz op) < 65536) := by
  have h := (raw_bd l a (lsz op)).2
  have q : 256 ^ lsz op ≤ 256 ^ 4 := Nat.pow_le_pow_right (show 0 < 256 by omega) (lsz_le op)
  have p : (256 : Int) ^ lsz op ≤ 4294967296 := by
    rw [show (256 : Int) ^ lsz op = ((256 ^ lsz op : Nat) : Int) by simp]
    omega
  refine ⟨by omega, fun e => ?_, fun e => ?_⟩
  · subst e; exact h
  · subst e; exact h
theorem thr_pos {s : Nat} {a : Int} (h : thr n s a = true) (h0 : 0 ≤ a) : 0 < n := by
  simp only [thr, decide_eq_true_eq] at h
  omega
theorem ssz_room {a : Nat} (h : (a : Int) % (ssz op : Nat) = 0) (ha : a < 4294967296) (h0 : 0 < ssz op) : a + ssz op ≤ 4294967296 := by
  have : ssz op = 1 ∨ ssz op = 2 ∨ ssz op = 4 := by
    have hh : ssz op ≠ 0 := by omega
    clear h h0
    unfold ssz at hh ⊢
    repeat' split
    all_goals simp_all
  rcases this with e | e | e <;> rw [e] at h ⊢ <;> omega
theorem made_row {w0 : World} {xs : List Value} (h : w0.ownsRow w.heap.size 5 1 (.slice (some ⟨w.heap.size, 0, none⟩) n n) n xs) :
    ∃ cur : List Value, cur.length = n ∧ w0.heap[w.heap.size]? = some (.cells cur.toArray 5 (0, 0)) := by
  obtain ⟨_, hc⟩ := h
  rcases hc with ⟨h0, _⟩ | ⟨g', cap', cur, hv, hb, hg, hn, hm, hs, htake⟩
  · cases h0
  · simp only [Value.slice.injEq, Option.some.injEq, Addr.mk.injEq, true_and, and_true] at hv
    obtain ⟨e, rfl⟩ := hv
    rw [← e] at hg
    exact ⟨cur.toList, by simpa using hs, by simpa using hg⟩
theorem splice_all {cur cs : List Value} (h : cs.length = cur.length) : splice cur 0 cs = cs := by
  simp [splice, h]
theorem bc_len (l : List UInt8) : (bc l).length = l.length := by simp [bc]
theorem bc_src (hl : l.length = n) (hc : ∀ t, t < n → w.cell? ⟨b, o + t, none⟩ = some (.int .u8 (bv l t))) : ∀ j v, (bc l)[j]? = some v → w.cell? ((⟨b, o, none⟩ : Addr).add j) = some v := by
  intro j v h
  obtain ⟨h1, rfl⟩ := bc_get h
  rw [add_at]
  exact hc j (by omega)
theorem size1 : (Try.prog.info? 5).map (·.size) = some 1 := by kernel_rfl
theorem byte_eq (x : Int) (k : Nat) (h0 : 0 ≤ x) : x / 2 ^ (8 * k) % 256 = x / 256 ^ k % 256 := by
  rw [show (256 : Int) ^ k = 2 ^ (8 * k) by rw [Int.pow_mul]; rfl]
theorem stL_len {a x : Int} (h : stOk l op a = true) : (stL l op a x).length = l.length := by unfold stL; rw [h]; exact len_put _ _ _ _
end Go.Proofs.Ythgnfmbnbndeeac.Mm
/-
  A hart, and what a step of the document's did, as plain data, and as the cells of a struct.
-/
namespace Go.Proofs.Ythgnfmbnbndeeac.Hh
open Go.ChangeShapes Go.WideShapes Go.ChangeAt Go.RowKit Mm
set_option linter.unusedVariables false

/-- A hart. -/
structure Hv where
  regs : List Int
  pc : Int
  held : Bool
  heldAt : Int
  state : Int
  cause : Int
/-- What a step did: the hart, the memory and what came out (as slices), where was stored, and how many bytes. -/
structure Dv where
  h : Hv
  m : Value
  out : Value
  fro : Int
  many : Int
def hL (h : Hv) : List Value := h.regs.map (Value.int .u32) ++ [.int .u32 h.pc, .bool h.held, .int .u32 h.heldAt, .int .i64 h.state, .int .i64 h.cause]
def hA (h : Hv) : Array Value := (hL h).toArray
def dA (d : Dv) : Array Value := (hL d.h ++ [d.m, d.out, .int .u32 d.fro, .int .i64 d.many]).toArray
def rg (h : Hv) (i : Nat) : Int := h.regs.getD i 0
/-- It is one: 32 registers, each a word; PC and HeldAt are words. -/
structure Hv.Ok (h : Hv) : Prop where
  len : h.regs.length = 32
  reg : ∀ i, 0 ≤ rg h i ∧ rg h i < 4294967296
  pc0 : 0 ≤ h.pc
  pc1 : h.pc < 4294967296
  at0 : 0 ≤ h.heldAt
  at1 : h.heldAt < 4294967296
/-- A register but 0 set. -/
def Hv.set (h : Hv) (r : Nat) (x : Int) : Hv := if r = 0 then h else { h with regs := h.regs.set r x }
def Hv.go (h : Hv) (x : Int) : Hv := { h with pc := x }
def Hv.trap (h : Hv) (c : Int) : Hv := { h with state := 2, cause := c }
def Hv.hold (h : Hv) (b : Bool) (x : Int) : Hv := { h with held := b, heldAt := x }
def Hv.halt (h : Hv) : Hv := { h with state := 1 }
def Dv.setH (d : Dv) (h : Hv) : Dv := { d with h := h }
def Dv.setM (d : Dv) (m : Value) (f n : Int) : Dv := { d with m := m, fro := f, many := n }
def Dv.setO (d : Dv) (v : Value) : Dv := { d with out := v }
/-- Slices are one cell each. -/
structure Dv.Ok (d : Dv) : Prop where
  h : d.h.Ok
  m : d.m.oneCell' = true
  out : d.out.oneCell' = true
theorem rg_set (h : Hv) (r : Nat) (x : Int) (i : Nat) : rg { h with regs := h.regs.set r x } i = if i = r ∧ r < h.regs.length then x else rg h i := by
  unfold rg
  simp only [List.getD, List.getElem?_set]
  by_cases e : r = i
  · subst e
    by_cases l : r < h.regs.length
    · simp [l]
    · simp [l]
  · have e2 : ¬ i = r := fun q => e q.symm
    simp [e, e2]
theorem Hv.Ok.set {h : Hv} (o : h.Ok) (r : Nat) {x : Int} (h0 : 0 ≤ x) (h1 : x < 4294967296) : (h.set r x).Ok := by
  unfold Hv.set
  split
  · exact o
  · refine ⟨by simp [o.len], fun i => ?_, o.pc0, o.pc1, o.at0, o.at1⟩
    rw [rg_set]
    split
    · exact ⟨h0, h1⟩
    · exact o.reg i
theorem Hv.Ok.go {h : Hv} (o : h.Ok) {x : Int} (h0 : 0 ≤ x) (h1 : x < 4294967296) : (h.go x).Ok := ⟨o.len, o.reg, h0, h1, o.at0, o.at1⟩
theorem Hv.Ok.trap {h : Hv} (o : h.Ok) (c : Int) : (h.trap c).Ok := ⟨o.len, o.reg, o.pc0, o.pc1, o.at0, o.at1⟩
theorem Hv.Ok.halt {h : Hv} (o : h.Ok) : h.halt.Ok := ⟨o.len, o.reg, o.pc0, o.pc1, o.at0, o.at1⟩
theorem Hv.Ok.hold {h : Hv} (o : h.Ok) (b : Bool) {x : Int} (h0 : 0 ≤ x) (h1 : x < 4294967296) : (h.hold b x).Ok := ⟨o.len, o.reg, o.pc0, o.pc1, h0, h1⟩
theorem Dv.Ok.setH {d : Dv} (o : d.Ok) {h : Hv} (q : h.Ok) : (d.setH h).Ok := ⟨q, o.m, o.out⟩
theorem hL_len {h : Hv} (o : h.Ok) : (hL h).length = 37 := by simp [hL, o.len]
theorem hA_size {h : Hv} (o : h.Ok) : (hA h).size = 37 := by simp [hA, hL_len o]
theorem dA_size {d : Dv} (o : d.h.Ok) : (dA d).size = 41 := by simp [dA, hL_len o]
theorem hL_reg {h : Hv} (o : h.Ok) {i : Nat} (hi : i < 32) : (hL h)[i]? = some (.int .u32 (rg h i)) := by
  have := o.len
  unfold hL
  rw [List.getElem?_append_left (by simp; omega), List.getElem?_map, List.getElem?_eq_getElem (by omega)]
  simp [rg, List.getD, List.getElem?_eq_getElem (show i < h.regs.length by omega)]
theorem hL_fld {h : Hv} (o : h.Ok) (j : Nat) : (hL h)[32 + j]? = [Value.int .u32 h.pc, .bool h.held, .int .u32 h.heldAt, .int .i64 h.state, .int .i64 h.cause][j]? := by
  unfold hL
  rw [List.getElem?_append_right (by simp [o.len])]
  simp [o.len]
theorem set_reg {h : Hv} (o : h.Ok) {i : Nat} (hi : i < 32) (x : Int) : (hL h).set i (.int .u32 x) = hL { h with regs := h.regs.set i x } := by
  have := o.len
  unfold hL
  rw [List.set_append_left _ _ (by simp; omega), List.map_set]
theorem set_pc {h : Hv} (o : h.Ok) (x : Int) : (hL h).set 32 (.int .u32 x) = hL { h with pc := x } := by
  unfold hL; rw [List.set_append_right _ _ (by simp [o.len])]; simp [o.len]
theorem set_held {h : Hv} (o : h.Ok) (x : Bool) : (hL h).set 33 (.bool x) = hL { h with held := x } := by
  unfold hL; rw [List.set_append_right _ _ (by simp [o.len])]; simp [o.len]
theorem set_heldAt {h : Hv} (o : h.Ok) (x : Int) : (hL h).set 34 (.int .u32 x) = hL { h with heldAt := x } := by
  unfold hL; rw [List.set_append_right _ _ (by simp [o.len])]; simp [o.len]
theorem set_state {h : Hv} (o : h.Ok) (x : Int) : (hL h).set 35 (.int .i64 x) = hL { h with state := x } := by
  unfold hL; rw [List.set_append_right _ _ (by simp [o.len])]; simp [o.len]
theorem set_cause {h : Hv} (o : h.Ok) (x : Int) : (hL h).set 36 (.int .i64 x) = hL { h with cause := x } := by
  unfold hL; rw [List.set_append_right _ _ (by simp [o.len])]; simp [o.len]
/-- A cell of the hart, set in what a step did. -/
theorem dA_set {d : Dv} (o : d.h.Ok) {i : Nat} (hi : i < 37) {v : Value} {h' : Hv} (e : (hL d.h).set i v = hL h') : (dA d).setIfInBounds i v = dA { d with h := h' } := by
  have := hL_len o
  unfold dA
  simp only [List.setIfInBounds_toArray]
  rw [List.set_append_left _ _ (by omega), e]
theorem dA_get {d : Dv} (o : d.h.Ok) {i : Nat} (hi : i < 37) : (dA d)[i]? = (hL d.h)[i]? := by
  have := hL_len o
  unfold dA
  rw [List.getElem?_toArray, List.getElem?_append_left (by omega)]
theorem dA_fld {d : Dv} (o : d.h.Ok) (j : Nat) : (dA d)[37 + j]? = [d.m, d.out, Value.int .u32 d.fro, .int .i64 d.many][j]? := by
  unfold dA
  rw [List.getElem?_toArray, List.getElem?_append_right (by simp [hL_len o])]
  simp [hL_len o]
theorem one_dA {d : Dv} (o : d.Ok) : (dA d).all (·.oneCell') = true := by
  refine all_oneCell_toArray ?_
  intro v hv
  simp only [hL, List.mem_append, List.mem_map, List.mem_cons, List.not_mem_nil, or_false] at hv
  rcases hv with (⟨n, _, rfl⟩ | rfl | rfl | rfl | rfl | rfl) | rfl | rfl | rfl | rfl <;> first | rfl | exact o.m | exact o.out
theorem one_hA (h : Hv) : (hA h).all (·.oneCell') = true := by
  refine all_oneCell_toArray ?_
  intro v hv
  simp only [hL, List.mem_append, List.mem_map, List.mem_cons, List.not_mem_nil, or_false] at hv
  rcases hv with ⟨n, _, rfl⟩ | rfl | rfl | rfl | rfl | rfl <;> rfl
theorem gr_setRow {a w : World} (h : Gr a w) {g : Nat} (hg : a.heap.size ≤ g) (cs : Array Value) : Gr a (w.setRow g cs) := below_setRow h hg cs
theorem heap_setRow2 (w : World) (A : Obj) (z cs : Array Value) (t : Nat) : (((w.alloc A).alloc (.cells z t)).setRow (w.heap.size + 1) cs).heap[w.heap.size + 1]? = some (.cells cs t (0, 0)) :=
  setRow_heap _ _ z cs t (0, 0) (heap_alloc2_new w A _)
end Go.Proofs.Ythgnfmbnbndeeac.Hh
/-
  Plain reckoning with words of 32 bits, as whole numbers: no program in sight. What is proved here: small facts on 'sg' (a word as a signed number) and on what Alu, Holds and Amo come to.
-/
namespace Go.Proofs.Ythgnfmbnbndeeac.Wd

variable {a x y : Int}
/-- A word as a signed number. -/
def sg (a : Int) : Int := if a < 2147483648 then a else a - 4294967296
def band (a b : Int) : Int := ((a.toNat &&& b.toNat : Nat) : Int)
def bor (a b : Int) : Int := ((a.toNat ||| b.toNat : Nat) : Int)
def bxor (a b : Int) : Int := ((a.toNat ^^^ b.toNat : Nat) : Int)
def tr (b : Bool) : Int := if b then 1 else 0
/-- 2 to the power of a word's lower five bits. -/
def pw (b : Int) : Int := 2 ^ (b % 32).toNat
def lo (n : Int) : Int := n % 4294967296
def hi (n : Int) : Int := n / 4294967296 % 4294967296
def dv (a b : Int) : Int := if b = 0 then 4294967295 else lo ((sg a).tdiv (sg b))
def rm (a b : Int) : Int := if b = 0 then a else lo ((sg a).tmod (sg b))
def dvu (a b : Int) : Int := if b = 0 then 4294967295 else a / b
def rmu (a b : Int) : Int := if b = 0 then a else a % b

/-- What Alu makes of two words. -/
def alu (op a b : Int) : Int :=
  if op = 28 then lo (a + b) else if op = 29 then lo (a - b) else if op = 37 then band a b else if op = 36 then bor a b
  else if op = 33 then bxor a b else if op = 30 then lo (a * pw b) else if op = 34 then a / pw b else if op = 35 then lo (sg a / pw b)
  else if op = 31 then tr (decide (sg a < sg b)) else if op = 32 then tr (decide (a < b)) else if op = 38 then lo (a * b)
  else if op = 39 then hi (sg a * sg b) else if op = 40 then hi (sg a * b) else if op = 41 then hi (a * b)
  else if op = 42 then dv a b else if op = 44 then rm a b else if op = 43 then dvu a b else if op = 45 then rmu a b else 0

/-- Whether a branch holds. -/
def holds (op a b : Int) : Bool :=
  if op = 5 then decide (a = b) else if op = 6 then decide (a ≠ b) else if op = 7 then decide (sg a < sg b) else if op = 8 then decide (sg b ≤ sg a)
  else if op = 9 then decide (a < b) else if op = 10 then decide (b ≤ a) else false

/-- What a word in memory becomes. -/
def amo (op a b : Int) : Int :=
  if op = 48 then b else if op = 49 then lo (a + b) else if op = 50 then bxor a b else if op = 51 then band a b else if op = 52 then bor a b
  else if op = 53 then (if sg a < sg b then a else b) else if op = 54 then (if sg a < sg b then b else a)
  else if op = 55 then (if a < b then a else b) else if op = 56 then (if a < b then b else a) else 0

theorem sg_bd (h0 : 0 ≤ a) (h1 : a < 4294967296) : -2147483648 ≤ sg a ∧ sg a < 2147483648 := by
  unfold sg; split <;> omega
theorem sg_lo (h0 : 0 ≤ a) (h1 : a < 4294967296) : lo (sg a) = a := by
  unfold sg lo; split <;> omega
theorem sg_zero (h0 : 0 ≤ a) (h1 : a < 4294967296) : sg a = 0 ↔ a = 0 := by
  unfold sg; split <;> omega
theorem lo_bd (n : Int) : 0 ≤ lo n ∧ lo n < 4294967296 := by unfold lo; omega
theorem band_bd {b : Int} (h0 : 0 ≤ a) (h1 : a < 4294967296) : 0 ≤ band a b ∧ band a b < 4294967296 := by
  unfold band
  have := @Nat.and_le_left a.toNat b.toNat
  omega
theorem pw_nat (b : Int) (h : 0 ≤ b) : pw b = ((2 ^ (b.toNat % 32) : Nat) : Int) := by
  unfold pw
  rw [show (b % 32).toNat = b.toNat % 32 by omega]
  simp
theorem pw_bd (b : Int) (h : 0 ≤ b) : 1 ≤ pw b ∧ pw b ≤ 2147483648 := by
  rw [pw_nat b h]
  have h1 : 2 ^ (b.toNat % 32) ≤ 2 ^ 31 := Nat.pow_le_pow_right (by omega) (by omega)
  have h2 : 0 < 2 ^ (b.toNat % 32) := Nat.two_pow_pos _
  omega
/-- A product of two signed words, and of a signed one and one that is not, has at most 64 bits. -/
theorem mul_bd (hx : -2147483648 ≤ x) (hx' : x ≤ 2147483648) (hy : -4294967296 < y) (hy' : y < 4294967296) : -9223372036854775808 ≤ x * y ∧ x * y ≤ 9223372036854775807 := by
  by_cases h : 0 ≤ x
  · have a1 : x * y ≤ x * 4294967295 := Int.mul_le_mul_of_nonneg_left (by omega) h
    have a2 : x * (-4294967295) ≤ x * y := Int.mul_le_mul_of_nonneg_left (by omega) h
    omega
  · have a1 : x * y ≤ x * (-4294967295) := Int.mul_le_mul_of_nonpos_left (by omega) (by omega)
    have a2 : x * 4294967295 ≤ x * y := Int.mul_le_mul_of_nonpos_left (by omega) (by omega)
    omega
theorem mulu_bd (hx : 0 ≤ x) (hx' : x < 4294967296) (hy : 0 ≤ y) (hy' : y < 4294967296) : 0 ≤ x * y ∧ x * y ≤ 18446744065119617025 := by
  have a1 : x * y ≤ x * 4294967295 := Int.mul_le_mul_of_nonneg_left (by omega) hx
  have a2 : 0 ≤ x * y := Int.mul_nonneg hx hy
  omega
end Go.Proofs.Ythgnfmbnbndeeac.Wd
/-
  Plain reckoning with words as instructions, as whole numbers: no program in sight. What is proved here: which op the told bits of a word tell ('raw'), that a word's told bits are an op's just where that op is told ('told_iff'), that every instruction that is read has its fields in their bounds ('is_of_dec'), and that of each such instruction the word that is laid together is read as it again ('dec_of_is').
-/
namespace Go.Proofs.Ythgnfmbnbndeeac.Dc
open Wd
set_option linter.unusedVariables false

variable {w lo mi k : Int}
/-- One of a list, by a number that must be among others; 0: it is not. -/
def pk (n : Int) : List (Int × Int) → Int
  | [] => 0
  | (a, o) :: r => if n = a then o else pk n r

def lB : List (Int × Int) := [(0, 5), (1, 6), (4, 7), (5, 8), (6, 9), (7, 10)]
def lL : List (Int × Int) := [(0, 11), (1, 12), (2, 13), (4, 14), (5, 15)]
def lS : List (Int × Int) := [(0, 16), (1, 17), (2, 18)]
def lH : List (Int × Int) := [(1, 25), (5, 26), (261, 27)]
def lI : List (Int × Int) := [(0, 19), (2, 20), (3, 21), (4, 22), (6, 23), (7, 24)]
def lR0 : List (Int × Int) := [(0, 28), (1, 30), (2, 31), (3, 32), (4, 33), (5, 34), (6, 36), (7, 37)]
def lR32 : List (Int × Int) := [(0, 29), (5, 35)]
def lR1 : List (Int × Int) := [(0, 38), (1, 39), (2, 40), (3, 41), (4, 42), (5, 43), (6, 44), (7, 45)]
def lA : List (Int × Int) := [(2, 46), (3, 47), (1, 48), (0, 49), (4, 50), (12, 51), (8, 52), (16, 53), (20, 54), (24, 55), (28, 56)]
def lE : List (Int × Int) := [(115, 58), (1048691, 59)]

/-- The op that a word's told bits tell; 0: none. What LRW's Rs2 is is not asked. -/
def rawOf (w lo mi up : Int) : Int :=
  if lo = 55 then 1 else if lo = 23 then 2 else if lo = 111 then 3
  else if lo = 103 then pk mi [(0, 4)] else if lo = 99 then pk mi lB else if lo = 3 then pk mi lL else if lo = 35 then pk mi lS
  else if lo = 19 then (if mi = 1 ∨ mi = 5 then pk (8 * up + mi) lH else pk mi lI)
  else if lo = 51 then (if up = 0 then pk mi lR0 else if up = 32 then pk mi lR32 else if up = 1 then pk mi lR1 else 0)
  else if lo = 47 then (if mi = 2 then pk (up / 4) lA else 0)
  else if lo = 15 then pk mi [(0, 57)] else if lo = 115 then pk w lE else 0
def raw (w : Int) : Int := rawOf w (w % 128) (w / 4096 % 8) (w / 33554432)

/-- The form of an op: 1 U, 2 J, 3 I, 4 H, 5 B, 6 S, 7 R, 8 A, 9 E; 0: it is none. -/
def frm (k : Int) : Int :=
  if k = 1 ∨ k = 2 then 1 else if k = 3 then 2 else if k = 4 then 3 else if 5 ≤ k ∧ k ≤ 10 then 5 else if 11 ≤ k ∧ k ≤ 15 then 3
  else if 16 ≤ k ∧ k ≤ 18 then 6 else if 19 ≤ k ∧ k ≤ 24 then 3 else if 25 ≤ k ∧ k ≤ 27 then 4 else if 28 ≤ k ∧ k ≤ 45 then 7
  else if 46 ≤ k ∧ k ≤ 56 then 8 else if k = 57 then 3 else if k = 58 ∨ k = 59 then 9 else 0
/-- Which bits of a word tell its instruction. -/
def mask (f : Int) : Int :=
  if f = 1 ∨ f = 2 then 127 else if f = 3 ∨ f = 5 ∨ f = 6 then 28799 else if f = 4 ∨ f = 7 then 4261441663 else if f = 8 then 4160778367 else if f = 9 then 4294967295 else 0
def nth (l : List Int) (k : Int) : Int := l.getD k.toNat 0
def uppers : List Int := [0,0,0,0,0,0,0,0,0,0,0,0,0,0,0,0,0,0,0,0,0,0,0,0,0,0,0,32,0,32,0,0,0,0,0,32,0,0,1,1,1,1,1,1,1,1,8,12,4,0,16,48,32,64,80,96,112,0,0,0]
def rowOf (op first low : Int) (mids : List Int) : Int := low + nth mids (op - first) * 4096 + nth uppers op * 33554432
/-- The bits that tell an op. -/
def tbits (k : Int) : Int :=
  if k = 1 then 55 else if k = 2 then 23 else if k = 3 then 111 else if k = 4 then rowOf k 4 103 [0] else if 5 ≤ k ∧ k ≤ 10 then rowOf k 5 99 [0, 1, 4, 5, 6, 7]
  else if 11 ≤ k ∧ k ≤ 15 then rowOf k 11 3 [0, 1, 2, 4, 5] else if 16 ≤ k ∧ k ≤ 18 then rowOf k 16 35 [0, 1, 2] else if 19 ≤ k ∧ k ≤ 24 then rowOf k 19 19 [0, 2, 3, 4, 6, 7]
  else if 25 ≤ k ∧ k ≤ 27 then rowOf k 25 19 [1, 5, 5] else if 28 ≤ k ∧ k ≤ 37 then rowOf k 28 51 [0, 0, 1, 2, 3, 4, 5, 5, 6, 7] else if 38 ≤ k ∧ k ≤ 45 then rowOf k 38 51 [0, 1, 2, 3, 4, 5, 6, 7]
  else if 46 ≤ k ∧ k ≤ 56 then rowOf k k 47 [2] else if k = 57 then rowOf k 57 15 [0] else if k = 58 then 115 else if k = 59 then 1048691 else 0

/-- The op that a word is; 0: it is none. -/
def dop (w : Int) : Int := if raw w = 46 ∧ w / 1048576 % 32 ≠ 0 then 0 else raw w
def sgn (h n : Int) : Int := if n ≥ h then n - 2 * h else n
def immF (f w : Int) : Int :=
  if f = 1 then sg w - w % 4096
  else if f = 2 then sgn 1048576 (w / 2147483648 * 1048576 + w / 4096 % 256 * 4096 + w / 1048576 % 2 * 2048 + w / 2097152 % 1024 * 2)
  else if f = 3 then sgn 2048 (w / 1048576)
  else if f = 4 then w / 1048576 % 32
  else if f = 5 then sgn 4096 (w / 2147483648 * 4096 + w / 128 % 2 * 2048 + w / 33554432 % 64 * 32 + w / 256 % 16 * 2)
  else if f = 6 then sgn 2048 (w / 33554432 * 32 + w / 128 % 32)
  else if f = 8 then w / 33554432 % 4 else 0
def hasRd (f : Int) : Bool := f == 1 || f == 2 || f == 3 || f == 4 || f == 7 || f == 8
def hasRs1 (f : Int) : Bool := f == 3 || f == 4 || f == 5 || f == 6 || f == 7 || f == 8
def hasRs2 (f : Int) : Bool := f == 5 || f == 6 || f == 7 || f == 8
def rdF (f w : Int) : Int := if hasRd f then w / 128 % 32 else 0
def rs1F (f w : Int) : Int := if hasRs1 f then w / 32768 % 32 else 0
def rs2F (f w : Int) : Int := if hasRs2 f then w / 1048576 % 32 else 0

/-! ### Bits -/
theorem nand_mask (w i n : Nat) : w &&& ((2 ^ n - 1) * 2 ^ i) = w / 2 ^ i % 2 ^ n * 2 ^ i := by
  apply Nat.eq_of_testBit_eq
  intro j
  rw [Nat.testBit_and, Nat.testBit_mul_two_pow, Nat.testBit_mul_two_pow, Nat.testBit_two_pow_sub_one, Nat.testBit_mod_two_pow, Nat.testBit_div_two_pow]
  by_cases h : i ≤ j
  · have e : j - i + i = j := by omega
    simp [h, e]
    rw [Bool.and_comm]
  · simp [h]
theorem nor_add (x y i : Nat) (h : x < 2 ^ i) : y * 2 ^ i ||| x = y * 2 ^ i + x := by
  rw [Nat.mul_comm]; exact (Nat.two_pow_add_eq_or_of_lt h y).symm
theorem nand7 (w : Nat) : w &&& 127 = w % 128 := by
  have := nand_mask w 0 7; simpa using this
theorem nand12 (w : Nat) : w &&& 28672 = w / 4096 % 8 * 4096 := nand_mask w 12 3
theorem nand25 (w : Nat) : w &&& 4261412864 = w / 33554432 % 128 * 33554432 := nand_mask w 25 7
theorem nand27 (w : Nat) : w &&& 4160749568 = w / 134217728 % 32 * 134217728 := nand_mask w 27 5
theorem nandM (w : Nat) : w &&& 28799 = w / 4096 % 8 * 4096 + w % 128 := by
  rw [show (28799 : Nat) = 28672 ||| 127 by decide, Nat.and_or_distrib_left, nand7, nand12, ← nor_add _ _ 12 (by omega)]
theorem nandU (w : Nat) : w &&& 4261441663 = w / 33554432 % 128 * 33554432 + (w / 4096 % 8 * 4096 + w % 128) := by
  rw [show (4261441663 : Nat) = 4261412864 ||| 28799 by decide, Nat.and_or_distrib_left, nandM, nand25, ← nor_add _ _ 25 (by omega)]
theorem nandA (w : Nat) : w &&& 4160778367 = w / 134217728 % 32 * 134217728 + (w / 4096 % 8 * 4096 + w % 128) := by
  rw [show (4160778367 : Nat) = 4160749568 ||| 28799 by decide, Nat.and_or_distrib_left, nandM, nand27, ← nor_add _ _ 27 (by omega)]
theorem band1 (h0 : 0 ≤ w) (h1 : w < 4294967296) : band w 127 = w % 128 := by
  unfold band; rw [show (127 : Int).toNat = 127 from rfl, nand7]; omega
theorem bandM (h0 : 0 ≤ w) (h1 : w < 4294967296) : band w 28799 = w % 128 + w / 4096 % 8 * 4096 := by
  unfold band; rw [show (28799 : Int).toNat = 28799 from rfl, nandM]; omega
theorem bandU (h0 : 0 ≤ w) (h1 : w < 4294967296) : band w 4261441663 = w % 128 + w / 4096 % 8 * 4096 + w / 33554432 * 33554432 := by
  unfold band; rw [show (4261441663 : Int).toNat = 4261441663 from rfl, nandU]; omega
theorem bandA (h0 : 0 ≤ w) (h1 : w < 4294967296) : band w 4160778367 = w % 128 + w / 4096 % 8 * 4096 + w / 134217728 * 134217728 := by
  unfold band; rw [show (4160778367 : Int).toNat = 4160778367 from rfl, nandA]; omega
theorem bandE (h0 : 0 ≤ w) (h1 : w < 4294967296) : band w 4294967295 = w := by
  unfold band; rw [show (4294967295 : Int).toNat = 2 ^ 32 - 1 from rfl, Nat.and_two_pow_sub_one_eq_mod]; omega

/-! ### The told bits -/
/-- A word's bits, as a form tells them. -/
def part (f w : Int) : Int :=
  if f = 1 ∨ f = 2 then w % 128 else if f = 3 ∨ f = 5 ∨ f = 6 then w % 128 + w / 4096 % 8 * 4096 else if f = 4 ∨ f = 7 then w % 128 + w / 4096 % 8 * 4096 + w / 33554432 * 33554432
  else if f = 8 then w % 128 + w / 4096 % 8 * 4096 + w / 134217728 * 134217728 else if f = 9 then w else 0
theorem band_part {f : Int} (h0 : 0 ≤ w) (h1 : w < 4294967296) : band w (mask f) = part f w := by
  unfold mask part
  split
  · exact band1 h0 h1
  split
  · exact bandM h0 h1
  split
  · exact bandU h0 h1
  split
  · exact bandA h0 h1
  split
  · exact bandE h0 h1
  · simp [band]
theorem frm_bd (k : Int) : 0 ≤ frm k ∧ frm k ≤ 9 := by
  unfold frm; repeat' split
  all_goals omega
theorem raw_of {up : Int} (h1 : w % 128 = lo) (h2 : w / 4096 % 8 = mi) (h3 : w / 33554432 = up) : raw w = rawOf w lo mi up := by subst h1 h2 h3; rfl
theorem raw_of1 (h1 : w % 128 = lo) : raw w = rawOf w lo (w / 4096 % 8) (w / 33554432) := by subst h1; rfl
theorem raw_of2 (h1 : w % 128 = lo) (h2 : w / 4096 % 8 = mi) : raw w = rawOf w lo mi (w / 33554432) := by subst h1 h2; rfl
theorem t1 {T : Int} (h : w % 128 = T) (e : ∀ a b, rawOf w T a b = k) : raw w = k := by rw [raw_of1 h]; exact e _ _
theorem t2 {T : Int} (h : w % 128 + w / 4096 % 8 * 4096 = T) (e : ∀ b, rawOf w (T % 128) (T / 4096 % 8) b = k) : raw w = k := by
  rw [raw_of2 (lo := T % 128) (mi := T / 4096 % 8) (by omega) (by omega)]; exact e _
theorem t3 {T : Int} (h : w % 128 + w / 4096 % 8 * 4096 + w / 33554432 * 33554432 = T) (e : rawOf w (T % 128) (T / 4096 % 8) (T / 33554432) = k) : raw w = k := by
  rw [raw_of (lo := T % 128) (mi := T / 4096 % 8) (up := T / 33554432) (by omega) (by omega) (by omega)]; exact e
theorem t4 {T : Int} (h : w % 128 + w / 4096 % 8 * 4096 + w / 134217728 * 134217728 = T) (e : ∀ b, b / 4 = T / 134217728 → rawOf w (T % 128) (T / 4096 % 8) b = k) : raw w = k := by
  rw [raw_of2 (lo := T % 128) (mi := T / 4096 % 8) (by omega) (by omega)]; exact e _ (by omega)
theorem t5 {T : Int} (h : w = T) (e : raw T = k) : raw w = k := by rw [h]; exact e
theorem told_raw (h0 : 0 ≤ w) (h1 : w < 4294967296) (hk : 1 ≤ k) (hk' : k ≤ 59) (h : part (frm k) w = tbits k) : raw w = k := by
  have hd : (k = 1 ∨ k = 2 ∨ k = 3) ∨ (k = 4 ∨ k = 5 ∨ k = 6 ∨ k = 7 ∨ k = 8 ∨ k = 9 ∨ k = 10 ∨ k = 11 ∨ k = 12 ∨ k = 13 ∨ k = 14 ∨ k = 15 ∨ k = 16 ∨ k = 17 ∨ k = 18 ∨ k = 19 ∨ k = 20 ∨ k = 21 ∨ k = 22 ∨ k = 23 ∨ k = 24 ∨ k = 57) ∨ (k = 25 ∨ k = 26 ∨ k = 27 ∨ k = 28 ∨ k = 29 ∨ k = 30 ∨ k = 31 ∨ k = 32 ∨ k = 33 ∨ k = 34 ∨ k = 35 ∨ k = 36 ∨ k = 37 ∨ k = 38 ∨ k = 39 ∨ k = 40 ∨ k = 41 ∨ k = 42 ∨ k = 43 ∨ k = 44 ∨ k = 45) ∨ (k = 46 ∨ k = 47 ∨ k = 48 ∨ k = 49 ∨ k = 50 ∨ k = 51 ∨ k = 52 ∨ k = 53 ∨ k = 54 ∨ k = 55 ∨ k = 56) ∨ (k = 58 ∨ k = 59) := by omega
  rcases hd with hd | hd | hd | hd | hd
  · rcases hd with rfl | rfl | rfl <;> exact t1 h fun _ _ => rfl
  · rcases hd with rfl | rfl | rfl | rfl | rfl | rfl | rfl | rfl | rfl | rfl | rfl | rfl | rfl | rfl | rfl | rfl | rfl | rfl | rfl | rfl | rfl | rfl <;> exact t2 h fun _ => rfl
  · rcases hd with rfl | rfl | rfl | rfl | rfl | rfl | rfl | rfl | rfl | rfl | rfl | rfl | rfl | rfl | rfl | rfl | rfl | rfl | rfl | rfl | rfl <;> exact t3 h rfl
  · rcases hd with rfl | rfl | rfl | rfl | rfl | rfl | rfl | rfl | rfl | rfl | rfl <;> exact t4 h fun b hb => by show pk (b / 4) lA = _; rw [hb]; rfl
  · rcases hd with rfl | rfl <;> exact t5 h (by decide)
/-- What is told by a list: none, or one of it. -/
theorem pk_cases {n : Int} {P : Int → Prop} : (l : List (Int × Int)) → (h0 : P 0) → (∀ x ∈ l, n = x.1 → P x.2) → P (pk n l)
  | [], h0, _ => h0
  | (a, o) :: r, h0, h => by
    unfold pk
    split
    · exact h (a, o) (by simp) ‹_›
    · exact pk_cases r h0 fun x hx => h x (by simp [hx])
/-- The first and the last op that the lowest bits leave. -/
def sp1 (lo : Int) : Int := if lo = 55 then 1 else if lo = 23 then 2 else if lo = 111 then 3 else if lo = 103 then 4 else if lo = 99 then 5 else if lo = 3 then 11 else if lo = 35 then 16 else if lo = 19 then 19 else if lo = 51 then 28 else if lo = 47 then 46 else if lo = 15 then 57 else if lo = 115 then 58 else 0
def sp2 (lo : Int) : Int := if lo = 55 then 1 else if lo = 23 then 2 else if lo = 111 then 3 else if lo = 103 then 4 else if lo = 99 then 10 else if lo = 3 then 15 else if lo = 35 then 18 else if lo = 19 then 27 else if lo = 51 then 45 else if lo = 47 then 56 else if lo = 15 then 57 else if lo = 115 then 59 else -1
def Q (w k : Int) : Prop := k ≠ 0 → part (frm k) w = tbits k ∧ 1 ≤ k ∧ k ≤ 59 ∧ sp1 (w % 128) ≤ k ∧ k ≤ sp2 (w % 128)
theorem Q0 (w : Int) : Q w 0 := fun h => absurd rfl h
theorem q_ {L : Int} (hl : w % 128 = L) (hp : part (frm k) w = tbits k) (hb : 1 ≤ k ∧ k ≤ 59 ∧ sp1 L ≤ k ∧ k ≤ sp2 L) : Q w k := fun _ => by subst hl; exact ⟨hp, hb⟩
theorem qM {L M : Int} (hl : w % 128 = L) (hm : w / 4096 % 8 = M) (f : ∀ v, part (frm k) v = v % 128 + v / 4096 % 8 * 4096) (e : L + M * 4096 = tbits k) (hb : 1 ≤ k ∧ k ≤ 59 ∧ sp1 L ≤ k ∧ k ≤ sp2 L) : Q w k :=
  q_ hl (by rw [f, hl, hm]; exact e) hb
theorem qU {L M U : Int} (hl : w % 128 = L) (hm : w / 4096 % 8 = M) (hu : w / 33554432 = U) (f : ∀ v, part (frm k) v = v % 128 + v / 4096 % 8 * 4096 + v / 33554432 * 33554432) (e : L + M * 4096 + U * 33554432 = tbits k) (hb : 1 ≤ k ∧ k ≤ 59 ∧ sp1 L ≤ k ∧ k ≤ sp2 L) : Q w k :=
  q_ hl (by rw [f, hl, hm, hu]; exact e) hb
theorem qA {L M U : Int} (hl : w % 128 = L) (hm : w / 4096 % 8 = M) (hu : w / 33554432 / 4 = U) (f : ∀ v, part (frm k) v = v % 128 + v / 4096 % 8 * 4096 + v / 134217728 * 134217728) (e : L + M * 4096 + U * 134217728 = tbits k) (hb : 1 ≤ k ∧ k ≤ 59 ∧ sp1 L ≤ k ∧ k ≤ sp2 L) : Q w k :=
  q_ hl (by rw [f, hl, hm, show w / 134217728 = U by omega]; exact e) hb
theorem raw_told (h0 : 0 ≤ w) (h1 : w < 4294967296) : Q w (raw w) := by
  unfold raw rawOf
  by_cases hl : w % 128 = 55
  · rw [if_pos hl]
    exact q_ hl hl (by decide)
  rw [if_neg hl]; clear hl
  by_cases hl : w % 128 = 23
  · rw [if_pos hl]
    exact q_ hl hl (by decide)
  rw [if_neg hl]; clear hl
  by_cases hl : w % 128 = 111
  · rw [if_pos hl]
    exact q_ hl hl (by decide)
  rw [if_neg hl]; clear hl
  by_cases hl : w % 128 = 103
  · rw [if_pos hl]
    refine pk_cases [(0, 4)] (Q0 w) fun x hx hn => ?_
    simp only [List.mem_cons, List.not_mem_nil, or_false] at hx
    subst hx
    exact qM hl hn (fun _ => rfl) rfl (by decide)
  rw [if_neg hl]; clear hl
  by_cases hl : w % 128 = 99
  · rw [if_pos hl]
    refine pk_cases lB (Q0 w) fun x hx hn => ?_
    simp only [lB, List.mem_cons, List.not_mem_nil, or_false] at hx
    rcases hx with rfl | rfl | rfl | rfl | rfl | rfl <;> exact qM hl hn (fun _ => rfl) rfl (by decide)
  rw [if_neg hl]; clear hl
  by_cases hl : w % 128 = 3
  · rw [if_pos hl]
    refine pk_cases lL (Q0 w) fun x hx hn => ?_
    simp only [lL, List.mem_cons, List.not_mem_nil, or_false] at hx
    rcases hx with rfl | rfl | rfl | rfl | rfl <;> exact qM hl hn (fun _ => rfl) rfl (by decide)
  rw [if_neg hl]; clear hl
  by_cases hl : w % 128 = 35
  · rw [if_pos hl]
    refine pk_cases lS (Q0 w) fun x hx hn => ?_
    simp only [lS, List.mem_cons, List.not_mem_nil, or_false] at hx
    rcases hx with rfl | rfl | rfl <;> exact qM hl hn (fun _ => rfl) rfl (by decide)
  rw [if_neg hl]; clear hl
  by_cases hl : w % 128 = 19
  · rw [if_pos hl]
    by_cases hm : w / 4096 % 8 = 1 ∨ w / 4096 % 8 = 5
    · rw [if_pos hm]
      refine pk_cases lH (Q0 w) fun x hx hn => ?_
      simp only [lH, List.mem_cons, List.not_mem_nil, or_false] at hx
      rcases hx with rfl | rfl | rfl
      · exact qU (M := 1) (U := 0) hl (by simp only at hn; omega) (by simp only at hn; omega) (fun _ => rfl) rfl (by decide)
      · exact qU (M := 5) (U := 0) hl (by simp only at hn; omega) (by simp only at hn; omega) (fun _ => rfl) rfl (by decide)
      · exact qU (M := 5) (U := 32) hl (by simp only at hn; omega) (by simp only at hn; omega) (fun _ => rfl) rfl (by decide)
    · rw [if_neg hm]
      refine pk_cases lI (Q0 w) fun x hx hn => ?_
      simp only [lI, List.mem_cons, List.not_mem_nil, or_false] at hx
      rcases hx with rfl | rfl | rfl | rfl | rfl | rfl <;> exact qM hl hn (fun _ => rfl) rfl (by decide)
  rw [if_neg hl]; clear hl
  by_cases hl : w % 128 = 51
  · rw [if_pos hl]
    by_cases hu : w / 33554432 = 0
    · rw [if_pos hu]
      refine pk_cases lR0 (Q0 w) fun x hx hn => ?_
      simp only [lR0, List.mem_cons, List.not_mem_nil, or_false] at hx
      rcases hx with rfl | rfl | rfl | rfl | rfl | rfl | rfl | rfl <;> exact qU hl hn hu (fun _ => rfl) rfl (by decide)
    rw [if_neg hu]; clear hu
    by_cases hu : w / 33554432 = 32
    · rw [if_pos hu]
      refine pk_cases lR32 (Q0 w) fun x hx hn => ?_
      simp only [lR32, List.mem_cons, List.not_mem_nil, or_false] at hx
      rcases hx with rfl | rfl <;> exact qU hl hn hu (fun _ => rfl) rfl (by decide)
    rw [if_neg hu]; clear hu
    by_cases hu : w / 33554432 = 1
    · rw [if_pos hu]
      refine pk_cases lR1 (Q0 w) fun x hx hn => ?_
      simp only [lR1, List.mem_cons, List.not_mem_nil, or_false] at hx
      rcases hx with rfl | rfl | rfl | rfl | rfl | rfl | rfl | rfl <;> exact qU hl hn hu (fun _ => rfl) rfl (by decide)
    rw [if_neg hu]; clear hu
    exact Q0 w
  rw [if_neg hl]; clear hl
  by_cases hl : w % 128 = 47
  · rw [if_pos hl]
    by_cases hm : w / 4096 % 8 = 2
    · rw [if_pos hm]
      refine pk_cases lA (Q0 w) fun x hx hn => ?_
      simp only [lA, List.mem_cons, List.not_mem_nil, or_false] at hx
      rcases hx with rfl | rfl | rfl | rfl | rfl | rfl | rfl | rfl | rfl | rfl | rfl <;> exact qA hl hm hn (fun _ => rfl) rfl (by decide)
    rw [if_neg hm]; exact Q0 w
  rw [if_neg hl]; clear hl
  by_cases hl : w % 128 = 15
  · rw [if_pos hl]
    refine pk_cases [(0, 57)] (Q0 w) fun x hx hn => ?_
    simp only [List.mem_cons, List.not_mem_nil, or_false] at hx
    subst hx
    exact qM hl hn (fun _ => rfl) rfl (by decide)
  rw [if_neg hl]; clear hl
  by_cases hl : w % 128 = 115
  · rw [if_pos hl]
    refine pk_cases lE (Q0 w) fun x hx hn => ?_
    simp only [lE, List.mem_cons, List.not_mem_nil, or_false] at hx
    rcases hx with rfl | rfl <;> exact q_ hl hn (by decide)
  rw [if_neg hl]; clear hl
  exact Q0 w
/-- A word's told bits are an op's just where that op is told. -/
theorem told_iff (h0 : 0 ≤ w) (h1 : w < 4294967296) (hk : 1 ≤ k) (hk' : k ≤ 59) : band w (mask (frm k)) = tbits k ↔ raw w = k := by
  rw [band_part h0 h1]
  refine ⟨told_raw h0 h1 hk hk', fun h => ?_⟩
  have := (raw_told h0 h1 (by omega)).1
  rwa [h] at this
theorem raw_bd (h0 : 0 ≤ w) (h1 : w < 4294967296) : 0 ≤ raw w ∧ raw w ≤ 59 := by
  by_cases h : raw w = 0
  · omega
  · have := raw_told h0 h1 h; omega
end Go.Proofs.Ythgnfmbnbndeeac.Dc
/-
  One step of a hart, as plain data: no program in sight.
-/
namespace Go.Proofs.Ythgnfmbnbndeeac.Hh
open Mm Wd
set_option linter.unusedVariables false

/-- What an instruction that takes a number reckons. -/
def opn (op : Int) : Int := if op = 19 then 28 else if op = 20 then 31 else if op = 21 then 32 else if op = 22 then 33 else if op = 23 then 36 else if op = 24 then 37 else if op = 25 then 30 else if op = 26 then 34 else 35
/-- What an instruction did, but for its jump and Rd: the hart, the memory, what came out, where was stored and how many bytes, and what Rd becomes. -/
structure Ev where
  h : Hv
  m : List UInt8
  out : List Int
  sto : List (Int × Int)
  res : Option Int
def efLoad (h : Hv) (l : List UInt8) (op at' : Int) : Ev := if ldOk l op at' = true then ⟨h, l, [], [], some (ldV l op at')⟩ else ⟨h.trap 3, l, [], [], none⟩
def efStore (h : Hv) (l : List UInt8) (op at' b : Int) : Ev := if stOk l op at' = true then ⟨h, stL l op at' b, [], [(at', (ssz op : Nat))], none⟩ else ⟨h.trap 4, l, [], [], none⟩
def efLr (h : Hv) (l : List UInt8) (a : Int) : Ev := if ldOk l 13 a = true then ⟨h.hold true a, l, [], [], some (ldV l 13 a)⟩ else ⟨h.trap 3, l, [], [], none⟩
def efSc (h : Hv) (l : List UInt8) (a b : Int) : Ev := if ldOk l 13 a = true then (if h.held = true ∧ h.heldAt = a then ⟨h.hold false 0, stL l 18 a b, [], [(a, 4)], some 0⟩ else ⟨h.hold false 0, l, [], [], some 1⟩) else ⟨h.trap 4, l, [], [], none⟩
def efAmo (h : Hv) (l : List UInt8) (op a b : Int) : Ev := if ldOk l 13 a = true then ⟨h, stL l 18 a (amo op (ldV l 13 a) b), [], [(a, 4)], some (ldV l 13 a)⟩ else ⟨h.trap 4, l, [], [], none⟩
def efAtom (h : Hv) (l : List UInt8) (op a b : Int) : Ev := if op = 46 then efLr h l a else if op = 47 then efSc h l a b else efAmo h l op a b
def efCall (h : Hv) (l : List UInt8) : Ev := if rg h 17 = 0 then ⟨h.halt, l, [], [], none⟩ else if rg h 17 = 1 then ⟨h, l, [rg h 10], [], none⟩ else ⟨h.trap 5, l, [], [], none⟩
/-- All of an instruction but its jump and Rd. -/
def eff (h : Hv) (l : List UInt8) (op a b n : Int) : Ev :=
  if op = 1 then ⟨h, l, [], [], some n⟩ else if op = 2 then ⟨h, l, [], [], some (lo (h.pc + n))⟩ else if op = 3 ∨ op = 4 then ⟨h, l, [], [], some (lo (h.pc + 4))⟩
  else if 11 ≤ op ∧ op ≤ 15 then efLoad h l op (lo (a + n)) else if 16 ≤ op ∧ op ≤ 18 then efStore h l op (lo (a + n)) b
  else if 19 ≤ op ∧ op ≤ 27 then ⟨h, l, [], [], some (alu (opn op) a n)⟩ else if 28 ≤ op ∧ op ≤ 45 then ⟨h, l, [], [], some (alu op a b)⟩
  else if 46 ≤ op ∧ op ≤ 56 then efAtom h l op a b else if op = 58 then efCall h l else if op = 59 then ⟨h.trap 6, l, [], [], none⟩ else ⟨h, l, [], [], none⟩
/-- Where the hart goes on. -/
def nxt (h : Hv) (op a b n : Int) : Int := if op = 4 then lo (a + n) - lo (a + n) % 2 else if op = 3 ∨ holds op a b = true then lo (h.pc + n) else lo (h.pc + 4)
/-- A step: the hart, the memory, what came out, where was stored. -/
structure Sv where
  h : Hv
  m : List UInt8
  out : List Int
  sto : List (Int × Int)
def Hv.put (h : Hv) (rd : Nat) : Option Int → Hv
  | some x => h.set rd x
  | none => h
def Hv.on (h : Hv) (x : Int) : Hv := if h.state = 0 then h.go x else h
def done (e : Ev) (rd : Nat) (nx : Int) : Sv := ⟨(e.h.put rd e.res).on nx, e.m, e.out, e.sto⟩
/-- An instruction. -/
def ins (h : Hv) (l : List UInt8) (op rd r1 r2 im : Int) : Sv :=
  done (eff h l op (rg h r1.toNat) (rg h r2.toNat) (lo im)) rd.toNat (nxt h op (rg h r1.toNat) (rg h r2.toNat) (lo im))
/-- The instruction that a word is. -/
def insW (h : Hv) (l : List UInt8) (x : Int) : Sv :=
  if Dc.dop x = 0 then ⟨h.trap 2, l, [], []⟩ else ins h l (Dc.dop x) (Dc.rdF (Dc.frm (Dc.dop x)) x) (Dc.rs1F (Dc.frm (Dc.dop x)) x) (Dc.rs2F (Dc.frm (Dc.dop x)) x) (Dc.immF (Dc.frm (Dc.dop x)) x)
/-- One step of a hart that runs. -/
def stp (h : Hv) (l : List UInt8) : Sv := if ldOk l 13 h.pc = true then insW h l (ldV l 13 h.pc) else ⟨h.trap 1, l, [], []⟩
/-- It may be. -/
def may (h : Hv) : Bool := decide (rg h 0 = 0 ∧ (h.held = false → h.heldAt = 0) ∧ (((h.state = 0 ∨ h.state = 1) ∧ h.cause = 0) ∨ (h.state = 2 ∧ 1 ≤ h.cause ∧ h.cause ≤ 6)))
end Go.Proofs.Ythgnfmbnbndeeac.Hh
