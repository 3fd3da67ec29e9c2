/-
  Bytes, and what the document says of loads and stores, as plain lists and whole numbers; and the words 'this slice reads as these bytes in this world' ('Mem') and 'memory was made, nothing old has turned' ('Gr').
-/
import Derived.Test.YtdiofidmlgliiaaDoorA0
import Derived.Test.YtdiofidmlgliiaaDoorRows
import Derived.WalkKit
import Derived.ProofKit
import Derived.OpenShut
import Derived.RowKit3
import Derived.Laws.CopyOwn
import Derived.Laws.IdiomStrings
import Derived.Deep.QuietTactic
import Derived.BigQuiet
namespace Go.Proofs.YtdiofidmlgliiaaDoor.Mm
open Go.ChangeShapes Go.WideShapes Go.ChangeAt Go.RowKit
set_option linter.unusedVariables false

variable {l : List UInt8} {a w w' : World} {b n o g t m : Nat} {ao : Option Addr} {op : Int}
/-- Byte i, as a number. -/
def bv (l : List UInt8) (i : Nat) : Int := ((l.getD i 0).toNat : Int)
theorem bv_bd (l : List UInt8) (i : Nat) : 0 ≤ bv l i ∧ bv l i ≤ 255 := by
  unfold bv; have := (l.getD i 0).toNat_lt; omega
theorem bv_of {i : Nat} (h : i < l.length) : (l[i].toNat : Int) = bv l i := by
  unfold bv; simp [List.getD, h]
theorem ext_bv {a b : List UInt8} (h : a.length = b.length) (hb : ∀ i, i < a.length → bv a i = bv b i) : a = b := by
  refine List.ext_getElem h fun i h1 h2 => ?_
  have := hb i h1
  rw [← bv_of h1, ← bv_of h2] at this
  exact UInt8.toNat_inj.1 (by omega)
/-- How many bytes a load asks for; a store. -/
def lsz (op : Int) : Nat := if op = 11 ∨ op = 14 then 1 else if op = 12 ∨ op = 15 then 2 else if op = 13 then 4 else 0
def ssz (op : Int) : Nat := if op = 16 then 1 else if op = 17 then 2 else if op = 18 then 4 else 0
/-- Do n bytes stand at place a, in a memory of m bytes? -/
def thr (m n : Nat) (a : Int) : Bool := decide (0 < n ∧ a % (n : Int) = 0 ∧ a + n ≤ m)
/-- n bytes from place a on, as a number, the lowest one first. -/
def raw (l : List UInt8) (a : Nat) : Nat → Int
  | 0 => 0
  | n + 1 => raw l a n + bv l (a + n) * 256 ^ n
def wide (op x : Int) : Int := if op = 11 then (if x < 128 then x else x + 4294967040) else if op = 12 then (if x < 32768 then x else x + 4294901760) else x
def ldOk (l : List UInt8) (op a : Int) : Bool := thr l.length (lsz op) a
def ldV (l : List UInt8) (op a : Int) : Int := if ldOk l op a = true then wide op (raw l a.toNat (lsz op)) else 0
/-- w's lowest n bytes laid from place a on. -/
def put (l : List UInt8) (a : Nat) (w : Int) : Nat → List UInt8
  | 0 => l
  | n + 1 => (put l a w n).set (a + n) (UInt8.ofNat (w / 256 ^ n % 256).toNat)
def stOk (l : List UInt8) (op a : Int) : Bool := thr l.length (ssz op) a
def stL (l : List UInt8) (op a w : Int) : List UInt8 := if stOk l op a = true then put l a.toNat w (ssz op) else []

theorem lsz_le (op : Int) : lsz op ≤ 4 := by unfold lsz; split <;> (try split) <;> (try split) <;> omega
theorem ssz_le (op : Int) : ssz op ≤ 4 := by unfold ssz; split <;> (try split) <;> (try split) <;> omega
theorem len_put (l : List UInt8) (a : Nat) (w : Int) : ∀ n, (put l a w n).length = l.length
  | 0 => rfl
  | n + 1 => by simp [put, len_put l a w n]
theorem bv_put (l : List UInt8) (a : Nat) (w : Int) : ∀ n i, i < l.length → bv (put l a w n) i = if a ≤ i ∧ i < a + n then w / 256 ^ (i - a) % 256 else bv l i
  | 0, i, hi => by rw [if_neg (by omega)]; rfl
  | n + 1, i, hi => by
    have ih := bv_put l a w n i hi
    unfold bv at ih ⊢
    unfold put
    by_cases h : i = a + n
    · subst h
      rw [if_pos (by omega)]
      simp only [List.getD, List.getElem?_set, len_put]
      simp only [hi, if_true, Option.getD_some]
      have hm : (0 : Int) ≤ w / 256 ^ n % 256 ∧ w / 256 ^ n % 256 < 256 := by omega
      rw [UInt8.toNat_ofNat', Nat.add_sub_cancel_left]
      omega
    · simp only [List.getD, List.getElem?_set] at ih ⊢
      rw [if_neg (by omega), ih]
      by_cases h2 : a ≤ i ∧ i < a + n
      · rw [if_pos h2, if_pos (by omega)]
      · rw [if_neg h2, if_neg (by omega)]
theorem raw_bd (l : List UInt8) (a : Nat) : ∀ n, 0 ≤ raw l a n ∧ raw l a n < 256 ^ n
  | 0 => by simp [raw]
  | n + 1 => by
    have h := raw_bd l a n
    have hb := bv_bd l (a + n)
    have hp : (0 : Int) < 256 ^ n := Int.pow_pos (by omega)
    have h1 : bv l (a + n) * 256 ^ n ≤ 255 * 256 ^ n := Int.mul_le_mul_of_nonneg_right hb.2 (by omega)
    have h0 : 0 ≤ bv l (a + n) * 256 ^ n := Int.mul_nonneg hb.1 (by omega)
    unfold raw
    rw [Int.pow_succ]
    omega

/-- Memory was made, or an order drawn; of what was there nothing has turned. -/
def Gr (w w' : World) : Prop := Below w.heap.size w w'
theorem Gr.refl (w : World) : Gr w w := Below.refl _ _
theorem Gr.size (h : Gr w w') : w.heap.size ≤ w'.heap.size := Below.size h
theorem Gr.trans {b c : World} (h : Gr a b) (k : Gr b c) : Gr a c := Below.trans h (Below.mono k h.size)
theorem Gr.alloc (h : Gr a w) (o : Obj) : Gr a (w.alloc o) := Below.alloc h h.size _
theorem Gr.setCell (h : Gr a w) {p : Addr} (hp : a.heap.size ≤ p.block) (v : Value) : Gr a (w.setCell p v) := Below.setCell h hp v
theorem Gr.drewN (h : Gr a w) (n : Nat) : Gr a (w.drewN n) := Below.trans h ⟨rfl, rfl, rfl, Nat.le_refl _, fun _ _ => rfl⟩
theorem Gr.grown {row : Option Nat} (h : Gr a w) (g : w.grownBy w' row) (hr : ∀ k, row = some k → a.heap.size ≤ k) : Gr a w' := Below.grown h g h.size hr
theorem Gr.cell (h : Gr w w') (p : Addr) (hb : p.block < w.heap.size) : w'.cell? p = w.cell? p := Below.cell h hb

theorem add_at (b o t : Nat) : (⟨b, o, none⟩ : Addr).add t = ⟨b, o + t, none⟩ := by unfold Addr.add; split <;> simp_all
/-- In world w, the slice at ao of n elements reads as the bytes l. -/
structure Mem (w : World) (ao : Option Addr) (n : Nat) (l : List UInt8) : Prop where
  len : l.length = n
  nil : ao = none → n = 0
  cell : ∀ ad, ao = some ad → ∀ t, t < n → w.cell? (ad.add t) = some (.int .u8 (bv l t))
theorem Mem.of (h : Mem w ao n l) (g : Gr w w') : Mem w' ao n l :=
  ⟨h.len, h.nil, fun ad e t ht => (g.cell _ (World.block_lt_of_cell? w _ (h.cell ad e t ht))).trans (h.cell ad e t ht)⟩
theorem add_block (ad : Addr) (t : Nat) : (ad.add t).block = ad.block := by unfold Addr.add; split <;> rfl
theorem Mem.apart (h : Mem w ao n l) (e : ∀ ad, ao = some ad → w'.heap[ad.block]? = w.heap[ad.block]?) : Mem w' ao n l :=
  ⟨h.len, h.nil, fun ad q t ht => (World.cell?_of_block (by rw [add_block]; exact e ad q)).trans (h.cell ad q t ht)⟩
theorem Mem.spot (h : Mem w ao n l) (hn : 0 < n) :
    ∃ b o, ao = some ⟨b, o, none⟩ ∧ b < w.heap.size ∧ ∀ t, t < n → w.cell? ⟨b, o + t, none⟩ = some (.int .u8 (bv l t)) := by
  cases ao with
  | none => exact absurd (h.nil rfl) (by omega)
  | some ad =>
    obtain ⟨b, o, s⟩ := ad
    have hs : s = none := by simpa [Addr.add] using World.cell?_spot (h.cell _ rfl 0 hn)
    subst hs
    have hb : b < w.heap.size := by simpa [Addr.add] using World.block_lt_of_cell? w _ (h.cell _ rfl 0 hn)
    exact ⟨b, o, rfl, hb, fun t ht => by rw [← add_at]; exact h.cell _ rfl t ht⟩
theorem Mem.at (hl : l.length = n) (h : ∀ t, t < n → w.cell? ⟨b, o + t, none⟩ = some (.int .u8 (bv l t))) : Mem w (some ⟨b, o, none⟩) n l :=
  ⟨hl, fun e => (by cases e), fun ad e t ht => by obtain rfl := Option.some.inj e; rw [add_at]; exact h t ht⟩
theorem Mem.none (w : World) : Mem w none 0 [] := ⟨rfl, fun _ => rfl, fun ad e => (by cases e)⟩

/-- Byte cells. -/
def bc (l : List UInt8) : List Value := l.map fun b => Value.int .u8 (b.toNat : Int)
theorem bc_get {j : Nat} {u : Value} (h : (bc l)[j]? = some u) : j < l.length ∧ u = .int .u8 (bv l j) := by
  unfold bc at h
  rw [List.getElem?_map] at h
  cases hj : l[j]? with
  | none => simp [hj] at h
  | some b =>
    rw [hj] at h
    obtain ⟨hlt, hb⟩ := List.getElem?_eq_some_iff.1 hj
    refine ⟨hlt, ?_⟩
    rw [← bv_of hlt, hb]
    simpa using h.symm
theorem bc_one (l : List UInt8) : ∀ u ∈ bc l, u.oneCell' = true := by
  intro u hu
  obtain ⟨b, _, rfl⟩ := List.mem_map.1 hu
  rfl
/-- Block g is a row of the program's own that begins with the bytes l. -/
def Row (w : World) (g : Nat) (l : List UInt8) : Prop := ∃ rest : List Value, w.heap[g]? = some (.cells (bc l ++ rest).toArray 5 (0, 0))
theorem Row.cell (h : Row w g l) (ht : t < l.length) : w.cell? ⟨g, t, none⟩ = some (.int .u8 (bv l t)) := by
  obtain ⟨rest, hg⟩ := h
  rw [cell_of_row w g t _ _ (0, 0) hg]
  have h1 : t < (bc l).length := by simpa [bc] using ht
  rw [List.getElem?_toArray, List.getElem?_append_left h1]
  have h2 := List.getElem?_eq_getElem h1
  rw [h2, (bc_get h2).2]
theorem Row.frozen (h : Row w g l) (t : Nat) : w.frozen? ⟨g, t, none⟩ = false := by
  obtain ⟨rest, hg⟩ := h
  simp [World.frozen?, hg]
theorem Row.lt (h : Row w g l) : g < w.heap.size := by
  obtain ⟨rest, hg⟩ := h
  exact (gs hg).1
theorem Row.set (h : Row w g l) (ht : t < l.length) (v : Int) (h0 : 0 ≤ v) (h1 : v < 256) :
    Row (w.setCell ⟨g, t, none⟩ (.int .u8 v)) g (l.set t (UInt8.ofNat v.toNat)) := by
  obtain ⟨rest, hg⟩ := h
  refine ⟨rest, ?_⟩
  rw [heap_setCell_same w g t _ _ _ hg]
  have h2 : t < (bc l).length := by simpa [bc] using ht
  have e : (UInt8.ofNat v.toNat).toNat = v.toNat := by rw [UInt8.toNat_ofNat']; omega
  have e2 : (((UInt8.ofNat v.toNat).toNat : Nat) : Int) = v := by rw [e]; omega
  have e3 : bc (l.set t (UInt8.ofNat v.toNat)) = (bc l).set t (.int .u8 v) := by
    unfold bc; rw [List.map_set]; simp only [e2]
  rw [e3]
  simp [List.set_append_left _ _ h2]
theorem Row.mem (h : Row w g l) : Mem w (some ⟨g, 0, none⟩) l.length l :=
  Mem.at rfl fun t ht => by rw [Nat.zero_add]; exact h.cell ht
theorem Row.own {base e cap : Nat} (he : e = 5) (h : w.ownsRow base e 1 (.slice (some ⟨g, 0, none⟩) n cap) n (bc l)) : Row w g l := by
  subst he
  obtain ⟨_, hc⟩ := h
  rcases hc with ⟨h0, _⟩ | ⟨g', cap', cur, hv, hb, hg, hn, hm, hs, htake⟩
  · cases h0
  · simp only [Value.slice.injEq, Option.some.injEq, Addr.mk.injEq, true_and, and_true] at hv
    obtain ⟨rfl, rfl⟩ := hv
    refine ⟨cur.toList.drop (n * 1), ?_⟩
    rw [← htake, List.take_append_drop]
    simpa using hg
theorem info5 : (Tryd.prog.info? 5).map (fun i => (i.zero, i.size, i.bytes)) = some (some (.int .u8 0), 1, 1) := by kernel_rfl

theorem ret_int {k : IntKind} {a b : Int} (h : a = b) : Ending.returned (.int k a) = .returned (.int k b) := by rw [h]
theorem ret_bool {a b : Bool} (h : a = b) : Ending.returned (.bool a) = .returned (.bool b) := by rw [h]
theorem thr_t {a : Int} (h0 : 0 < n) (h1 : a % (n : Int) = 0) (h2 : a + n ≤ m) : true = thr m n a := by simp [thr, h0, h1, h2]
theorem thr_f {a : Int} (h : ¬ (0 < n ∧ a % (n : Int) = 0 ∧ a + n ≤ m)) : false = thr m n a := by simp only [thr]; rw [decide_eq_false h]
theorem wrap_i8 (x : Int) (h0 : 0 ≤ x) (h1 : x < 256) : IntKind.i8.wrap x % 4294967296 = if x < 128 then x else x + 4294967040 := by
  have e : IntKind.i8.wrap x = if 128 ≤ x % 256 then x % 256 - 256 else x % 256 := by simp [IntKind.wrap, IntKind.bits, IntKind.signed]
  rw [e]
  repeat' split
  all_goals omega
theorem wrap_i16 (x : Int) (h0 : 0 ≤ x) (h1 : x < 65536) : IntKind.i16.wrap x % 4294967296 = if x < 32768 then x else x + 4294901760 := by
  have e : IntKind.i16.wrap x = if 32768 ≤ x % 65536 then x % 65536 - 65536 else x % 65536 := by simp [IntKind.wrap, IntKind.bits, IntKind.signed]
  rw [e]
  repeat' split
  all_goals omega
theorem ofInt32 (a : Nat) (h : (a : Int) < 4294967296) : (BitVec.ofInt 32 (a : Int)).toNat = a := by
  rw [BitVec.toNat_ofInt]; omega
theorem or_byte (x y : Int) (k : Nat) (hk : k < 4) (h0 : 0 ≤ x) (h1 : x < 256 ^ k) (hy : 0 ≤ y) (hy' : y ≤ 255) : bits .or .u32 x (y * 2 ^ (8 * k) % 4294967296) = x + y * 256 ^ k := by
  obtain ⟨x, rfl⟩ := Int.eq_ofNat_of_zero_le h0
  obtain ⟨y, rfl⟩ := Int.eq_ofNat_of_zero_le hy
  have e1 : (256 : Int) ^ k = ((2 ^ (8 * k) : Nat) : Int) := by
    rw [Nat.pow_mul]; simp
  have hx : x < 2 ^ (8 * k) := by rw [e1] at h1; exact_mod_cast h1
  have hp : 2 ^ (8 * k) * 256 ≤ 4294967296 := by
    have : 2 ^ (8 * k) ≤ 2 ^ (8 * 3) := Nat.pow_le_pow_right (by omega) (by omega)
    omega
  have hpp : 0 < 2 ^ (8 * k) := Nat.two_pow_pos _
  have hyb : y * 2 ^ (8 * k) ≤ 255 * 2 ^ (8 * k) := Nat.mul_le_mul_right _ (by omega)
  have hor : 2 ^ (8 * k) * y + x = 2 ^ (8 * k) * y ||| x := Nat.two_pow_add_eq_or_of_lt hx y
  have e2 : ((y : Int) * 2 ^ (8 * k) % 4294967296) = ((y * 2 ^ (8 * k) : Nat) : Int) := by
    have : ((y : Int) * 2 ^ (8 * k)) = ((y * 2 ^ (8 * k) : Nat) : Int) := by simp
    rw [this]; omega
  rw [e2, e1]
  show IntKind.u32.wrap ((BitVec.ofInt 32 (x : Int) ||| BitVec.ofInt 32 ((y * 2 ^ (8 * k) : Nat) : Int)).toNat : Int) = _
  rw [BitVec.toNat_or, ofInt32 x (by omega), ofInt32 _ (by omega), Nat.or_comm, Nat.mul_comm y, ← hor]
  show (((2 ^ (8 * k) * y + x : Nat) : Int)) % 4294967296 = _
  rw [Nat.mul_comm] at hyb
  rw [show ((y : Int) * ((2 ^ (8 * k) : Nat) : Int)) = ((2 ^ (8 * k) * y : Nat) : Int) by push_cast; rw [Int.mul_comm]]
  generalize 2 ^ (8 * k) * y = z at *
  generalize 2 ^ (8 * k) = p at *
  omega
theorem lsz_room {a : Nat} (h : (a : Int) % (lsz op : Nat) = 0) (ha : a < 4294967296) (h0 : 0 < lsz op) : a + lsz op ≤ 4294967296 := by
  have : lsz op = 1 ∨ lsz op = 2 ∨ lsz op = 4 := by
    have hh : lsz op ≠ 0 := by omega
    clear h h0
    unfold lsz at hh ⊢
    repeat' split
    all_goals simp_all
  rcases this with e | e | e <;> rw [e] at h ⊢ <;> omega
theorem raw_cap (l : List UInt8) (a : Nat) (op : Int) : raw l a (lsz op) < 4294967296 ∧ (op = 11 → raw l a (lsz op) < 256) ∧ (op = 12 → raw l a (lsz op) < 65536) := by
  have h := (raw_bd l a (lsz op)).2
  have q : 256 ^ lsz op ≤ 256 ^ 4 := Nat.pow_le_pow_right (show 0 < 256 by omega) (lsz_le op)
  have p : (256 : Int) ^ lsz op ≤ 4294967296 := by
    rw [show (256 : Int) ^ lsz op = ((256 ^ lsz op : Nat) : Int) by simp]
    omega
  refine ⟨by omega, fun e => ?_, fun e => ?_⟩
  · subst e; exact h
  · subst e; exact h
theorem thr_pos {s : Nat} {a : Int} (h : thr n s a = true) (h0 : 0 ≤ a) : 0 < n := by
  simp only [thr, decide_eq_true_eq] at h
  omega
theorem ssz_room {a : Nat} (h : (a : Int) % (ssz op : Nat) = 0) (ha : a < 4294967296) (h0 : 0 < ssz op) : a + ssz op ≤ 4294967296 := by
  have : ssz op = 1 ∨ ssz op = 2 ∨ ssz op = 4 := by
    have hh : ssz op ≠ 0 := by omega
    clear h h0
    unfold ssz at hh ⊢
    repeat' split
    all_goals simp_all
  rcases this with e | e | e <;> rw [e] at h ⊢ <;> omega
theorem made_row {w0 : World} {xs : List Value} (h : w0.ownsRow w.heap.size 5 1 (.slice (some ⟨w.heap.size, 0, none⟩) n n) n xs) :
    ∃ cur : List Value, cur.length = n ∧ w0.heap[w.heap.size]? = some (.cells cur.toArray 5 (0, 0)) := by
  obtain ⟨_, hc⟩ := h
  rcases hc with ⟨h0, _⟩ | ⟨g', cap', cur, hv, hb, hg, hn, hm, hs, htake⟩
  · cases h0
  · simp only [Value.slice.injEq, Option.some.injEq, Addr.mk.injEq, true_and, and_true] at hv
    obtain ⟨e, rfl⟩ := hv
    rw [← e] at hg
    exact ⟨cur.toList, by simpa using hs, by simpa using hg⟩
theorem splice_all {cur cs : List Value} (h : cs.length = cur.length) : splice cur 0 cs = cs := by
  simp [splice, h]
theorem bc_len (l : List UInt8) : (bc l).length = l.length := by simp [bc]
theorem bc_src (hl : l.length = n) (hc : ∀ t, t < n → w.cell? ⟨b, o + t, none⟩ = some (.int .u8 (bv l t))) : ∀ j v, (bc l)[j]? = some v → w.cell? ((⟨b, o, none⟩ : Addr).add j) = some v := by
  intro j v h
  obtain ⟨h1, rfl⟩ := bc_get h
  rw [add_at]
  exact hc j (by omega)
theorem size1 : (Tryd.prog.info? 5).map (·.size) = some 1 := by kernel_rfl
theorem byte_eq (x : Int) (k : Nat) (h0 : 0 ≤ x) : x / 2 ^ (8 * k) % 256 = x / 256 ^ k % 256 := by
  rw [show (256 : Int) ^ k = 2 ^ (8 * k) by rw [Int.pow_mul]; rfl]
theorem stL_len {a x : Int} (h : stOk l op a = true) : (stL l op a x).length = l.length := by unfold stL; rw [h]; exact len_put _ _ _ _
end Go.Proofs.YtdiofidmlgliiaaDoor.Mm
