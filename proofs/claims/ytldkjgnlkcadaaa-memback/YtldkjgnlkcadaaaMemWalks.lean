/-
  What the functions of package mem return, each for every memory, op, place and word: Load the document's word, Store a copy of the memory with the word in it, and nothing old in memory turns. Conditions: the words are from 0 to 2^32 - 1; the memory is one that a machine can hold.
-/
import Derived.Test.YtldkjgnlkcadaaaMem
namespace Go.Proofs.Ytldkjgnlkcadaaa.Mm
open Go.ChangeShapes Go.WideShapes Go.ChangeAt Go.RowKit
set_option linter.unusedVariables false
set_option linter.unusedSimpArgs false

theorem ret_int {k : IntKind} {a b : Int} (h : a = b) : Ending.returned (.int k a) = .returned (.int k b) := by rw [h]
theorem ret_bool {a b : Bool} (h : a = b) : Ending.returned (.bool a) = .returned (.bool b) := by rw [h]

theorem loadSize_any (op : Int) (w : World) : Calls Try.prog 35 #[.int .i64 op] w fun e w' => e = .returned (.int .u32 (lsz op : Nat)) ∧ w' = w := by
  go_enter Try.func35, Try.ntmps35
  go_wp2
  all_goals
    go_ret
    refine ⟨ret_int ?_, rfl⟩
    simp only [beq_iff_eq, beq_eq_false_iff_ne, ne_eq] at *
    unfold lsz
    repeat' split
    all_goals omega
theorem storeSize_any (op : Int) (w : World) : Calls Try.prog 38 #[.int .i64 op] w fun e w' => e = .returned (.int .u32 (ssz op : Nat)) ∧ w' = w := by
  go_enter Try.func38, Try.ntmps38
  go_wp2
  all_goals
    go_ret
    refine ⟨ret_int ?_, rfl⟩
    simp only [beq_iff_eq, beq_eq_false_iff_ne, ne_eq] at *
    unfold ssz
    repeat' split
    all_goals omega

theorem thr_t {m n : Nat} {a : Int} (h0 : 0 < n) (h1 : a % (n : Int) = 0) (h2 : a + n ≤ m) : true = thr m n a := by simp [thr, h0, h1, h2]
theorem thr_f {m n : Nat} {a : Int} (h : ¬ (0 < n ∧ a % (n : Int) = 0 ∧ a + n ≤ m)) : false = thr m n a := by simp only [thr]; rw [decide_eq_false h]

theorem there_any (ao : Option Addr) (n cap : Nat) (s : Nat) (a : Int) (w : World) (hn : n ≤ 140737488351232) (hs : s ≤ 4) (h0 : 0 ≤ a) (h1 : a < 4294967296) :
    Calls Try.prog 36 #[.slice ao n cap, .int .u32 (s : Nat), .int .u32 a] w fun e w' => e = .returned (.bool (thr n s a)) ∧ w' = w := by
  by_cases hs0 : s = 0
  · subst hs0
    go_enter Try.func36, Try.ntmps36
    go_wp2
    go_ret
    exact ⟨ret_bool (thr_f (by omega)), rfl⟩
  by_cases hm : a % (s : Int) = 0
  · by_cases hl : a + s ≤ n
    · go_enter Try.func36, Try.ntmps36
      go_wp2
      go_ret
      exact ⟨ret_bool (thr_t (by omega) hm hl), rfl⟩
    · go_enter Try.func36, Try.ntmps36
      go_wp2
      go_ret
      exact ⟨ret_bool (thr_f (by omega)), rfl⟩
  · go_enter Try.func36, Try.ntmps36
    go_wp2
    go_ret
    exact ⟨ret_bool (thr_f (by omega)), rfl⟩

theorem wrap_i8 (x : Int) (h0 : 0 ≤ x) (h1 : x < 256) : IntKind.i8.wrap x % 4294967296 = if x < 128 then x else x + 4294967040 := by
  have e : IntKind.i8.wrap x = if 128 ≤ x % 256 then x % 256 - 256 else x % 256 := by simp [IntKind.wrap, IntKind.bits, IntKind.signed]
  rw [e]
  repeat' split
  all_goals omega
theorem wrap_i16 (x : Int) (h0 : 0 ≤ x) (h1 : x < 65536) : IntKind.i16.wrap x % 4294967296 = if x < 32768 then x else x + 4294901760 := by
  have e : IntKind.i16.wrap x = if 32768 ≤ x % 65536 then x % 65536 - 65536 else x % 65536 := by simp [IntKind.wrap, IntKind.bits, IntKind.signed]
  rw [e]
  repeat' split
  all_goals omega
theorem widened_any (op x : Int) (w : World) (h0 : 0 ≤ x) (h1 : x < 4294967296) (h8 : op = 11 → x < 256) (h16 : op = 12 → x < 65536) :
    Calls Try.prog 37 #[.int .i64 op, .int .u32 x] w fun e w' => e = .returned (.int .u32 (wide op x)) ∧ w' = w := by
  go_enter Try.func37, Try.ntmps37
  go_wp2
  all_goals
    go_ret
    refine ⟨ret_int ?_, rfl⟩
    simp only [beq_iff_eq, beq_eq_false_iff_ne, ne_eq] at *
    unfold wide
    first
      | (have hq : op = 11 := by assumption
         rw [wrap_i8 x h0 (h8 hq)]; simp [hq])
      | (have hq : op = 12 := by assumption
         rw [wrap_i16 x h0 (h16 hq)]; simp [hq])
      | (have hq : ¬ op = 11 := by assumption
         have hr : ¬ op = 12 := by assumption
         simp [hq, hr])
theorem ofInt32 (a : Nat) (h : (a : Int) < 4294967296) : (BitVec.ofInt 32 (a : Int)).toNat = a := by
  rw [BitVec.toNat_ofInt]; omega
theorem or_byte (x y : Int) (k : Nat) (hk : k < 4) (h0 : 0 ≤ x) (h1 : x < 256 ^ k) (hy : 0 ≤ y) (hy' : y ≤ 255) : bits .or .u32 x (y * 2 ^ (8 * k) % 4294967296) = x + y * 256 ^ k := by
  obtain ⟨x, rfl⟩ := Int.eq_ofNat_of_zero_le h0
  obtain ⟨y, rfl⟩ := Int.eq_ofNat_of_zero_le hy
  have e1 : (256 : Int) ^ k = ((2 ^ (8 * k) : Nat) : Int) := by
    rw [Nat.pow_mul]; simp
  have hx : x < 2 ^ (8 * k) := by rw [e1] at h1; exact_mod_cast h1
  have hp : 2 ^ (8 * k) * 256 ≤ 4294967296 := by
    have : 2 ^ (8 * k) ≤ 2 ^ (8 * 3) := Nat.pow_le_pow_right (by omega) (by omega)
    omega
  have hpp : 0 < 2 ^ (8 * k) := Nat.two_pow_pos _
  have hyb : y * 2 ^ (8 * k) ≤ 255 * 2 ^ (8 * k) := Nat.mul_le_mul_right _ (by omega)
  have hor : 2 ^ (8 * k) * y + x = 2 ^ (8 * k) * y ||| x := Nat.two_pow_add_eq_or_of_lt hx y
  have e2 : ((y : Int) * 2 ^ (8 * k) % 4294967296) = ((y * 2 ^ (8 * k) : Nat) : Int) := by
    have : ((y : Int) * 2 ^ (8 * k)) = ((y * 2 ^ (8 * k) : Nat) : Int) := by simp
    rw [this]; omega
  rw [e2, e1]
  show IntKind.u32.wrap ((BitVec.ofInt 32 (x : Int) ||| BitVec.ofInt 32 ((y * 2 ^ (8 * k) : Nat) : Int)).toNat : Int) = _
  rw [BitVec.toNat_or, ofInt32 x (by omega), ofInt32 _ (by omega), Nat.or_comm, Nat.mul_comm y, ← hor]
  show (((2 ^ (8 * k) * y + x : Nat) : Int)) % 4294967296 = _
  rw [Nat.mul_comm] at hyb
  rw [show ((y : Int) * ((2 ^ (8 * k) : Nat) : Int)) = ((2 ^ (8 * k) * y : Nat) : Int) by push_cast; rw [Int.mul_comm]]
  generalize 2 ^ (8 * k) * y = z at *
  generalize 2 ^ (8 * k) = p at *
  omega
theorem lsz_room {op : Int} {a : Nat} (h : (a : Int) % (lsz op : Nat) = 0) (ha : a < 4294967296) (h0 : 0 < lsz op) : a + lsz op ≤ 4294967296 := by
  have : lsz op = 1 ∨ lsz op = 2 ∨ lsz op = 4 := by
    have hh : lsz op ≠ 0 := by omega
    clear h h0
    unfold lsz at hh ⊢
    repeat' split
    all_goals simp_all
  rcases this with e | e | e <;> rw [e] at h ⊢ <;> omega
theorem raw_cap (l : List UInt8) (a : Nat) (op : Int) : raw l a (lsz op) < 4294967296 ∧ (op = 11 → raw l a (lsz op) < 256) ∧ (op = 12 → raw l a (lsz op) < 65536) := by
  have h := (raw_bd l a (lsz op)).2
  have q : 256 ^ lsz op ≤ 256 ^ 4 := Nat.pow_le_pow_right (show 0 < 256 by omega) (lsz_le op)
  have p : (256 : Int) ^ lsz op ≤ 4294967296 := by
    rw [show (256 : Int) ^ lsz op = ((256 ^ lsz op : Nat) : Int) by simp]
    omega
  refine ⟨by omega, fun e => ?_, fun e => ?_⟩
  · subst e; exact h
  · subst e; exact h
theorem Load_yes (b o n cap : Nat) (l : List UInt8) (op : Int) (a : Nat) (w : World) (hn : n ≤ 140737488351232) (hl : l.length = n) (ha : a < 4294967296)
    (hc : ∀ t, t < n → w.cell? ⟨b, o + t, none⟩ = some (.int .u8 (bv l t))) (hok : thr n (lsz op) (a : Int) = true) :
    Calls Try.prog 14 #[.slice (some ⟨b, o, none⟩) n cap, .int .i64 op, .int .u32 a] w fun e w' => e = .returned (.tuple #[.int .u32 (wide op (raw l a (lsz op))), .bool true]) ∧ w' = w := by
  have hs := lsz_le op
  have hk := hok
  simp only [thr, decide_eq_true_eq] at hk
  obtain ⟨k0, k1, k2⟩ := hk
  have hroom := lsz_room k1 ha k0
  go_enter Try.func14, Try.ntmps14
  go_wp2_with (first | (go_at_call 35; refine (loadSize_any _ _).mono ?_; rintro e w' ⟨rfl, rfl⟩) | (go_at_call 36; refine (there_any _ _ _ _ _ _ hn hs (by omega) (by omega)).mono ?_; rintro e w' ⟨rfl, rfl⟩))
  go_loop [9, 19] (fun x i => ∃ k : Nat, k ≤ lsz op ∧ i = .int .u32 k ∧ x = .int .u32 (raw l a k)) (fun _ i => lsz op - (intOf i).toNat)
  case atStart => exact ⟨0, Nat.zero_le _, rfl, rfl⟩
  case round =>
    obtain ⟨k, hk, rfl, rfl⟩ := hrel
    have rb := raw_bd l a k
    have bb := bv_bd l (a + k)
    by_cases hlt : k < lsz op
    · have hck := hc (a + k) (by omega)
      clear hc
      have hk4 : k < 4 := by omega
      have hw : (a + k) % 4294967296 = a + k := by omega
      have HR : Hid (bits .or .u32 (raw l a k) (bv l (a + k) * 2 ^ (8 * k) % 4294967296) = raw l a (k + 1)) := or_byte _ _ k hk4 rb.1 rb.2 bb.1 bb.2
      go_wp2
      go_round
      case rel => exact ⟨k + 1, by omega, by go_num, by rw [HR.out]⟩
      case measure => simp [intOf]; omega
    · obtain rfl : k = lsz op := by omega
      have rx := raw_cap l a op
      have HX : Hid (wide op (raw l a (lsz op)) = wide op (raw l a (lsz op))) := rfl
      go_wp2_with (go_at_call 37; refine (widened_any _ _ _ rb.1 rx.1 rx.2.1 rx.2.2).mono ?_; rintro e w' ⟨rfl, rfl⟩)
      go_ret2
      exact ⟨rfl, rfl⟩

theorem Load_no (ao : Option Addr) (n cap : Nat) (op a : Int) (w : World) (hn : n ≤ 140737488351232) (h0 : 0 ≤ a) (h1 : a < 4294967296) (hok : thr n (lsz op) a = false) :
    Calls Try.prog 14 #[.slice ao n cap, .int .i64 op, .int .u32 a] w fun e w' => e = .returned (.tuple #[.int .u32 0, .bool false]) ∧ w' = w := by
  have hs := lsz_le op
  go_enter Try.func14, Try.ntmps14
  go_wp2_with (first | (go_at_call 35; refine (loadSize_any _ _).mono ?_; rintro e w' ⟨rfl, rfl⟩) | (go_at_call 36; refine (there_any _ _ _ _ _ _ hn hs (by omega) (by omega)).mono ?_; rintro e w' ⟨rfl, rfl⟩))
  go_ret2
  exact ⟨rfl, rfl⟩
theorem thr_pos {n s : Nat} {a : Int} (h : thr n s a = true) (h0 : 0 ≤ a) : 0 < n := by
  simp only [thr, decide_eq_true_eq] at h
  omega
/-- Load, of every memory, op and place. -/
theorem Load_any {ao : Option Addr} {n : Nat} (cap : Nat) {l : List UInt8} (op a : Int) {w : World} (M : Mem w ao n l) (hn : n ≤ 140737488351232) (h0 : 0 ≤ a) (h1 : a < 4294967296) :
    Calls Try.prog 14 #[.slice ao n cap, .int .i64 op, .int .u32 a] w fun e w' => e = .returned (.tuple #[.int .u32 (ldV l op a), .bool (ldOk l op a)]) ∧ w' = w := by
  have hl := M.len
  cases hok : thr n (lsz op) a with
  | false =>
    have e1 : ldOk l op a = false := by unfold ldOk; rw [hl]; exact hok
    have e2 : ldV l op a = 0 := by unfold ldV; rw [e1]; rfl
    rw [e1, e2]
    exact Load_no ao n cap op a w hn h0 h1 hok
  | true =>
    have e1 : ldOk l op a = true := by unfold ldOk; rw [hl]; exact hok
    have e2 : ldV l op a = wide op (raw l a.toNat (lsz op)) := by unfold ldV; rw [e1]; rfl
    rw [e1, e2]
    obtain ⟨b, o, rfl, _, hc⟩ := M.spot (thr_pos hok h0)
    obtain ⟨a, rfl⟩ := Int.eq_ofNat_of_zero_le h0
    exact Load_yes b o n cap l op a w hn hl (by omega) hc hok

theorem ssz_room {op : Int} {a : Nat} (h : (a : Int) % (ssz op : Nat) = 0) (ha : a < 4294967296) (h0 : 0 < ssz op) : a + ssz op ≤ 4294967296 := by
  have : ssz op = 1 ∨ ssz op = 2 ∨ ssz op = 4 := by
    have hh : ssz op ≠ 0 := by omega
    clear h h0
    unfold ssz at hh ⊢
    repeat' split
    all_goals simp_all
  rcases this with e | e | e <;> rw [e] at h ⊢ <;> omega
theorem Store_no (ao : Option Addr) (n cap : Nat) (op a x : Int) (w : World) (hn : n ≤ 140737488351232) (h0 : 0 ≤ a) (h1 : a < 4294967296) (hok : thr n (ssz op) a = false) :
    Calls Try.prog 15 #[.slice ao n cap, .int .i64 op, .int .u32 a, .int .u32 x] w fun e w' => e = .returned (.tuple #[.slice none 0 0, .bool false]) ∧ w' = w := by
  have hs := ssz_le op
  go_enter Try.func15, Try.ntmps15
  go_wp2_with (first | (go_at_call 38; refine (storeSize_any _ _).mono ?_; rintro e w' ⟨rfl, rfl⟩) | (go_at_call 36; refine (there_any _ _ _ _ _ _ hn hs (by omega) (by omega)).mono ?_; rintro e w' ⟨rfl, rfl⟩))
  go_ret2
  exact ⟨rfl, rfl⟩
theorem made_row {w w0 : World} {n : Nat} {xs : List Value} (h : w0.ownsRow w.heap.size 5 1 (.slice (some ⟨w.heap.size, 0, none⟩) n n) n xs) :
    ∃ cur : List Value, cur.length = n ∧ w0.heap[w.heap.size]? = some (.cells cur.toArray 5 (0, 0)) := by
  obtain ⟨_, hc⟩ := h
  rcases hc with ⟨h0, _⟩ | ⟨g', cap', cur, hv, hb, hg, hn, hm, hs, htake⟩
  · cases h0
  · simp only [Value.slice.injEq, Option.some.injEq, Addr.mk.injEq, true_and, and_true] at hv
    obtain ⟨e, rfl⟩ := hv
    rw [← e] at hg
    exact ⟨cur.toList, by simpa using hs, by simpa using hg⟩
theorem splice_all {cur cs : List Value} (h : cs.length = cur.length) : splice cur 0 cs = cs := by
  simp [splice, h]
theorem bc_len (l : List UInt8) : (bc l).length = l.length := by simp [bc]
theorem bc_src {w : World} {b o n : Nat} {l : List UInt8} (hl : l.length = n) (hc : ∀ t, t < n → w.cell? ⟨b, o + t, none⟩ = some (.int .u8 (bv l t))) : ∀ j v, (bc l)[j]? = some v → w.cell? ((⟨b, o, none⟩ : Addr).add j) = some v := by
  intro j v h
  obtain ⟨h1, rfl⟩ := bc_get h
  rw [add_at]
  exact hc j (by omega)
theorem size1 : (Try.prog.info? 5).map (·.size) = some 1 := by kernel_rfl
theorem byte_eq (x : Int) (k : Nat) (h0 : 0 ≤ x) : x / 2 ^ (8 * k) % 256 = x / 256 ^ k % 256 := by
  rw [show (256 : Int) ^ k = 2 ^ (8 * k) by rw [Int.pow_mul]; rfl]
theorem Store_yes (b o n cap : Nat) (l : List UInt8) (op x : Int) (a : Nat) (w : World) (hn : n ≤ 140737488351232) (hl : l.length = n) (ha : a < 4294967296) (hb : b < w.heap.size) (hx0 : 0 ≤ x) (hx1 : x < 4294967296)
    (hc : ∀ t, t < n → w.cell? ⟨b, o + t, none⟩ = some (.int .u8 (bv l t))) (hok : thr n (ssz op) (a : Int) = true) :
    Calls Try.prog 15 #[.slice (some ⟨b, o, none⟩) n cap, .int .i64 op, .int .u32 a, .int .u32 x] w fun e w' => e = .returned (.tuple #[.slice (some ⟨w.heap.size, 0, none⟩) n n, .bool true]) ∧ Row w' w.heap.size (put l a x (ssz op)) ∧ Gr w w' := by
  have hs := ssz_le op
  have hk := hok
  simp only [thr, decide_eq_true_eq] at hk
  obtain ⟨k0, k1, k2⟩ := hk
  have hroom := ssz_room k1 ha k0
  obtain ⟨i0, hi, hz0, hz1, hz2⟩ := info_parts info5
  have HC : Hid (∀ t, t < n → w.cell? ⟨b, o + t, none⟩ = some (.int .u8 (bv l t))) := hc
  clear hc
  go_enter Try.func15, Try.ntmps15
  go_wp2_with (first
    | (go_at_call 38; refine (storeSize_any _ _).mono ?_; rintro e w' ⟨rfl, rfl⟩)
    | (go_at_call 36; refine (there_any _ _ _ _ _ _ hn hs (by omega) (by omega)).mono ?_; rintro e w' ⟨rfl, rfl⟩)
    | (at_make; refine wpList_make_full _ rfl _ _ 27 rfl _ 5 i0 (.int .u8 0) 1 Try.underlying27 hi hz0 hz1 _ _ _ _ n rfl rfl rfl rfl (by rw [hz2]; omega) (by unfold maxLen; omega) (Nat.le_refl _) ?_; intro w0 hown0 hgrow0; obtain ⟨cur, hcl, hcg⟩ := made_row hown0; have B0 := (Gr.refl _).grown hgrow0 (fun k h => by cases h); clear hown0 hgrow0)
    | (refine wpList_copy_splice rfl (.tmp 23) (.tmp 24) 27 27 rfl 5 Try.underlying27 size1 _ _ _ _ _ _ rfl rfl _ 0 cur 5 hcg (bc l) (by rw [bc_len, hl]; simp) (fun _ => ⟨rfl, _, rfl, bc_src hl (fun t ht => (Gr.cell B0 _ (by exact hb)).trans (HC.out t ht))⟩) (by rw [bc_len, hl, hcl]; omega) (bc_one l) _ _ B0 (Nat.le_refl _) ?_; intro w2 HG2 hB2))
  have R0 : Row w2 w'.heap.size l := ⟨[], by rw [List.append_nil]; have := HG2.out; rwa [splice_all (by rw [bc_len, hl, hcl])] at this⟩
  clear HG2 hcg hcl B0 HC hi hz0 hz1 hz2
  go_loopw [27] (fun i wr => ∃ k : Nat, k ≤ ssz op ∧ i = .int .u32 k ∧ Row wr w'.heap.size (put l a x k) ∧ Gr w' wr) (fun i _ => ssz op - (intOf i).toNat)
  case atStart => exact ⟨0, Nat.zero_le _, rfl, R0, hB2⟩
  case round =>
    obtain ⟨k, hk, rfl, R, G⟩ := hrel
    by_cases hlt : k < ssz op
    · have hp := len_put l a x k
      have hck := R.cell (t := a + k) (by omega)
      have hfk := R.frozen (a + k)
      have hw : (a + k) % 4294967296 = a + k := by omega
      have RS := R.set (t := a + k) (by omega) (x / 2 ^ (8 * k) % 256) (by omega) (by omega)
      rw [byte_eq x k hx0] at RS
      have HR : Hid (Row wr w'.heap.size (put l a x k)) := R
      have HG : Hid (Gr w' wr) := G
      have HS : Hid (Row (wr.setCell ⟨w'.heap.size, a + k, none⟩ (.int .u8 (x / 256 ^ k % 256))) w'.heap.size (put l a x (k + 1))) := RS
      have HB : Hid (x / 2 ^ (8 * k) % 256 = x / 256 ^ k % 256) := byte_eq x k hx0
      clear R G RS R0 hB2 hp
      go_wp2
      go_roundw
      case rel => exact ⟨k + 1, by omega, by go_num, by have := HS.out; rw [← HB.out] at this; exact this, HG.out.setCell (Nat.le_refl _) _⟩
      case measure => simp [intOf]; omega
    · obtain rfl : k = ssz op := by omega
      have HR : Hid (Row wr w'.heap.size (put l a x (ssz op))) := R
      have HG : Hid (Gr w' wr) := G
      clear R G R0 hB2
      go_wp2
      go_ret2
      exact ⟨rfl, HR.out, HG.out⟩
theorem stL_len {l : List UInt8} {op a x : Int} (h : stOk l op a = true) : (stL l op a x).length = l.length := by unfold stL; rw [h]; exact len_put _ _ _ _
/-- Store, of every memory, op, place and word. -/
theorem Store_any {ao : Option Addr} {n : Nat} (cap : Nat) {l : List UInt8} (op a x : Int) {w : World} (M : Mem w ao n l) (hn : n ≤ 140737488351232) (h0 : 0 ≤ a) (h1 : a < 4294967296) (hx0 : 0 ≤ x) (hx1 : x < 4294967296) :
    Calls Try.prog 15 #[.slice ao n cap, .int .i64 op, .int .u32 a, .int .u32 x] w fun e w' =>
      ∃ ao' n' cap', e = .returned (.tuple #[.slice ao' n' cap', .bool (stOk l op a)]) ∧ Mem w' ao' n' (stL l op a x) ∧ Gr w w' := by
  have hl := M.len
  cases hok : thr n (ssz op) a with
  | false =>
    have e1 : stOk l op a = false := by unfold stOk; rw [hl]; exact hok
    have e2 : stL l op a x = [] := by unfold stL; rw [e1]; rfl
    rw [e1, e2]
    refine (Store_no ao n cap op a x w hn h0 h1 hok).mono ?_
    rintro e w' ⟨rfl, rfl⟩
    exact ⟨none, 0, 0, rfl, Mem.none _, Gr.refl _⟩
  | true =>
    have e1 : stOk l op a = true := by unfold stOk; rw [hl]; exact hok
    have e2 : stL l op a x = put l a.toNat x (ssz op) := by unfold stL; rw [e1]; rfl
    rw [e1, e2]
    obtain ⟨b, o, rfl, hb, hc⟩ := M.spot (thr_pos hok h0)
    obtain ⟨a, rfl⟩ := Int.eq_ofNat_of_zero_le h0
    refine (Store_yes b o n cap l op x a w hn hl (by omega) hb hx0 hx1 hc hok).mono ?_
    rintro e w' ⟨rfl, R, G⟩
    refine ⟨_, _, _, rfl, ?_, G⟩
    have := R.mem
    rwa [len_put, hl] at this
end Go.Proofs.Ytldkjgnlkcadaaa.Mm
