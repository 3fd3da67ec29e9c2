/-
  What the functions of package mem return, each for every memory, op, place and word: Load the document's word, Store a copy of the memory with the word in it, and nothing old in memory turns. Conditions: the words are from 0 to 2^32 - 1; the memory is one that a machine can hold.
-/
import Derived.Test.YtdiofidmlgliiaaDoorMem
namespace Go.Proofs.YtdiofidmlgliiaaDoor.Mm
open Go.ChangeShapes Go.WideShapes Go.ChangeAt Go.RowKit
set_option linter.unusedVariables false
set_option linter.unusedSimpArgs false

variable {ao : Option Addr} {n : Nat} {l : List UInt8} {w : World}
theorem loadSize_any (op : Int) (w : World) : Calls Tryd.prog 133 #[.int .i64 op] w fun e w' => e = .returned (.int .u32 (lsz op : Nat)) ∧ w' = w := by
  go_enter Tryd.func133, Tryd.ntmps133
  go_wp2
  all_goals
    go_ret
    refine ⟨ret_int ?_, rfl⟩
    simp only [beq_iff_eq, beq_eq_false_iff_ne, ne_eq] at *
    unfold lsz
    repeat' split
    all_goals omega
theorem storeSize_any (op : Int) (w : World) : Calls Tryd.prog 167 #[.int .i64 op] w fun e w' => e = .returned (.int .u32 (ssz op : Nat)) ∧ w' = w := by
  go_enter Tryd.func167, Tryd.ntmps167
  go_wp2
  all_goals
    go_ret
    refine ⟨ret_int ?_, rfl⟩
    simp only [beq_iff_eq, beq_eq_false_iff_ne, ne_eq] at *
    unfold ssz
    repeat' split
    all_goals omega
theorem there_any (ao : Option Addr) (n cap : Nat) (s : Nat) (a : Int) (w : World) (hn : n ≤ 140737488351232) (hs : s ≤ 4) (h0 : 0 ≤ a) (h1 : a < 4294967296) :
    Calls Tryd.prog 134 #[.slice ao n cap, .int .u32 (s : Nat), .int .u32 a] w fun e w' => e = .returned (.bool (thr n s a)) ∧ w' = w := by
  by_cases hs0 : s = 0
  · subst hs0
    go_enter Tryd.func134, Tryd.ntmps134
    go_wp2
    go_ret
    exact ⟨ret_bool (thr_f (by omega)), rfl⟩
  by_cases hm : a % (s : Int) = 0
  · by_cases hl : a + s ≤ n
    · go_enter Tryd.func134, Tryd.ntmps134
      go_wp2
      go_ret
      exact ⟨ret_bool (thr_t (by omega) hm hl), rfl⟩
    · go_enter Tryd.func134, Tryd.ntmps134
      go_wp2
      go_ret
      exact ⟨ret_bool (thr_f (by omega)), rfl⟩
  · go_enter Tryd.func134, Tryd.ntmps134
    go_wp2
    go_ret
    exact ⟨ret_bool (thr_f (by omega)), rfl⟩
theorem widened_any (op x : Int) (w : World) (h0 : 0 ≤ x) (h1 : x < 4294967296) (h8 : op = 11 → x < 256) (h16 : op = 12 → x < 65536) :
    Calls Tryd.prog 135 #[.int .i64 op, .int .u32 x] w fun e w' => e = .returned (.int .u32 (wide op x)) ∧ w' = w := by
  go_enter Tryd.func135, Tryd.ntmps135
  go_wp2
  all_goals
    go_ret
    refine ⟨ret_int ?_, rfl⟩
    simp only [beq_iff_eq, beq_eq_false_iff_ne, ne_eq] at *
    unfold wide
    first
      | (have hq : op = 11 := by assumption
         rw [wrap_i8 x h0 (h8 hq)]; simp [hq])
      | (have hq : op = 12 := by assumption
         rw [wrap_i16 x h0 (h16 hq)]; simp [hq])
      | (have hq : ¬ op = 11 := by assumption
         have hr : ¬ op = 12 := by assumption
         simp [hq, hr])
theorem Load_yes (b o n cap : Nat) (l : List UInt8) (op : Int) (a : Nat) (w : World) (hn : n ≤ 140737488351232) (hl : l.length = n) (ha : a < 4294967296)
    (hc : ∀ t, t < n → w.cell? ⟨b, o + t, none⟩ = some (.int .u8 (bv l t))) (hok : thr n (lsz op) (a : Int) = true) :
    Calls Tryd.prog 120 #[.slice (some ⟨b, o, none⟩) n cap, .int .i64 op, .int .u32 a] w fun e w' => e = .returned (.tuple #[.int .u32 (wide op (raw l a (lsz op))), .bool true]) ∧ w' = w := by
  have hs := lsz_le op
  have hk := hok
  simp only [thr, decide_eq_true_eq] at hk
  obtain ⟨k0, k1, k2⟩ := hk
  have hroom := lsz_room k1 ha k0
  go_enter Tryd.func120, Tryd.ntmps120
  go_wp2_with (first | (go_at_call 133; refine (loadSize_any _ _).mono ?_; rintro e w' ⟨rfl, rfl⟩) | (go_at_call 134; refine (there_any _ _ _ _ _ _ hn hs (by omega) (by omega)).mono ?_; rintro e w' ⟨rfl, rfl⟩))
  go_loop [9, 19] (fun x i => ∃ k : Nat, k ≤ lsz op ∧ i = .int .u32 k ∧ x = .int .u32 (raw l a k)) (fun _ i => lsz op - (intOf i).toNat)
  case atStart => exact ⟨0, Nat.zero_le _, rfl, rfl⟩
  case round =>
    obtain ⟨k, hk, rfl, rfl⟩ := hrel
    have rb := raw_bd l a k
    have bb := bv_bd l (a + k)
    by_cases hlt : k < lsz op
    · have hck := hc (a + k) (by omega)
      clear hc
      have hk4 : k < 4 := by omega
      have hw : (a + k) % 4294967296 = a + k := by omega
      have HR : Hid (bits .or .u32 (raw l a k) (bv l (a + k) * 2 ^ (8 * k) % 4294967296) = raw l a (k + 1)) := or_byte _ _ k hk4 rb.1 rb.2 bb.1 bb.2
      go_wp2
      go_round
      case rel => exact ⟨k + 1, by omega, by go_num, by rw [HR.out]⟩
      case measure => simp [intOf]; omega
    · obtain rfl : k = lsz op := by omega
      have rx := raw_cap l a op
      have HX : Hid (wide op (raw l a (lsz op)) = wide op (raw l a (lsz op))) := rfl
      go_wp2_with (go_at_call 135; refine (widened_any _ _ _ rb.1 rx.1 rx.2.1 rx.2.2).mono ?_; rintro e w' ⟨rfl, rfl⟩)
      go_ret2
      exact ⟨rfl, rfl⟩
theorem Load_no (ao : Option Addr) (n cap : Nat) (op a : Int) (w : World) (hn : n ≤ 140737488351232) (h0 : 0 ≤ a) (h1 : a < 4294967296) (hok : thr n (lsz op) a = false) :
    Calls Tryd.prog 120 #[.slice ao n cap, .int .i64 op, .int .u32 a] w fun e w' => e = .returned (.tuple #[.int .u32 0, .bool false]) ∧ w' = w := by
  have hs := lsz_le op
  go_enter Tryd.func120, Tryd.ntmps120
  go_wp2_with (first | (go_at_call 133; refine (loadSize_any _ _).mono ?_; rintro e w' ⟨rfl, rfl⟩) | (go_at_call 134; refine (there_any _ _ _ _ _ _ hn hs (by omega) (by omega)).mono ?_; rintro e w' ⟨rfl, rfl⟩))
  go_ret2
  exact ⟨rfl, rfl⟩
/-- Load, of every memory, op and place. -/
theorem Load_any (cap : Nat) (op a : Int) (M : Mem w ao n l) (hn : n ≤ 140737488351232) (h0 : 0 ≤ a) (h1 : a < 4294967296) :
    Calls Tryd.prog 120 #[.slice ao n cap, .int .i64 op, .int .u32 a] w fun e w' => e = .returned (.tuple #[.int .u32 (ldV l op a), .bool (ldOk l op a)]) ∧ w' = w := by
  have hl := M.len
  cases hok : thr n (lsz op) a with
  | false =>
    have e1 : ldOk l op a = false := by unfold ldOk; rw [hl]; exact hok
    have e2 : ldV l op a = 0 := by unfold ldV; rw [e1]; rfl
    rw [e1, e2]
    exact Load_no ao n cap op a w hn h0 h1 hok
  | true =>
    have e1 : ldOk l op a = true := by unfold ldOk; rw [hl]; exact hok
    have e2 : ldV l op a = wide op (raw l a.toNat (lsz op)) := by unfold ldV; rw [e1]; rfl
    rw [e1, e2]
    obtain ⟨b, o, rfl, _, hc⟩ := M.spot (thr_pos hok h0)
    obtain ⟨a, rfl⟩ := Int.eq_ofNat_of_zero_le h0
    exact Load_yes b o n cap l op a w hn hl (by omega) hc hok
theorem Store_no (ao : Option Addr) (n cap : Nat) (op a x : Int) (w : World) (hn : n ≤ 140737488351232) (h0 : 0 ≤ a) (h1 : a < 4294967296) (hok : thr n (ssz op) a = false) :
    Calls Tryd.prog 151 #[.slice ao n cap, .int .i64 op, .int .u32 a, .int .u32 x] w fun e w' => e = .returned (.tuple #[.slice none 0 0, .bool false]) ∧ w' = w := by
  have hs := ssz_le op
  go_enter Tryd.func151, Tryd.ntmps151
  go_wp2_with (first | (go_at_call 167; refine (storeSize_any _ _).mono ?_; rintro e w' ⟨rfl, rfl⟩) | (go_at_call 134; refine (there_any _ _ _ _ _ _ hn hs (by omega) (by omega)).mono ?_; rintro e w' ⟨rfl, rfl⟩))
  go_ret2
  exact ⟨rfl, rfl⟩
theorem Store_yes (b o n cap : Nat) (l : List UInt8) (op x : Int) (a : Nat) (w : World) (hn : n ≤ 140737488351232) (hl : l.length = n) (ha : a < 4294967296) (hb : b < w.heap.size) (hx0 : 0 ≤ x) (hx1 : x < 4294967296)
    (hc : ∀ t, t < n → w.cell? ⟨b, o + t, none⟩ = some (.int .u8 (bv l t))) (hok : thr n (ssz op) (a : Int) = true) :
    Calls Tryd.prog 151 #[.slice (some ⟨b, o, none⟩) n cap, .int .i64 op, .int .u32 a, .int .u32 x] w fun e w' => e = .returned (.tuple #[.slice (some ⟨w.heap.size, 0, none⟩) n n, .bool true]) ∧ Row w' w.heap.size (put l a x (ssz op)) ∧ Gr w w' := by
  have hs := ssz_le op
  have hk := hok
  simp only [thr, decide_eq_true_eq] at hk
  obtain ⟨k0, k1, k2⟩ := hk
  have hroom := ssz_room k1 ha k0
  obtain ⟨i0, hi, hz0, hz1, hz2⟩ := info_parts info5
  have HC : Hid (∀ t, t < n → w.cell? ⟨b, o + t, none⟩ = some (.int .u8 (bv l t))) := hc
  clear hc
  go_enter Tryd.func151, Tryd.ntmps151
  go_wp2_with (first
    | (go_at_call 167; refine (storeSize_any _ _).mono ?_; rintro e w' ⟨rfl, rfl⟩)
    | (go_at_call 134; refine (there_any _ _ _ _ _ _ hn hs (by omega) (by omega)).mono ?_; rintro e w' ⟨rfl, rfl⟩)
    | (at_make; refine wpList_make_full _ rfl _ _ 31 rfl _ 5 i0 (.int .u8 0) 1 Tryd.underlying31 hi hz0 hz1 _ _ _ _ n rfl rfl rfl rfl (by rw [hz2]; omega) (by unfold maxLen; omega) (Nat.le_refl _) ?_; intro w0 hown0 hgrow0; obtain ⟨cur, hcl, hcg⟩ := made_row hown0; have B0 := (Gr.refl _).grown hgrow0 (fun k h => by cases h); clear hown0 hgrow0)
    | (refine wpList_copy_splice rfl (.tmp 23) (.tmp 24) 31 31 rfl 5 Tryd.underlying31 size1 _ _ _ _ _ _ rfl rfl _ 0 cur 5 hcg (bc l) (by rw [bc_len, hl]; simp) (fun _ => ⟨rfl, _, rfl, bc_src hl (fun t ht => (Gr.cell B0 _ (by exact hb)).trans (HC.out t ht))⟩) (by rw [bc_len, hl, hcl]; omega) (bc_one l) _ _ B0 (Nat.le_refl _) ?_; intro w2 HG2 hB2))
  have R0 : Row w2 w'.heap.size l := ⟨[], by rw [List.append_nil]; have := HG2.out; rwa [splice_all (by rw [bc_len, hl, hcl])] at this⟩
  clear HG2 hcg hcl B0 HC hi hz0 hz1 hz2
  go_loopw [27] (fun i wr => ∃ k : Nat, k ≤ ssz op ∧ i = .int .u32 k ∧ Row wr w'.heap.size (put l a x k) ∧ Gr w' wr) (fun i _ => ssz op - (intOf i).toNat)
  case atStart => exact ⟨0, Nat.zero_le _, rfl, R0, hB2⟩
  case round =>
    obtain ⟨k, hk, rfl, R, G⟩ := hrel
    by_cases hlt : k < ssz op
    · have hp := len_put l a x k
      have hck := R.cell (t := a + k) (by omega)
      have hfk := R.frozen (a + k)
      have hw : (a + k) % 4294967296 = a + k := by omega
      have RS := R.set (t := a + k) (by omega) (x / 2 ^ (8 * k) % 256) (by omega) (by omega)
      rw [byte_eq x k hx0] at RS
      have HR : Hid (Row wr w'.heap.size (put l a x k)) := R
      have HG : Hid (Gr w' wr) := G
      have HS : Hid (Row (wr.setCell ⟨w'.heap.size, a + k, none⟩ (.int .u8 (x / 256 ^ k % 256))) w'.heap.size (put l a x (k + 1))) := RS
      have HB : Hid (x / 2 ^ (8 * k) % 256 = x / 256 ^ k % 256) := byte_eq x k hx0
      clear R G RS R0 hB2 hp
      go_wp2
      go_roundw
      case rel => exact ⟨k + 1, by omega, by go_num, by have := HS.out; rw [← HB.out] at this; exact this, HG.out.setCell (Nat.le_refl _) _⟩
      case measure => simp [intOf]; omega
    · obtain rfl : k = ssz op := by omega
      have HR : Hid (Row wr w'.heap.size (put l a x (ssz op))) := R
      have HG : Hid (Gr w' wr) := G
      clear R G R0 hB2
      go_wp2
      go_ret2
      exact ⟨rfl, HR.out, HG.out⟩
/-- Store, of every memory, op, place and word. -/
theorem Store_new (cap : Nat) (op a x : Int) (M : Mem w ao n l) (hn : n ≤ 140737488351232) (h0 : 0 ≤ a) (h1 : a < 4294967296) (hx0 : 0 ≤ x) (hx1 : x < 4294967296) :
    Calls Tryd.prog 151 #[.slice ao n cap, .int .i64 op, .int .u32 a, .int .u32 x] w fun e w' =>
      ∃ ao' n' cap', e = .returned (.tuple #[.slice ao' n' cap', .bool (stOk l op a)]) ∧ Mem w' ao' n' (stL l op a x) ∧ Gr w w' ∧ ∀ ad, ao' = some ad → w.heap.size ≤ ad.block := by
  have hl := M.len
  cases hok : thr n (ssz op) a with
  | false =>
    have e1 : stOk l op a = false := by unfold stOk; rw [hl]; exact hok
    have e2 : stL l op a x = [] := by unfold stL; rw [e1]; rfl
    rw [e1, e2]
    refine (Store_no ao n cap op a x w hn h0 h1 hok).mono ?_
    rintro e w' ⟨rfl, rfl⟩
    exact ⟨none, 0, 0, rfl, Mem.none _, Gr.refl _, fun ad h => by cases h⟩
  | true =>
    have e1 : stOk l op a = true := by unfold stOk; rw [hl]; exact hok
    have e2 : stL l op a x = put l a.toNat x (ssz op) := by unfold stL; rw [e1]; rfl
    rw [e1, e2]
    obtain ⟨b, o, rfl, hb, hc⟩ := M.spot (thr_pos hok h0)
    obtain ⟨a, rfl⟩ := Int.eq_ofNat_of_zero_le h0
    refine (Store_yes b o n cap l op x a w hn hl (by omega) hb hx0 hx1 hc hok).mono ?_
    rintro e w' ⟨rfl, R, G⟩
    refine ⟨_, _, _, rfl, ?_, G, fun ad h => by cases h; exact Nat.le_refl _⟩
    have := R.mem
    rwa [len_put, hl] at this
/-- Store, of every memory, op, place and word. -/
theorem Store_any (cap : Nat) (op a x : Int) (M : Mem w ao n l) (hn : n ≤ 140737488351232) (h0 : 0 ≤ a) (h1 : a < 4294967296) (hx0 : 0 ≤ x) (hx1 : x < 4294967296) :
    Calls Tryd.prog 151 #[.slice ao n cap, .int .i64 op, .int .u32 a, .int .u32 x] w fun e w' =>
      ∃ ao' n' cap', e = .returned (.tuple #[.slice ao' n' cap', .bool (stOk l op a)]) ∧ Mem w' ao' n' (stL l op a x) ∧ Gr w w' := by
  refine (Store_new cap op a x M hn h0 h1 hx0 hx1).mono ?_
  rintro e w' ⟨a1, n1, c1, rfl, M1, G1, _⟩
  exact ⟨a1, n1, c1, rfl, M1, G1⟩
end Go.Proofs.YtdiofidmlgliiaaDoor.Mm
