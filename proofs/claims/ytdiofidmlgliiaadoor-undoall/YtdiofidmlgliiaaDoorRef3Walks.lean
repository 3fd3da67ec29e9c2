/-
  What the functions of package ferrybridgeref3, and ferrybridgeref4.Bytes, return, each for every memory, op, place and word: as package mem's do; Bytes whether two memories are the same. Conditions: the words are from 0 to 2^32 - 1; the memory is one that a machine can hold.
-/
import Derived.Test.YtdiofidmlgliiaaDoorMem
import Derived.Test.YtdiofidmlgliiaaDoorWord
import Derived.Test.YtdiofidmlgliiaaDoorRef1Walks
namespace Go.Proofs.YtdiofidmlgliiaaDoor.Mr
open Go.ChangeShapes Go.WideShapes Go.ChangeAt Go.RowKit Mm
set_option linter.unusedVariables false
set_option linter.unusedSimpArgs false

variable {k n : Nat} {op X P x b a : Int} {ao : Option Addr} {l : List UInt8} {w : World}
theorem Size_load (op : Int) (w : World) : Calls Tryd.prog 88 #[.int .i64 op, .bool false] w fun e w' => e = .returned (.int .i64 (lsz op : Nat)) ∧ w' = w := by
  go_enter Tryd.func88, Tryd.ntmps88
  go_wp2
  all_goals
    go_ret
    refine ⟨ret_int ?_, rfl⟩
    simp only [beq_iff_eq, beq_eq_false_iff_ne, ne_eq] at *
    unfold lsz
    repeat' split
    all_goals omega
theorem Size_store (op : Int) (w : World) : Calls Tryd.prog 88 #[.int .i64 op, .bool true] w fun e w' => e = .returned (.int .i64 (ssz op : Nat)) ∧ w' = w := by
  go_enter Tryd.func88, Tryd.ntmps88
  go_wp2
  all_goals
    go_ret
    refine ⟨ret_int ?_, rfl⟩
    simp only [beq_iff_eq, beq_eq_false_iff_ne, ne_eq] at *
    unfold ssz
    repeat' split
    all_goals omega

theorem there_any (ao : Option Addr) (n cap : Nat) (s : Nat) (a : Int) (w : World) (hn : n ≤ 140737488351232) (hs : s ≤ 4) (h0 : 0 ≤ a) (h1 : a < 4294967296) :
    Calls Tryd.prog 89 #[.slice ao n cap, .int .u32 a, .int .i64 (s : Nat)] w fun e w' => e = .returned (.bool (thr n s a)) ∧ w' = w := by
  by_cases hs0 : s = 0
  · subst hs0
    go_enter Tryd.func89, Tryd.ntmps89
    go_wp2
    go_ret
    exact ⟨ret_bool (thr_f (by omega)), rfl⟩
  by_cases hm : a % (s : Int) = 0
  · by_cases hl : a + s ≤ n
    · go_enter Tryd.func89, Tryd.ntmps89
      go_wp2
      go_ret
      exact ⟨ret_bool (thr_t (by omega) hm hl), rfl⟩
    · go_enter Tryd.func89, Tryd.ntmps89
      go_wp2
      go_ret
      exact ⟨ret_bool (thr_f (by omega)), rfl⟩
  · go_enter Tryd.func89, Tryd.ntmps89
    go_wp2
    go_ret
    exact ⟨ret_bool (thr_f (by omega)), rfl⟩

theorem Load_no (ao : Option Addr) (n cap : Nat) (op a : Int) (w : World) (hn : n ≤ 140737488351232) (h0 : 0 ≤ a) (h1 : a < 4294967296) (hok : thr n (lsz op) a = false) :
    Calls Tryd.prog 58 #[.slice ao n cap, .int .i64 op, .int .u32 a] w fun e w' => e = .returned (.tuple #[.int .u32 0, .bool false]) ∧ w' = w := by
  have hs := lsz_le op
  go_enter Tryd.func58, Tryd.ntmps58
  go_wp2_with (first | (go_at_call 88; refine (Size_load _ _).mono ?_; rintro e w' ⟨rfl, rfl⟩) | (go_at_call 89; refine (there_any _ _ _ _ _ _ hn hs (by omega) (by omega)).mono ?_; rintro e w' ⟨rfl, rfl⟩))
  go_ret2
  exact ⟨rfl, rfl⟩
def p8 (k : Nat) : Int := 256 ^ k
theorem p8_succ (k : Nat) : p8 (k + 1) = 256 * p8 k := by unfold p8; rw [Int.pow_succ, Int.mul_comm]
theorem p8_bd (hk : k ≤ 4) : 1 ≤ p8 k ∧ p8 k ≤ 4294967296 := by
  have h : k = 0 ∨ k = 1 ∨ k = 2 ∨ k = 3 ∨ k = 4 := by omega
  rcases h with rfl | rfl | rfl | rfl | rfl <;> decide
theorem p8_bd3 (hk : k < 4) : 1 ≤ p8 k ∧ p8 k ≤ 16777216 := by
  have h : k = 0 ∨ k = 1 ∨ k = 2 ∨ k = 3 := by omega
  rcases h with rfl | rfl | rfl | rfl <;> decide
theorem wide_neg (h11 : op = 11 → P = 256) (h12 : op = 12 → P = 65536) (h : op = 11 ∨ op = 12) (h0 : 0 ≤ X) (h1 : X < P) (hg : P / 2 ≤ X) : Wd.lo (X - P) = wide op X := by
  unfold Wd.lo wide
  rcases h with h | h
  · have := h11 h; rw [if_pos h, if_neg (by omega)]; omega
  · have := h12 h; rw [if_neg (by omega), if_pos h, if_neg (by omega)]; omega
theorem wide_pos (h11 : op = 11 → P = 256) (h12 : op = 12 → P = 65536) (h : (op = 11 ∨ op = 12) → ¬ P / 2 ≤ X) (h0 : 0 ≤ X) (h1 : X < P) (hP : P ≤ 4294967296) : Wd.lo X = wide op X := by
  unfold Wd.lo wide
  by_cases e1 : op = 11
  · have := h11 e1; have := h (.inl e1); rw [if_pos e1, if_pos (by omega)]; omega
  · by_cases e2 : op = 12
    · have := h12 e2; have := h (.inr e2); rw [if_neg e1, if_pos e2, if_pos (by omega)]; omega
    · rw [if_neg e1, if_neg e2]; omega
theorem ret2 {k : IntKind} {y : Int} {b : Bool} (h : x = y) : Ending.returned (.tuple #[.int k x, .bool b]) = .returned (.tuple #[.int k y, .bool b]) := by rw [h]
theorem beq_t (h : a = b) : (a == b) = true := by simp [h]
theorem beq_f (h : ¬ a = b) : (a == b) = false := by simp [h]
theorem Load_yes (b o n cap : Nat) (l : List UInt8) (op : Int) (a : Nat) (w : World) (hn : n ≤ 140737488351232) (hl : l.length = n) (ha : a < 4294967296)
    (hc : ∀ t, t < n → w.cell? ⟨b, o + t, none⟩ = some (.int .u8 (bv l t))) (hok : thr n (lsz op) (a : Int) = true) :
    Calls Tryd.prog 58 #[.slice (some ⟨b, o, none⟩) n cap, .int .i64 op, .int .u32 a] w fun e w' => e = .returned (.tuple #[.int .u32 (wide op (raw l a (lsz op))), .bool true]) ∧ w' = w := by
  have hs := lsz_le op
  have hk := hok
  simp only [thr, decide_eq_true_eq] at hk
  obtain ⟨k0, k1, k2⟩ := hk
  have hroom := lsz_room k1 ha k0
  go_enter Tryd.func58, Tryd.ntmps58
  go_wp2_with (first | (go_at_call 88; refine (Size_load _ _).mono ?_; rintro e w' ⟨rfl, rfl⟩) | (go_at_call 89; refine (there_any _ _ _ _ _ _ hn hs (by omega) (by omega)).mono ?_; rintro e w' ⟨rfl, rfl⟩))
  go_loop [9, 10, 11] (fun x p i => ∃ k : Nat, k ≤ lsz op ∧ i = .int .i64 k ∧ p = .int .i64 (p8 k) ∧ x = .int .i64 (raw l a k)) (fun _ _ i => lsz op - (intOf i).toNat)
  case atStart => exact ⟨0, Nat.zero_le _, rfl, rfl, rfl⟩
  case round =>
    obtain ⟨k, hk, rfl, rfl, rfl⟩ := hrel
    have rb := raw_bd l a k
    change _ ∧ _ < p8 k at rb
    have bb := bv_bd l (a + k)
    have pb := p8_bd (show k ≤ 4 by omega)
    by_cases hlt : k < lsz op
    · have hck := hc (a + k) (by omega)
      have pb3 := p8_bd3 (show k < 4 by omega)
      have hm0 : 0 ≤ bv l (a + k) * p8 k := Int.mul_nonneg bb.1 (by omega)
      have hm1 : bv l (a + k) * p8 k ≤ 255 * p8 k := Int.mul_le_mul_of_nonneg_right bb.2 (by omega)
      have HP : Hid (p8 (k + 1) = 256 * p8 k) := p8_succ k
      have HR : Hid (raw l a (k + 1) = raw l a k + bv l (a + k) * p8 k) := rfl
      clear hc
      go_wp2
      go_round
      case rel => exact ⟨k + 1, by omega, by go_num, by rw [HP.out], by rw [HR.out]⟩
      case measure => simp [intOf]; omega
    · obtain rfl : k = lsz op := by omega
      have c11 : Hid (op = 11 → p8 (lsz op) = 256) := fun e => by subst e; rfl
      have c12 : Hid (op = 12 → p8 (lsz op) = 65536) := fun e => by subst e; rfl
      clear hc hok hroom k1 k2 bb hk
      by_cases e1 : op = 11
      · have E : Hid (op = 11 ∨ op = 12) := Or.inl e1
        have b1 := beq_t e1
        clear e1
        by_cases hge : p8 (lsz op) / 2 ≤ raw l a (lsz op)
        · have F : Hid (Wd.lo (raw l a (lsz op) - p8 (lsz op)) = wide op (raw l a (lsz op))) := wide_neg c11.out c12.out E.out rb.1 rb.2 hge
          go_wp2_with (go_at_call 61; refine (Rw.Of_any _ _ (by omega) (by omega)).mono ?_; rintro e w' ⟨rfl, rfl⟩)
          go_ret2
          exact ⟨ret2 F.out, rfl⟩
        · have F : Hid (Wd.lo (raw l a (lsz op)) = wide op (raw l a (lsz op))) := wide_pos c11.out c12.out (fun _ => hge) rb.1 rb.2 pb.2
          go_wp2_with (go_at_call 61; refine (Rw.Of_any _ _ (by omega) (by omega)).mono ?_; rintro e w' ⟨rfl, rfl⟩)
          go_ret2
          exact ⟨ret2 F.out, rfl⟩
      by_cases e2 : op = 12
      · have E : Hid (op = 11 ∨ op = 12) := Or.inr e2
        have b1 := beq_f e1
        have b2 := beq_t e2
        clear e1 e2
        by_cases hge : p8 (lsz op) / 2 ≤ raw l a (lsz op)
        · have F : Hid (Wd.lo (raw l a (lsz op) - p8 (lsz op)) = wide op (raw l a (lsz op))) := wide_neg c11.out c12.out E.out rb.1 rb.2 hge
          go_wp2_with (go_at_call 61; refine (Rw.Of_any _ _ (by omega) (by omega)).mono ?_; rintro e w' ⟨rfl, rfl⟩)
          go_ret2
          exact ⟨ret2 F.out, rfl⟩
        · have F : Hid (Wd.lo (raw l a (lsz op)) = wide op (raw l a (lsz op))) := wide_pos c11.out c12.out (fun _ => hge) rb.1 rb.2 pb.2
          go_wp2_with (go_at_call 61; refine (Rw.Of_any _ _ (by omega) (by omega)).mono ?_; rintro e w' ⟨rfl, rfl⟩)
          go_ret2
          exact ⟨ret2 F.out, rfl⟩
      · have F : Hid (Wd.lo (raw l a (lsz op)) = wide op (raw l a (lsz op))) := wide_pos c11.out c12.out (fun h => absurd h (by omega)) rb.1 rb.2 pb.2
        have b1 := beq_f e1
        have b2 := beq_f e2
        clear e1 e2
        go_wp2_with (go_at_call 61; refine (Rw.Of_any _ _ (by omega) (by omega)).mono ?_; rintro e w' ⟨rfl, rfl⟩)
        go_ret2
        exact ⟨ret2 F.out, rfl⟩
/-- Load, of every memory, op and place. -/
theorem Load_any (cap : Nat) (op a : Int) (M : Mem w ao n l) (hn : n ≤ 140737488351232) (h0 : 0 ≤ a) (h1 : a < 4294967296) :
    Calls Tryd.prog 58 #[.slice ao n cap, .int .i64 op, .int .u32 a] w fun e w' => e = .returned (.tuple #[.int .u32 (ldV l op a), .bool (ldOk l op a)]) ∧ w' = w := by
  have hl := M.len
  cases hok : thr n (lsz op) a with
  | false =>
    have e1 : ldOk l op a = false := by unfold ldOk; rw [hl]; exact hok
    have e2 : ldV l op a = 0 := by unfold ldV; rw [e1]; rfl
    rw [e1, e2]
    exact Load_no ao n cap op a w hn h0 h1 hok
  | true =>
    have e1 : ldOk l op a = true := by unfold ldOk; rw [hl]; exact hok
    have e2 : ldV l op a = wide op (raw l a.toNat (lsz op)) := by unfold ldV; rw [e1]; rfl
    rw [e1, e2]
    obtain ⟨b, o, rfl, _, hc⟩ := M.spot (thr_pos hok h0)
    obtain ⟨a, rfl⟩ := Int.eq_ofNat_of_zero_le h0
    exact Load_yes b o n cap l op a w hn hl (by omega) hc hok

theorem Store_no (ao : Option Addr) (n cap : Nat) (op a x : Int) (w : World) (hn : n ≤ 140737488351232) (h0 : 0 ≤ a) (h1 : a < 4294967296) (hok : thr n (ssz op) a = false) :
    Calls Tryd.prog 94 #[.slice ao n cap, .int .i64 op, .int .u32 a, .int .u32 x] w fun e w' => e = .returned (.tuple #[.slice none 0 0, .bool false]) ∧ w' = w := by
  have hs := ssz_le op
  go_enter Tryd.func94, Tryd.ntmps94
  go_wp2_with (first | (go_at_call 88; refine (Size_store _ _).mono ?_; rintro e w' ⟨rfl, rfl⟩) | (go_at_call 89; refine (there_any _ _ _ _ _ _ hn hs (by omega) (by omega)).mono ?_; rintro e w' ⟨rfl, rfl⟩))
  go_ret2
  exact ⟨rfl, rfl⟩
theorem own_shape {base : Nat} {v : Value} (h : w.ownsRow base 5 1 v (0 + n) ([] ++ bc l)) (hv : ¬ v = .slice none 0 0) :
    ∃ g cap, v = .slice (some ⟨g, 0, none⟩) n cap ∧ Row w g l ∧ base ≤ g := by
  obtain ⟨hlen, hc⟩ := h
  rcases hc with ⟨h0, _⟩ | ⟨g', cap', cur, rfl, hb, hg, hn, hm, hs, htake⟩
  · exact absurd h0 hv
  · refine ⟨g', cap', by simp, ⟨cur.toList.drop ((0 + n) * 1), ?_⟩, hb⟩
    have : bc l = cur.toList.take ((0 + n) * 1) := by rw [htake]; rfl
    rw [this, List.take_append_drop]
    simpa using hg
def q8 (x : Int) (k : Nat) : Int := x / 256 ^ k
theorem q8_succ (x : Int) (k : Nat) : q8 x (k + 1) = q8 x k / 256 := by
  unfold q8
  rw [Int.pow_succ, Int.ediv_ediv_of_nonneg (by exact Int.pow_nonneg (by omega))]
theorem q8_bd (h0 : 0 ≤ x) (h1 : x < 4294967296) (k : Nat) : 0 ≤ q8 x k ∧ q8 x k < 4294967296 := by
  unfold q8
  exact ⟨Int.ediv_nonneg h0 (Int.pow_nonneg (by omega)), Int.lt_of_le_of_lt (Int.ediv_le_self _ h0) h1⟩
theorem Store_yes (b o n cap : Nat) (l : List UInt8) (op x : Int) (a : Nat) (w : World) (hn : n ≤ 140737488351232) (hl : l.length = n) (ha : a < 4294967296) (hb : b < w.heap.size) (hx0 : 0 ≤ x) (hx1 : x < 4294967296)
    (hc : ∀ t, t < n → w.cell? ⟨b, o + t, none⟩ = some (.int .u8 (bv l t))) (hok : thr n (ssz op) (a : Int) = true) :
    Calls Tryd.prog 94 #[.slice (some ⟨b, o, none⟩) n cap, .int .i64 op, .int .u32 a, .int .u32 x] w fun e w' => ∃ g cap', e = .returned (.tuple #[.slice (some ⟨g, 0, none⟩) n cap', .bool true]) ∧ Row w' g (put l a x (ssz op)) ∧ Gr w w' ∧ w.heap.size ≤ g := by
  have hs := ssz_le op
  have hk := hok
  simp only [thr, decide_eq_true_eq] at hk
  obtain ⟨k0, k1, k2⟩ := hk
  have hroom := ssz_room k1 ha k0
  obtain ⟨i0, hi, hz0, hz1, hz2⟩ := info_parts info5
  have HC : Hid _ := hc
  clear hc
  go_enter Tryd.func94, Tryd.ntmps94
  go_wp2_with (first
    | (go_at_call 88; refine (Size_store _ _).mono ?_; rintro e w' ⟨rfl, rfl⟩)
    | (go_at_call 89; refine (there_any _ _ _ _ _ _ hn hs (by omega) (by omega)).mono ?_; rintro e w' ⟨rfl, rfl⟩)
    | (at_builtin; refine wpList_append_own _ rfl (.tmp 21) (.tmp 22) 31 rfl _ 5 i0 (.int .u8 0) 1 1 Tryd.underlying31 hi hz0 hz1 hz2 rfl (by decide) _ 0 [] rfl (World.ownsRow_made _ #[] 0 (Nat.le_refl _) (by unfold maxLen; omega) rfl) _ n _ (bc l) rfl (by rw [bc_len, hl]; simp) (bc_src hl (fun t ht => (Gr.cell ((Gr.refl _).alloc _) _ (by exact hb)).trans (HC.out t ht))) (bc_one l) (by unfold maxLen; omega) (by omega) (by simp) ?_; intro v' w1 hown1 hgrow1 hnil; obtain ⟨g, cap', rfl, R0, hgb⟩ := own_shape hown1 (fun h => by have h2 := (hnil.1 h).1; cases h2); have B0 := Gr.grown ((Gr.refl _).alloc _) hgrow1 (fun k hk => by cases hk; exact Nat.le_refl _); clear hown1 hgrow1 hnil))
  clear HC hi hz0 hz1 hz2
  have hq0 : q8 x 0 = x := by unfold q8; simp
  have HQ : Hid _ := hq0
  clear hq0
  go_loopw [12, 13] (fun y i wr => ∃ k : Nat, k ≤ ssz op ∧ i = .int .i64 k ∧ y = .int .i64 (q8 x k) ∧ Row wr g (put l a x k) ∧ Gr w' wr) (fun _ i _ => ssz op - (intOf i).toNat)
  case atStart => exact ⟨0, Nat.zero_le _, rfl, by rw [HQ.out], R0, B0⟩
  case round =>
    obtain ⟨k, hk, rfl, rfl, R, G⟩ := hrel
    have qb := q8_bd hx0 hx1 k
    by_cases hlt : k < ssz op
    · have hp := len_put l a x k
      have hck := R.cell (t := a + k) (by omega)
      have hfk := R.frozen (a + k)
      have HS : Hid (Row (wr.setCell ⟨g, a + k, none⟩ (.int .u8 (q8 x k % 256))) g (put l a x (k + 1))) := R.set (t := a + k) (by omega) (q8 x k % 256) (by omega) (by omega)
      have HG : Hid _ := G
      have HN : Hid (q8 x (k + 1) = q8 x k / 256) := q8_succ x k
      clear R G R0 B0 hp
      go_wp2
      go_roundw
      case rel => exact ⟨k + 1, by omega, by go_num, by rw [HN.out], HS.out, HG.out.setCell hgb _⟩
      case measure => simp [intOf]; omega
    · obtain rfl : k = ssz op := by omega
      have HR : Hid _ := R
      have HG : Hid _ := G
      clear R G R0 B0
      go_wp2
      go_ret2
      exact ⟨g, cap', rfl, HR.out, HG.out, hgb⟩
/-- Store, of every memory, op, place and word. -/
theorem Store_new (cap : Nat) (op a x : Int) (M : Mem w ao n l) (hn : n ≤ 140737488351232) (h0 : 0 ≤ a) (h1 : a < 4294967296) (hx0 : 0 ≤ x) (hx1 : x < 4294967296) :
    Calls Tryd.prog 94 #[.slice ao n cap, .int .i64 op, .int .u32 a, .int .u32 x] w fun e w' =>
      ∃ ao' n' cap', e = .returned (.tuple #[.slice ao' n' cap', .bool (stOk l op a)]) ∧ Mem w' ao' n' (stL l op a x) ∧ Gr w w' ∧ ∀ ad, ao' = some ad → w.heap.size ≤ ad.block := by
  have hl := M.len
  cases hok : thr n (ssz op) a with
  | false =>
    have e1 : stOk l op a = false := by unfold stOk; rw [hl]; exact hok
    have e2 : stL l op a x = [] := by unfold stL; rw [e1]; rfl
    rw [e1, e2]
    refine (Store_no ao n cap op a x w hn h0 h1 hok).mono ?_
    rintro e w' ⟨rfl, rfl⟩
    exact ⟨none, 0, 0, rfl, Mem.none _, Gr.refl _, fun ad h => by cases h⟩
  | true =>
    have e1 : stOk l op a = true := by unfold stOk; rw [hl]; exact hok
    have e2 : stL l op a x = put l a.toNat x (ssz op) := by unfold stL; rw [e1]; rfl
    rw [e1, e2]
    obtain ⟨b, o, rfl, hb, hc⟩ := M.spot (thr_pos hok h0)
    obtain ⟨a, rfl⟩ := Int.eq_ofNat_of_zero_le h0
    refine (Store_yes b o n cap l op x a w hn hl (by omega) hb hx0 hx1 hc hok).mono ?_
    rintro e w' ⟨g, cap', rfl, R, G, hg⟩
    refine ⟨_, _, _, rfl, ?_, G, fun ad h => by cases h; exact hg⟩
    have := R.mem
    rwa [len_put, hl] at this

/-- Store, of every memory, op, place and word. -/
theorem Store_any (cap : Nat) (op a x : Int) (M : Mem w ao n l) (hn : n ≤ 140737488351232) (h0 : 0 ≤ a) (h1 : a < 4294967296) (hx0 : 0 ≤ x) (hx1 : x < 4294967296) :
    Calls Tryd.prog 94 #[.slice ao n cap, .int .i64 op, .int .u32 a, .int .u32 x] w fun e w' =>
      ∃ ao' n' cap', e = .returned (.tuple #[.slice ao' n' cap', .bool (stOk l op a)]) ∧ Mem w' ao' n' (stL l op a x) ∧ Gr w w' := by
  refine (Store_new cap op a x M hn h0 h1 hx0 hx1).mono ?_
  rintro e w' ⟨a1, n1, c1, rfl, M1, G1, _⟩
  exact ⟨a1, n1, c1, rfl, M1, G1⟩

/-- The string of the bytes l. -/
def sof (l : List UInt8) : ByteArray := ⟨l.toArray⟩
theorem sof_eq (a b : List UInt8) : ((sof a).toList == (sof b).toList) = decide (a = b) := by
  rw [ByteArray.toList_eq, ByteArray.toList_eq]
  show (a == b) = _
  exact (Bool.eq_iff_iff.2 (by simp))
theorem conv_any (cap : Nat) (M : Mem w ao n l) : (convert 31 9 (.slice ao n cap)).run Tryd.prog w = .ok (.string (sof l)) w := by
  have hl := M.len
  cases ao with
  | none =>
    have h0 := M.nil rfl
    subst h0
    obtain rfl : l = [] := List.length_eq_zero_iff.1 hl
    rw [run_convert_bytes_string w 31 9 5 none 0 cap Tryd.underlying31 Tryd.underlying5 Tryd.underlying9]
    rfl
  | some ad =>
    subst hl
    exact run_convert_bytes_back w 31 9 5 ad cap l Tryd.underlying31 Tryd.underlying5 Tryd.underlying9 (fun j hj => by rw [M.cell ad rfl j hj, bv_of hj])
theorem Bytes_any {bo : Option Addr} {m : Nat} (ca cb : Nat) {k : List UInt8} (A : Mem w ao n l) (B : Mem w bo m k) :
    Calls Tryd.prog 30 #[.slice ao n ca, .slice bo m cb] w fun e w' => e = .returned (.bool (decide (l = k))) ∧ w' = w := by
  have hA := conv_any ca A
  have hB := conv_any cb B
  have HE : Hid (((sof l).toList == (sof k).toList) = decide (l = k)) := sof_eq l k
  clear A B
  go_enter Tryd.func30, Tryd.ntmps30
  go_wp2
  go_ret
  exact ⟨ret_bool HE.out, rfl⟩
end Go.Proofs.YtdiofidmlgliiaaDoor.Mr
