/-
  What is proved: for every bytes, place and word: what is stored is loaded, as much of it as there is room for, and all other bytes are as they were. Conditions: none.
-/
import Derived.Test.YtldkjgnlkcadaaaMemArgs
import Derived.Test.YtldkjgnlkcadaaaMemWalks
import Derived.ProofKit
import Derived.SizedLaws
import Derived.OpenShut
import Derived.Deep.QuietTactic
import Derived.BigQuiet
namespace Go.Proofs.Ytldkjgnlkcadaaa.memBack
open Go.ChangeShapes Go.WideShapes Go.ChangeAt Go.RowKit Mm
set_option linter.unusedVariables false
set_option linter.unusedSimpArgs false

theorem loads_any (op : Int) (w : World) : Calls Try.prog 19 #[.int .i64 op] w fun e w' => e = .returned (.int .i64 (if op = 16 then 14 else if op = 17 then 15 else 13)) ∧ w' = w := by
  go_enter Try.func19, Try.ntmps19
  go_wp2
  all_goals
    go_ret
    refine ⟨ret_int ?_, rfl⟩
    simp only [beq_iff_eq, beq_eq_false_iff_ne, ne_eq] at *
    repeat' split
    all_goals omega

theorem raw_put (l : List UInt8) (a : Nat) (x : Int) (N : Nat) (h : a + N ≤ l.length) : ∀ k, k ≤ N → raw (put l a x N) a k = x % 256 ^ k
  | 0, _ => by simp [raw, Int.emod_one]
  | k + 1, hk => by
    unfold raw
    rw [raw_put l a x N h k (by omega), bv_put l a x N (a + k) (by omega), if_pos (by omega), Nat.add_sub_cancel_left]
    have hp : (0 : Int) < 256 ^ k := Int.pow_pos (by omega)
    rw [Int.pow_succ]
    generalize (256 : Int) ^ k = p at *
    have h1 := Int.mul_ediv_add_emod x p
    have h2 := Int.mul_ediv_add_emod (x / p) 256
    have h3 : x % (p * 256) = x - p * 256 * (x / (p * 256)) := by
      have := Int.mul_ediv_add_emod x (p * 256); omega
    rw [h3, ← Int.ediv_ediv_of_nonneg (by omega)]
    generalize x / p = q at *
    generalize q / 256 = t at *
    generalize q % 256 = u at *
    have e1 : p * q = p * 256 * t + p * u := by rw [← h2, Int.mul_add, ← Int.mul_assoc]
    rw [Int.mul_comm u p]
    omega
theorem and_mask (x : Int) (k : Nat) (hk : k ≤ 32) (h0 : 0 ≤ x) (h1 : x < 4294967296) : bits .and .u32 x (2 ^ k - 1) = x % 2 ^ k := by
  obtain ⟨x, rfl⟩ := Int.eq_ofNat_of_zero_le h0
  have hp : 2 ^ k ≤ 2 ^ 32 := Nat.pow_le_pow_right (by omega) hk
  have hpp : 0 < 2 ^ k := Nat.two_pow_pos _
  have e : ((2 : Int) ^ k - 1) = ((2 ^ k - 1 : Nat) : Int) := by
    rw [Int.natCast_sub (by omega)]; simp
  have hm : x % 2 ^ k ≤ x := Nat.mod_le _ _
  rw [e]
  show IntKind.u32.wrap ((BitVec.ofInt 32 (x : Int) &&& BitVec.ofInt 32 ((2 ^ k - 1 : Nat) : Int)).toNat : Int) = _
  rw [BitVec.toNat_and, ofInt32 x h1, ofInt32 _ (by omega), Nat.and_two_pow_sub_one_eq_mod]
  show ((x % 2 ^ k : Nat) : Int) % 4294967296 = _
  rw [show ((x : Int) % 2 ^ k) = ((x % 2 ^ k : Nat) : Int) by simp]
  omega
theorem and_mask' (x : Int) (k : Nat) (m P : Int) (hk : k ≤ 32) (h0 : 0 ≤ x) (h1 : x < 4294967296) (e : (2 : Int) ^ k = P) (e2 : m = P - 1) : bits .and .u32 x m = x % P := by
  have := and_mask x k hk h0 h1
  rw [e] at this
  rw [e2]
  exact this
theorem others {l : List UInt8} {op a x : Int} (ok : stOk l op a = true) (h0 : 0 ≤ a) (i : Nat) (hi : i < l.length) (h : (i : Int) < a ∨ a + ssz op ≤ i) : bv (stL l op a x) i = bv l i := by
  unfold stL
  rw [ok]
  show bv (put _ _ _ _) i = _
  rw [bv_put _ _ _ _ _ hi, if_neg (by omega)]
theorem back {l : List UInt8} {op lop a x P : Int} (hP : (256 : Int) ^ ssz op = P) (hs : lsz lop = ssz op) (hw : ∀ y, wide lop y = y) (ok : stOk l op a = true) (h0 : 0 ≤ a) : ldOk (stL l op a x) lop a = true ∧ ldV (stL l op a x) lop a = x % P := by
  rw [← hP]
  have hok : ldOk (stL l op a x) lop a = true := by
    unfold ldOk
    rw [stL_len ok, hs]
    exact ok
  refine ⟨hok, ?_⟩
  unfold ldV
  rw [hok]
  show wide _ _ = _
  rw [hw, hs]
  have ok' := ok
  simp only [stOk, thr, decide_eq_true_eq] at ok'
  unfold stL
  rw [ok]
  exact raw_put l a.toNat x (ssz op) (by omega) _ (Nat.le_refl _)
theorem same_ok (l : List UInt8) {op lop : Int} (a : Int) (hs : lsz lop = ssz op) (ok : stOk l op a = false) : ldOk l lop a = false := by
  unfold ldOk; rw [hs]; exact ok
theorem one_ok : stOk [0] 16 0 = true := by decide
theorem one_is : stL [0] 16 0 7 = [7] := by decide
theorem one_mem (w : World) (t : Nat) : Mem (w.alloc (.cells #[.int .u8 0] t)) (some ⟨w.heap.size, 0, none⟩) 1 [0] := by
  refine Mem.at rfl fun j hj => ?_
  obtain rfl : j = 0 := by omega
  simp
  rfl
theorem mid_cell (w : World) (ca cb cc : Array Value) (t u v r : Nat) : (((w.alloc (.cells ca t)).alloc (.cells cb u)).alloc (.cells cc v)).cell? ⟨w.heap.size + 1, r, none⟩ = cb[r]? := by
  have e : (w.alloc (.cells ca t)).heap.size = w.heap.size + 1 := by simp
  rw [cell_of_row _ _ r cb u (0, 0) (by
    rw [← e]
    exact heap_alloc2_old _ _ _)]
theorem len_of {w : World} {ao : Option Addr} {n : Nat} {l : List UInt8} (M : Mem w ao n l) : n = l.length := M.len.symm


set_option maxHeartbeats 1000000 in
theorem no_0 {ao : Option Addr} {n : Nat} (cap : Nat) {l : List UInt8} (q a x : Int) {w : World} (M : Mem w ao n l) (hn : n ≤ 140737488351232) (hq0 : 0 ≤ q) (hq1 : q ≤ 255) (hq : q % 3 = 0) (h0 : 0 ≤ a) (h1 : a < 4294967296) (hx0 : 0 ≤ x) (hx1 : x < 4294967296) (ok : stOk l 16 a = false) :
    Calls Try.prog 7 #[.slice ao n cap, .int .u8 q, .int .u32 a, .int .u32 x] w fun e w' => e = .returned (.bool true) ∧ Gr w w' := by
  have HM : Hid (Mem w ao n l) := M
  have HO : Hid (stOk l 16 a = false) := ok
  have HL : Hid (ldOk l 14 a = false) := same_ok l a rfl ok
  clear M ok
  go_enter Try.func7, Try.ntmps7
  go_wp2_with fail
  refine (Store_any _ 16 a x (HM.out.of ((((Gr.refl _).alloc _).alloc _).alloc _)) hn h0 h1 hx0 hx1).mono ?_
  rintro e w1 ⟨a1, n1, c1, rfl, M1, G1⟩
  have hl1 : n1 = 0 := by rw [len_of M1]; unfold stL; rw [HO.out]; rfl
  subst hl1
  have HG : Hid (Gr w w1) := Gr.trans ((((Gr.refl _).alloc _).alloc _).alloc _) G1
  rw [HO.out]
  clear M1 G1
  go_wp2_with (go_at_call 19; refine (loads_any _ _).mono ?_; rintro e w' ⟨rfl, rfl⟩)
  refine (Load_any _ 14 a (HM.out.of HG.out) hn h0 h1).mono ?_
  rintro e w2 ⟨rfl, rfl⟩
  rw [HL.out]
  go_wp2_with fail
  refine (Store_any _ 16 0 7 (one_mem _ _) (by omega) (by omega) (by omega) (by omega) (by omega)).mono ?_
  rintro e w3 ⟨a3, n3, c3, rfl, M3, G3⟩
  rw [one_is] at M3
  rw [one_ok]
  obtain rfl := len_of M3
  obtain ⟨b3, o3, rfl, hb3, hc3⟩ := M3.spot (by decide)
  have hc := hc3 0 (by decide)
  have hv : bv [7] 0 = 7 := by decide
  rw [hv, Nat.add_zero] at hc
  have HG3 : Hid (Gr w w3) := (HG.out.alloc _).trans G3
  clear M3 G3 hc3 hv
  go_wp2_with fail
  go_ret
  exact ⟨rfl, HG3.out⟩


set_option maxHeartbeats 1000000 in
theorem no_1 {ao : Option Addr} {n : Nat} (cap : Nat) {l : List UInt8} (q a x : Int) {w : World} (M : Mem w ao n l) (hn : n ≤ 140737488351232) (hq0 : 0 ≤ q) (hq1 : q ≤ 255) (hq : q % 3 = 1) (h0 : 0 ≤ a) (h1 : a < 4294967296) (hx0 : 0 ≤ x) (hx1 : x < 4294967296) (ok : stOk l 17 a = false) :
    Calls Try.prog 7 #[.slice ao n cap, .int .u8 q, .int .u32 a, .int .u32 x] w fun e w' => e = .returned (.bool true) ∧ Gr w w' := by
  have HM : Hid (Mem w ao n l) := M
  have HO : Hid (stOk l 17 a = false) := ok
  have HL : Hid (ldOk l 15 a = false) := same_ok l a rfl ok
  clear M ok
  go_enter Try.func7, Try.ntmps7
  go_wp2_with fail
  refine (Store_any _ 17 a x (HM.out.of ((((Gr.refl _).alloc _).alloc _).alloc _)) hn h0 h1 hx0 hx1).mono ?_
  rintro e w1 ⟨a1, n1, c1, rfl, M1, G1⟩
  have hl1 : n1 = 0 := by rw [len_of M1]; unfold stL; rw [HO.out]; rfl
  subst hl1
  have HG : Hid (Gr w w1) := Gr.trans ((((Gr.refl _).alloc _).alloc _).alloc _) G1
  rw [HO.out]
  clear M1 G1
  go_wp2_with (go_at_call 19; refine (loads_any _ _).mono ?_; rintro e w' ⟨rfl, rfl⟩)
  refine (Load_any _ 15 a (HM.out.of HG.out) hn h0 h1).mono ?_
  rintro e w2 ⟨rfl, rfl⟩
  rw [HL.out]
  go_wp2_with fail
  refine (Store_any _ 16 0 7 (one_mem _ _) (by omega) (by omega) (by omega) (by omega) (by omega)).mono ?_
  rintro e w3 ⟨a3, n3, c3, rfl, M3, G3⟩
  rw [one_is] at M3
  rw [one_ok]
  obtain rfl := len_of M3
  obtain ⟨b3, o3, rfl, hb3, hc3⟩ := M3.spot (by decide)
  have hc := hc3 0 (by decide)
  have hv : bv [7] 0 = 7 := by decide
  rw [hv, Nat.add_zero] at hc
  have HG3 : Hid (Gr w w3) := (HG.out.alloc _).trans G3
  clear M3 G3 hc3 hv
  go_wp2_with fail
  go_ret
  exact ⟨rfl, HG3.out⟩


set_option maxHeartbeats 1000000 in
theorem no_2 {ao : Option Addr} {n : Nat} (cap : Nat) {l : List UInt8} (q a x : Int) {w : World} (M : Mem w ao n l) (hn : n ≤ 140737488351232) (hq0 : 0 ≤ q) (hq1 : q ≤ 255) (hq : q % 3 = 2) (h0 : 0 ≤ a) (h1 : a < 4294967296) (hx0 : 0 ≤ x) (hx1 : x < 4294967296) (ok : stOk l 18 a = false) :
    Calls Try.prog 7 #[.slice ao n cap, .int .u8 q, .int .u32 a, .int .u32 x] w fun e w' => e = .returned (.bool true) ∧ Gr w w' := by
  have HM : Hid (Mem w ao n l) := M
  have HO : Hid (stOk l 18 a = false) := ok
  have HL : Hid (ldOk l 13 a = false) := same_ok l a rfl ok
  clear M ok
  go_enter Try.func7, Try.ntmps7
  go_wp2_with fail
  refine (Store_any _ 18 a x (HM.out.of ((((Gr.refl _).alloc _).alloc _).alloc _)) hn h0 h1 hx0 hx1).mono ?_
  rintro e w1 ⟨a1, n1, c1, rfl, M1, G1⟩
  have hl1 : n1 = 0 := by rw [len_of M1]; unfold stL; rw [HO.out]; rfl
  subst hl1
  have HG : Hid (Gr w w1) := Gr.trans ((((Gr.refl _).alloc _).alloc _).alloc _) G1
  rw [HO.out]
  clear M1 G1
  go_wp2_with (go_at_call 19; refine (loads_any _ _).mono ?_; rintro e w' ⟨rfl, rfl⟩)
  refine (Load_any _ 13 a (HM.out.of HG.out) hn h0 h1).mono ?_
  rintro e w2 ⟨rfl, rfl⟩
  rw [HL.out]
  go_wp2_with fail
  refine (Store_any _ 16 0 7 (one_mem _ _) (by omega) (by omega) (by omega) (by omega) (by omega)).mono ?_
  rintro e w3 ⟨a3, n3, c3, rfl, M3, G3⟩
  rw [one_is] at M3
  rw [one_ok]
  obtain rfl := len_of M3
  obtain ⟨b3, o3, rfl, hb3, hc3⟩ := M3.spot (by decide)
  have hc := hc3 0 (by decide)
  have hv : bv [7] 0 = 7 := by decide
  rw [hv, Nat.add_zero] at hc
  have HG3 : Hid (Gr w w3) := (HG.out.alloc _).trans G3
  clear M3 G3 hc3 hv
  go_wp2_with fail
  go_ret
  exact ⟨rfl, HG3.out⟩


theorem wide_14 (y : Int) : wide 14 y = y := rfl
set_option maxHeartbeats 2000000 in
theorem yes_0 {ao : Option Addr} {n : Nat} (cap : Nat) {l : List UInt8} (q a x : Int) {w : World} (M : Mem w ao n l) (hn : n ≤ 140737488351232) (hq0 : 0 ≤ q) (hq1 : q ≤ 255) (hq : q % 3 = 0) (h0 : 0 ≤ a) (h1 : a < 4294967296) (hx0 : 0 ≤ x) (hx1 : x < 4294967296) (ok : stOk l 16 a = true) :
    Calls Try.prog 7 #[.slice ao n cap, .int .u8 q, .int .u32 a, .int .u32 x] w fun e w' => e = .returned (.bool true) ∧ Gr w w' := by
  have hl : Hid (n = l.length) := len_of M
  have hpos : 0 < n := by rw [hl.out]; exact thr_pos ok h0
  obtain ⟨b, o, rfl, hb, hc⟩ := M.spot hpos
  have HC : Hid (∀ t, t < n → w.cell? ⟨b, o + t, none⟩ = some (.int .u8 (bv l t))) := hc
  clear hc
  have HB := back (x := x) (op := 16) (lop := 14) (P := 256) (by decide) rfl wide_14 ok h0
  have HO : Hid (stOk l 16 a = true) := ok
  have HL : Hid (ldOk (stL l 16 a x) 14 a = true) := HB.1
  have HV : Hid (ldV (stL l 16 a x) 14 a = x % 256) := HB.2
  have HA : bits .and .u32 x 255 = x % 256 := and_mask' x 8 255 256 (by omega) hx0 hx1 (by decide) (by decide)
  have hlen : Hid ((stL l 16 a x).length = n) := by show _ = _; rw [stL_len ok, hl.out]
  have HT : Hid (∀ i : Nat, i < n → ((i : Int) < a ∨ a + 1 ≤ i) → bv (stL l 16 a x) i = bv l i) := fun i hi h => others ok h0 i (by have := hl.out; omega) h
  have S1 : Hid (∀ W : World, Gr w W → Calls Try.prog 15 #[.slice (some ⟨b, o, none⟩) n cap, .int .i64 16, .int .u32 a, .int .u32 x] W fun e w' => ∃ ao' n' cap', e = .returned (.tuple #[.slice ao' n' cap', .bool true]) ∧ Mem w' ao' n' (stL l 16 a x) ∧ Gr W w') := fun W G => by
    have := Store_any cap 16 a x (M.of G) hn h0 h1 hx0 hx1
    rwa [ok] at this
  generalize stL l 16 a x = k at *
  clear M ok HB HO
  go_enter Try.func7, Try.ntmps7
  go_wp2_with fail
  refine (S1.out _ ((((Gr.refl _).alloc _).alloc _).alloc _)).mono ?_
  rintro e w1 ⟨a1, n1, c1, rfl, M1, G1⟩
  obtain rfl : n1 = n := (len_of M1).trans hlen.out
  have hcm : w1.cell? ⟨w.heap.size + 1, 0, none⟩ = some (.int .u32 255) := (G1.cell ⟨w.heap.size + 1, 0, none⟩ (by simp)).trans (mid_cell w _ _ _ _ _ _ 0)
  have HG : Hid (Gr w w1) := Gr.trans ((((Gr.refl _).alloc _).alloc _).alloc _) G1
  have HK : Hid (Mem w1 a1 n1 k) := M1
  clear M1 G1 S1
  go_wp2_with (go_at_call 19; refine (loads_any _ _).mono ?_; rintro e w' ⟨rfl, rfl⟩)
  refine (Load_any _ 14 a HK.out hn h0 h1).mono ?_
  rintro e w2 ⟨rfl, rfl⟩
  rw [HL.out, HV.out]
  obtain ⟨b1, o1, rfl, hb1, hc1⟩ := HK.out.spot hpos
  have HC1 : Hid (∀ t, t < n1 → w2.cell? ⟨b1, o1 + t, none⟩ = some (.int .u8 (bv k t))) := hc1
  have HGs : Hid (w.heap.size ≤ w2.heap.size) := HG.out.size
  clear hc1 HK HL HV hlen hl
  go_wp2_with fail
  clear hcm HA hq
  go_loopw [22] (fun i wr => ∃ j : Nat, j ≤ n1 ∧ i = .int .i64 j ∧ Gr w2 wr) (fun i _ => n1 - (intOf i).toNat)
  case atStart => exact ⟨0, Nat.zero_le _, rfl, Gr.refl _⟩
  case round =>
    obtain ⟨j, hj, rfl, G⟩ := hrel
    have HW : Hid (Gr w2 wr) := G
    by_cases hlt : j < n1
    · have c1 : wr.cell? ⟨b1, o1 + j, none⟩ = some (.int .u8 (bv k j)) := (G.cell _ (by exact hb1)).trans (HC1.out j hlt)
      have c0 : wr.cell? ⟨b, o + j, none⟩ = some (.int .u8 (bv l j)) := (G.cell _ (by have := HGs.out; exact Nat.lt_of_lt_of_le hb this)).trans ((HG.out.cell _ (by exact hb)).trans (HC.out j hlt))
      clear G
      by_cases d1 : (j : Int) < a
      · have hv : bv k j = bv l j := HT.out j hlt (.inl d1)
        rw [hv] at c1
        clear hv
        generalize bv l j = v at *
        have D1 : decide ((j : Int) < a) = true := by simpa using d1
        go_wp2_with fail
        refine wp_region_quiet_lit (by kernel_rfl) (by kernel_rfl) ?_
        go_big_quiet_step (fail)
        go_big_quiet_step (fail)
        go_big_quiet_step (fail)
        go_big_quiet_step (fail)
        go_big_quiet_step (fail)
        go_big_quiet_step (fail)
        go_big_quiet_step (fail)
        go_big_quiet_step (fail)
        go_big_quiet_step (fail)
        go_big_quiet_step (fail)
        go_big_quiet_step (fail)
        go_big_quiet_step (fail)
        go_big_quiet_step (fail)
        go_big_quiet_step (fail)
        go_big_quiet_step (fail)
        go_big_quiet_step (fail)
        go_big_quiet_step (fail)
        go_big_quiet_step (fail)
        go_big_quiet_step (fail)
        go_big_quiet_step (fail)
        go_big_quiet_step (fail)
        go_big_quiet_step (fail)
        go_big_quiet_step (fail)
        refine wpQuiet_nil ?_
        intro _ hqz
        obtain ⟨nq, hqy⟩ := hqz
        subst hqy
        go_wp2_with fail
        go_roundw
        case rel =>
          have R : ∃ j1 : Nat, j1 ≤ n1 ∧ Value.int .i64 ((j : Int) + 1) = .int .i64 (j1 : Int) ∧ Gr w2 (wr.drewN nq) := ⟨j + 1, by omega, by go_num, HW.out.drewN _⟩
          first
            | exact R
            | ((repeat apply Exists.intro); exact ⟨R, rfl⟩)
        case measure => simp [intOf]; omega
      by_cases d2 : a + 1 ≤ (j : Int)
      · have hv : bv k j = bv l j := HT.out j hlt (.inr d2)
        rw [hv] at c1
        clear hv
        generalize bv l j = v at *
        have D1 : decide ((j : Int) < a) = false := by simpa using d1
        have D2 : decide (a + 1 ≤ (j : Int)) = true := by simpa using d2
        go_wp2_with fail
        refine wp_region_quiet_lit (by kernel_rfl) (by kernel_rfl) ?_
        go_big_quiet_step (fail)
        go_big_quiet_step (fail)
        go_big_quiet_step (fail)
        go_big_quiet_step (fail)
        go_big_quiet_step (fail)
        go_big_quiet_step (fail)
        go_big_quiet_step (fail)
        go_big_quiet_step (fail)
        go_big_quiet_step (fail)
        go_big_quiet_step (fail)
        go_big_quiet_step (fail)
        go_big_quiet_step (fail)
        go_big_quiet_step (fail)
        go_big_quiet_step (fail)
        go_big_quiet_step (fail)
        go_big_quiet_step (fail)
        go_big_quiet_step (fail)
        go_big_quiet_step (fail)
        go_big_quiet_step (fail)
        go_big_quiet_step (fail)
        go_big_quiet_step (fail)
        go_big_quiet_step (fail)
        go_big_quiet_step (fail)
        refine wpQuiet_nil ?_
        intro _ hqz
        obtain ⟨nq, hqy⟩ := hqz
        subst hqy
        go_wp2_with fail
        go_roundw
        case rel =>
          have R : ∃ j1 : Nat, j1 ≤ n1 ∧ Value.int .i64 ((j : Int) + 1) = .int .i64 (j1 : Int) ∧ Gr w2 (wr.drewN nq) := ⟨j + 1, by omega, by go_num, HW.out.drewN _⟩
          first
            | exact R
            | ((repeat apply Exists.intro); exact ⟨R, rfl⟩)
        case measure => simp [intOf]; omega
      · have D1 : decide ((j : Int) < a) = false := by simpa using d1
        have D2 : decide (a + 1 ≤ (j : Int)) = false := by simpa using d2
        go_wp2_with fail
        refine wp_region_quiet_lit (by kernel_rfl) (by kernel_rfl) ?_
        go_big_quiet_step (fail)
        go_big_quiet_step (fail)
        go_big_quiet_step (fail)
        go_big_quiet_step (fail)
        go_big_quiet_step (fail)
        go_big_quiet_step (fail)
        go_big_quiet_step (fail)
        go_big_quiet_step (fail)
        go_big_quiet_step (fail)
        go_big_quiet_step (fail)
        go_big_quiet_step (fail)
        go_big_quiet_step (fail)
        go_big_quiet_step (fail)
        go_big_quiet_step (fail)
        go_big_quiet_step (fail)
        go_big_quiet_step (fail)
        go_big_quiet_step (fail)
        go_big_quiet_step (fail)
        go_big_quiet_step (fail)
        go_big_quiet_step (fail)
        go_big_quiet_step (fail)
        go_big_quiet_step (fail)
        go_big_quiet_step (fail)
        refine wpQuiet_nil ?_
        intro _ hqz
        obtain ⟨nq, hqy⟩ := hqz
        subst hqy
        go_wp2_with fail
        go_roundw
        case rel =>
          have R : ∃ j1 : Nat, j1 ≤ n1 ∧ Value.int .i64 ((j : Int) + 1) = .int .i64 (j1 : Int) ∧ Gr w2 (wr.drewN nq) := ⟨j + 1, by omega, by go_num, HW.out.drewN _⟩
          first
            | exact R
            | ((repeat apply Exists.intro); exact ⟨R, rfl⟩)
        case measure => simp [intOf]; omega
    · clear G
      go_wp2_with fail
      go_ret
      exact ⟨rfl, HG.out.trans HW.out⟩


theorem wide_15 (y : Int) : wide 15 y = y := rfl
set_option maxHeartbeats 2000000 in
theorem yes_1 {ao : Option Addr} {n : Nat} (cap : Nat) {l : List UInt8} (q a x : Int) {w : World} (M : Mem w ao n l) (hn : n ≤ 140737488351232) (hq0 : 0 ≤ q) (hq1 : q ≤ 255) (hq : q % 3 = 1) (h0 : 0 ≤ a) (h1 : a < 4294967296) (hx0 : 0 ≤ x) (hx1 : x < 4294967296) (ok : stOk l 17 a = true) :
    Calls Try.prog 7 #[.slice ao n cap, .int .u8 q, .int .u32 a, .int .u32 x] w fun e w' => e = .returned (.bool true) ∧ Gr w w' := by
  have hl : Hid (n = l.length) := len_of M
  have hpos : 0 < n := by rw [hl.out]; exact thr_pos ok h0
  obtain ⟨b, o, rfl, hb, hc⟩ := M.spot hpos
  have HC : Hid (∀ t, t < n → w.cell? ⟨b, o + t, none⟩ = some (.int .u8 (bv l t))) := hc
  clear hc
  have HB := back (x := x) (op := 17) (lop := 15) (P := 65536) (by decide) rfl wide_15 ok h0
  have HO : Hid (stOk l 17 a = true) := ok
  have HL : Hid (ldOk (stL l 17 a x) 15 a = true) := HB.1
  have HV : Hid (ldV (stL l 17 a x) 15 a = x % 65536) := HB.2
  have HA : bits .and .u32 x 65535 = x % 65536 := and_mask' x 16 65535 65536 (by omega) hx0 hx1 (by decide) (by decide)
  have hlen : Hid ((stL l 17 a x).length = n) := by show _ = _; rw [stL_len ok, hl.out]
  have HT : Hid (∀ i : Nat, i < n → ((i : Int) < a ∨ a + 2 ≤ i) → bv (stL l 17 a x) i = bv l i) := fun i hi h => others ok h0 i (by have := hl.out; omega) h
  have S1 : Hid (∀ W : World, Gr w W → Calls Try.prog 15 #[.slice (some ⟨b, o, none⟩) n cap, .int .i64 17, .int .u32 a, .int .u32 x] W fun e w' => ∃ ao' n' cap', e = .returned (.tuple #[.slice ao' n' cap', .bool true]) ∧ Mem w' ao' n' (stL l 17 a x) ∧ Gr W w') := fun W G => by
    have := Store_any cap 17 a x (M.of G) hn h0 h1 hx0 hx1
    rwa [ok] at this
  generalize stL l 17 a x = k at *
  clear M ok HB HO
  go_enter Try.func7, Try.ntmps7
  go_wp2_with fail
  refine (S1.out _ ((((Gr.refl _).alloc _).alloc _).alloc _)).mono ?_
  rintro e w1 ⟨a1, n1, c1, rfl, M1, G1⟩
  obtain rfl : n1 = n := (len_of M1).trans hlen.out
  have hcm : w1.cell? ⟨w.heap.size + 1, 1, none⟩ = some (.int .u32 65535) := (G1.cell ⟨w.heap.size + 1, 1, none⟩ (by simp)).trans (mid_cell w _ _ _ _ _ _ 1)
  have HG : Hid (Gr w w1) := Gr.trans ((((Gr.refl _).alloc _).alloc _).alloc _) G1
  have HK : Hid (Mem w1 a1 n1 k) := M1
  clear M1 G1 S1
  go_wp2_with (go_at_call 19; refine (loads_any _ _).mono ?_; rintro e w' ⟨rfl, rfl⟩)
  refine (Load_any _ 15 a HK.out hn h0 h1).mono ?_
  rintro e w2 ⟨rfl, rfl⟩
  rw [HL.out, HV.out]
  obtain ⟨b1, o1, rfl, hb1, hc1⟩ := HK.out.spot hpos
  have HC1 : Hid (∀ t, t < n1 → w2.cell? ⟨b1, o1 + t, none⟩ = some (.int .u8 (bv k t))) := hc1
  have HGs : Hid (w.heap.size ≤ w2.heap.size) := HG.out.size
  clear hc1 HK HL HV hlen hl
  go_wp2_with fail
  clear hcm HA hq
  go_loopw [22] (fun i wr => ∃ j : Nat, j ≤ n1 ∧ i = .int .i64 j ∧ Gr w2 wr) (fun i _ => n1 - (intOf i).toNat)
  case atStart => exact ⟨0, Nat.zero_le _, rfl, Gr.refl _⟩
  case round =>
    obtain ⟨j, hj, rfl, G⟩ := hrel
    have HW : Hid (Gr w2 wr) := G
    by_cases hlt : j < n1
    · have c1 : wr.cell? ⟨b1, o1 + j, none⟩ = some (.int .u8 (bv k j)) := (G.cell _ (by exact hb1)).trans (HC1.out j hlt)
      have c0 : wr.cell? ⟨b, o + j, none⟩ = some (.int .u8 (bv l j)) := (G.cell _ (by have := HGs.out; exact Nat.lt_of_lt_of_le hb this)).trans ((HG.out.cell _ (by exact hb)).trans (HC.out j hlt))
      clear G
      by_cases d1 : (j : Int) < a
      · have hv : bv k j = bv l j := HT.out j hlt (.inl d1)
        rw [hv] at c1
        clear hv
        generalize bv l j = v at *
        have D1 : decide ((j : Int) < a) = true := by simpa using d1
        go_wp2_with fail
        refine wp_region_quiet_lit (by kernel_rfl) (by kernel_rfl) ?_
        go_big_quiet_step (fail)
        go_big_quiet_step (fail)
        go_big_quiet_step (fail)
        go_big_quiet_step (fail)
        go_big_quiet_step (fail)
        go_big_quiet_step (fail)
        go_big_quiet_step (fail)
        go_big_quiet_step (fail)
        go_big_quiet_step (fail)
        go_big_quiet_step (fail)
        go_big_quiet_step (fail)
        go_big_quiet_step (fail)
        go_big_quiet_step (fail)
        go_big_quiet_step (fail)
        go_big_quiet_step (fail)
        go_big_quiet_step (fail)
        go_big_quiet_step (fail)
        go_big_quiet_step (fail)
        go_big_quiet_step (fail)
        go_big_quiet_step (fail)
        go_big_quiet_step (fail)
        go_big_quiet_step (fail)
        go_big_quiet_step (fail)
        refine wpQuiet_nil ?_
        intro _ hqz
        obtain ⟨nq, hqy⟩ := hqz
        subst hqy
        go_wp2_with fail
        go_roundw
        case rel =>
          have R : ∃ j1 : Nat, j1 ≤ n1 ∧ Value.int .i64 ((j : Int) + 1) = .int .i64 (j1 : Int) ∧ Gr w2 (wr.drewN nq) := ⟨j + 1, by omega, by go_num, HW.out.drewN _⟩
          first
            | exact R
            | ((repeat apply Exists.intro); exact ⟨R, rfl⟩)
        case measure => simp [intOf]; omega
      by_cases d2 : a + 2 ≤ (j : Int)
      · have hv : bv k j = bv l j := HT.out j hlt (.inr d2)
        rw [hv] at c1
        clear hv
        generalize bv l j = v at *
        have D1 : decide ((j : Int) < a) = false := by simpa using d1
        have D2 : decide (a + 2 ≤ (j : Int)) = true := by simpa using d2
        go_wp2_with fail
        refine wp_region_quiet_lit (by kernel_rfl) (by kernel_rfl) ?_
        go_big_quiet_step (fail)
        go_big_quiet_step (fail)
        go_big_quiet_step (fail)
        go_big_quiet_step (fail)
        go_big_quiet_step (fail)
        go_big_quiet_step (fail)
        go_big_quiet_step (fail)
        go_big_quiet_step (fail)
        go_big_quiet_step (fail)
        go_big_quiet_step (fail)
        go_big_quiet_step (fail)
        go_big_quiet_step (fail)
        go_big_quiet_step (fail)
        go_big_quiet_step (fail)
        go_big_quiet_step (fail)
        go_big_quiet_step (fail)
        go_big_quiet_step (fail)
        go_big_quiet_step (fail)
        go_big_quiet_step (fail)
        go_big_quiet_step (fail)
        go_big_quiet_step (fail)
        go_big_quiet_step (fail)
        go_big_quiet_step (fail)
        refine wpQuiet_nil ?_
        intro _ hqz
        obtain ⟨nq, hqy⟩ := hqz
        subst hqy
        go_wp2_with fail
        go_roundw
        case rel =>
          have R : ∃ j1 : Nat, j1 ≤ n1 ∧ Value.int .i64 ((j : Int) + 1) = .int .i64 (j1 : Int) ∧ Gr w2 (wr.drewN nq) := ⟨j + 1, by omega, by go_num, HW.out.drewN _⟩
          first
            | exact R
            | ((repeat apply Exists.intro); exact ⟨R, rfl⟩)
        case measure => simp [intOf]; omega
      · have D1 : decide ((j : Int) < a) = false := by simpa using d1
        have D2 : decide (a + 2 ≤ (j : Int)) = false := by simpa using d2
        go_wp2_with fail
        refine wp_region_quiet_lit (by kernel_rfl) (by kernel_rfl) ?_
        go_big_quiet_step (fail)
        go_big_quiet_step (fail)
        go_big_quiet_step (fail)
        go_big_quiet_step (fail)
        go_big_quiet_step (fail)
        go_big_quiet_step (fail)
        go_big_quiet_step (fail)
        go_big_quiet_step (fail)
        go_big_quiet_step (fail)
        go_big_quiet_step (fail)
        go_big_quiet_step (fail)
        go_big_quiet_step (fail)
        go_big_quiet_step (fail)
        go_big_quiet_step (fail)
        go_big_quiet_step (fail)
        go_big_quiet_step (fail)
        go_big_quiet_step (fail)
        go_big_quiet_step (fail)
        go_big_quiet_step (fail)
        go_big_quiet_step (fail)
        go_big_quiet_step (fail)
        go_big_quiet_step (fail)
        go_big_quiet_step (fail)
        refine wpQuiet_nil ?_
        intro _ hqz
        obtain ⟨nq, hqy⟩ := hqz
        subst hqy
        go_wp2_with fail
        go_roundw
        case rel =>
          have R : ∃ j1 : Nat, j1 ≤ n1 ∧ Value.int .i64 ((j : Int) + 1) = .int .i64 (j1 : Int) ∧ Gr w2 (wr.drewN nq) := ⟨j + 1, by omega, by go_num, HW.out.drewN _⟩
          first
            | exact R
            | ((repeat apply Exists.intro); exact ⟨R, rfl⟩)
        case measure => simp [intOf]; omega
    · clear G
      go_wp2_with fail
      go_ret
      exact ⟨rfl, HG.out.trans HW.out⟩


theorem wide_13 (y : Int) : wide 13 y = y := rfl
set_option maxHeartbeats 2000000 in
theorem yes_2 {ao : Option Addr} {n : Nat} (cap : Nat) {l : List UInt8} (q a x : Int) {w : World} (M : Mem w ao n l) (hn : n ≤ 140737488351232) (hq0 : 0 ≤ q) (hq1 : q ≤ 255) (hq : q % 3 = 2) (h0 : 0 ≤ a) (h1 : a < 4294967296) (hx0 : 0 ≤ x) (hx1 : x < 4294967296) (ok : stOk l 18 a = true) :
    Calls Try.prog 7 #[.slice ao n cap, .int .u8 q, .int .u32 a, .int .u32 x] w fun e w' => e = .returned (.bool true) ∧ Gr w w' := by
  have hl : Hid (n = l.length) := len_of M
  have hpos : 0 < n := by rw [hl.out]; exact thr_pos ok h0
  obtain ⟨b, o, rfl, hb, hc⟩ := M.spot hpos
  have HC : Hid (∀ t, t < n → w.cell? ⟨b, o + t, none⟩ = some (.int .u8 (bv l t))) := hc
  clear hc
  have HB := back (x := x) (op := 18) (lop := 13) (P := 4294967296) (by decide) rfl wide_13 ok h0
  have HO : Hid (stOk l 18 a = true) := ok
  have HL : Hid (ldOk (stL l 18 a x) 13 a = true) := HB.1
  have HV : Hid (ldV (stL l 18 a x) 13 a = x % 4294967296) := HB.2
  have HA : bits .and .u32 x 4294967295 = x % 4294967296 := and_mask' x 32 4294967295 4294967296 (by omega) hx0 hx1 (by decide) (by decide)
  have hlen : Hid ((stL l 18 a x).length = n) := by show _ = _; rw [stL_len ok, hl.out]
  have HT : Hid (∀ i : Nat, i < n → ((i : Int) < a ∨ a + 4 ≤ i) → bv (stL l 18 a x) i = bv l i) := fun i hi h => others ok h0 i (by have := hl.out; omega) h
  have S1 : Hid (∀ W : World, Gr w W → Calls Try.prog 15 #[.slice (some ⟨b, o, none⟩) n cap, .int .i64 18, .int .u32 a, .int .u32 x] W fun e w' => ∃ ao' n' cap', e = .returned (.tuple #[.slice ao' n' cap', .bool true]) ∧ Mem w' ao' n' (stL l 18 a x) ∧ Gr W w') := fun W G => by
    have := Store_any cap 18 a x (M.of G) hn h0 h1 hx0 hx1
    rwa [ok] at this
  generalize stL l 18 a x = k at *
  clear M ok HB HO
  go_enter Try.func7, Try.ntmps7
  go_wp2_with fail
  refine (S1.out _ ((((Gr.refl _).alloc _).alloc _).alloc _)).mono ?_
  rintro e w1 ⟨a1, n1, c1, rfl, M1, G1⟩
  obtain rfl : n1 = n := (len_of M1).trans hlen.out
  have hcm : w1.cell? ⟨w.heap.size + 1, 2, none⟩ = some (.int .u32 4294967295) := (G1.cell ⟨w.heap.size + 1, 2, none⟩ (by simp)).trans (mid_cell w _ _ _ _ _ _ 2)
  have HG : Hid (Gr w w1) := Gr.trans ((((Gr.refl _).alloc _).alloc _).alloc _) G1
  have HK : Hid (Mem w1 a1 n1 k) := M1
  clear M1 G1 S1
  go_wp2_with (go_at_call 19; refine (loads_any _ _).mono ?_; rintro e w' ⟨rfl, rfl⟩)
  refine (Load_any _ 13 a HK.out hn h0 h1).mono ?_
  rintro e w2 ⟨rfl, rfl⟩
  rw [HL.out, HV.out]
  obtain ⟨b1, o1, rfl, hb1, hc1⟩ := HK.out.spot hpos
  have HC1 : Hid (∀ t, t < n1 → w2.cell? ⟨b1, o1 + t, none⟩ = some (.int .u8 (bv k t))) := hc1
  have HGs : Hid (w.heap.size ≤ w2.heap.size) := HG.out.size
  clear hc1 HK HL HV hlen hl
  go_wp2_with fail
  clear hcm HA hq
  go_loopw [22] (fun i wr => ∃ j : Nat, j ≤ n1 ∧ i = .int .i64 j ∧ Gr w2 wr) (fun i _ => n1 - (intOf i).toNat)
  case atStart => exact ⟨0, Nat.zero_le _, rfl, Gr.refl _⟩
  case round =>
    obtain ⟨j, hj, rfl, G⟩ := hrel
    have HW : Hid (Gr w2 wr) := G
    by_cases hlt : j < n1
    · have c1 : wr.cell? ⟨b1, o1 + j, none⟩ = some (.int .u8 (bv k j)) := (G.cell _ (by exact hb1)).trans (HC1.out j hlt)
      have c0 : wr.cell? ⟨b, o + j, none⟩ = some (.int .u8 (bv l j)) := (G.cell _ (by have := HGs.out; exact Nat.lt_of_lt_of_le hb this)).trans ((HG.out.cell _ (by exact hb)).trans (HC.out j hlt))
      clear G
      by_cases d1 : (j : Int) < a
      · have hv : bv k j = bv l j := HT.out j hlt (.inl d1)
        rw [hv] at c1
        clear hv
        generalize bv l j = v at *
        have D1 : decide ((j : Int) < a) = true := by simpa using d1
        go_wp2_with fail
        refine wp_region_quiet_lit (by kernel_rfl) (by kernel_rfl) ?_
        go_big_quiet_step (fail)
        go_big_quiet_step (fail)
        go_big_quiet_step (fail)
        go_big_quiet_step (fail)
        go_big_quiet_step (fail)
        go_big_quiet_step (fail)
        go_big_quiet_step (fail)
        go_big_quiet_step (fail)
        go_big_quiet_step (fail)
        go_big_quiet_step (fail)
        go_big_quiet_step (fail)
        go_big_quiet_step (fail)
        go_big_quiet_step (fail)
        go_big_quiet_step (fail)
        go_big_quiet_step (fail)
        go_big_quiet_step (fail)
        go_big_quiet_step (fail)
        go_big_quiet_step (fail)
        go_big_quiet_step (fail)
        go_big_quiet_step (fail)
        go_big_quiet_step (fail)
        go_big_quiet_step (fail)
        go_big_quiet_step (fail)
        refine wpQuiet_nil ?_
        intro _ hqz
        obtain ⟨nq, hqy⟩ := hqz
        subst hqy
        go_wp2_with fail
        go_roundw
        case rel =>
          have R : ∃ j1 : Nat, j1 ≤ n1 ∧ Value.int .i64 ((j : Int) + 1) = .int .i64 (j1 : Int) ∧ Gr w2 (wr.drewN nq) := ⟨j + 1, by omega, by go_num, HW.out.drewN _⟩
          first
            | exact R
            | ((repeat apply Exists.intro); exact ⟨R, rfl⟩)
        case measure => simp [intOf]; omega
      by_cases d2 : a + 4 ≤ (j : Int)
      · have hv : bv k j = bv l j := HT.out j hlt (.inr d2)
        rw [hv] at c1
        clear hv
        generalize bv l j = v at *
        have D1 : decide ((j : Int) < a) = false := by simpa using d1
        have D2 : decide (a + 4 ≤ (j : Int)) = true := by simpa using d2
        go_wp2_with fail
        refine wp_region_quiet_lit (by kernel_rfl) (by kernel_rfl) ?_
        go_big_quiet_step (fail)
        go_big_quiet_step (fail)
        go_big_quiet_step (fail)
        go_big_quiet_step (fail)
        go_big_quiet_step (fail)
        go_big_quiet_step (fail)
        go_big_quiet_step (fail)
        go_big_quiet_step (fail)
        go_big_quiet_step (fail)
        go_big_quiet_step (fail)
        go_big_quiet_step (fail)
        go_big_quiet_step (fail)
        go_big_quiet_step (fail)
        go_big_quiet_step (fail)
        go_big_quiet_step (fail)
        go_big_quiet_step (fail)
        go_big_quiet_step (fail)
        go_big_quiet_step (fail)
        go_big_quiet_step (fail)
        go_big_quiet_step (fail)
        go_big_quiet_step (fail)
        go_big_quiet_step (fail)
        go_big_quiet_step (fail)
        refine wpQuiet_nil ?_
        intro _ hqz
        obtain ⟨nq, hqy⟩ := hqz
        subst hqy
        go_wp2_with fail
        go_roundw
        case rel =>
          have R : ∃ j1 : Nat, j1 ≤ n1 ∧ Value.int .i64 ((j : Int) + 1) = .int .i64 (j1 : Int) ∧ Gr w2 (wr.drewN nq) := ⟨j + 1, by omega, by go_num, HW.out.drewN _⟩
          first
            | exact R
            | ((repeat apply Exists.intro); exact ⟨R, rfl⟩)
        case measure => simp [intOf]; omega
      · have D1 : decide ((j : Int) < a) = false := by simpa using d1
        have D2 : decide (a + 4 ≤ (j : Int)) = false := by simpa using d2
        go_wp2_with fail
        refine wp_region_quiet_lit (by kernel_rfl) (by kernel_rfl) ?_
        go_big_quiet_step (fail)
        go_big_quiet_step (fail)
        go_big_quiet_step (fail)
        go_big_quiet_step (fail)
        go_big_quiet_step (fail)
        go_big_quiet_step (fail)
        go_big_quiet_step (fail)
        go_big_quiet_step (fail)
        go_big_quiet_step (fail)
        go_big_quiet_step (fail)
        go_big_quiet_step (fail)
        go_big_quiet_step (fail)
        go_big_quiet_step (fail)
        go_big_quiet_step (fail)
        go_big_quiet_step (fail)
        go_big_quiet_step (fail)
        go_big_quiet_step (fail)
        go_big_quiet_step (fail)
        go_big_quiet_step (fail)
        go_big_quiet_step (fail)
        go_big_quiet_step (fail)
        go_big_quiet_step (fail)
        go_big_quiet_step (fail)
        refine wpQuiet_nil ?_
        intro _ hqz
        obtain ⟨nq, hqy⟩ := hqz
        subst hqy
        go_wp2_with fail
        go_roundw
        case rel =>
          have R : ∃ j1 : Nat, j1 ≤ n1 ∧ Value.int .i64 ((j : Int) + 1) = .int .i64 (j1 : Int) ∧ Gr w2 (wr.drewN nq) := ⟨j + 1, by omega, by go_num, HW.out.drewN _⟩
          first
            | exact R
            | ((repeat apply Exists.intro); exact ⟨R, rfl⟩)
        case measure => simp [intOf]; omega
    · clear G
      go_wp2_with fail
      go_ret
      exact ⟨rfl, HG.out.trans HW.out⟩


theorem ok_of (b : Bool) : b = true ∨ b = false := by cases b <;> simp
theorem walk {ao : Option Addr} {n : Nat} (cap : Nat) {l : List UInt8} (q a x : Int) {w : World} (M : Mem w ao n l) (hn : n ≤ 140737488351232) (hq0 : 0 ≤ q) (hq1 : q ≤ 255) (h0 : 0 ≤ a) (h1 : a < 4294967296) (hx0 : 0 ≤ x) (hx1 : x < 4294967296) :
    Calls Try.prog 7 #[.slice ao n cap, .int .u8 q, .int .u32 a, .int .u32 x] w fun e w' => e = .returned (.bool true) ∧ Gr w w' := by
  obtain hq | hq | hq : q % 3 = 0 ∨ q % 3 = 1 ∨ q % 3 = 2 := by omega
  · rcases ok_of (stOk l 16 a) with ok | ok
    · exact yes_0 cap q a x M hn hq0 hq1 hq h0 h1 hx0 hx1 ok
    · exact no_0 cap q a x M hn hq0 hq1 hq h0 h1 hx0 hx1 ok
  · rcases ok_of (stOk l 17 a) with ok | ok
    · exact yes_1 cap q a x M hn hq0 hq1 hq h0 h1 hx0 hx1 ok
    · exact no_1 cap q a x M hn hq0 hq1 hq h0 h1 hx0 hx1 ok
  · rcases ok_of (stOk l 18 a) with ok | ok
    · exact yes_2 cap q a x M hn hq0 hq1 hq h0 h1 hx0 hx1 ok
    · exact no_2 cap q a x M hn hq0 hq1 hq h0 h1 hx0 hx1 ok

set_option maxRecDepth 100000 in
theorem lifted (os : Os) (started : os.Started) (H : Type) (enc : TypeId × Value → H) :
    ReturnsInHanded {} Try.checked os 7 .any (Rows.memBackSpec.pre6 enc Try.prog Try.f7 Rows.memBackRow.domain false) (Rows.memBackSpec.post enc Try.prog Try.f7 false true false false) := by
  refine returnsInHanded_of_change_sized (C := Try.checked) own started (by kernel_rfl) Try.func7
    (ChangeSpec.witness6 (enc := enc) (C := Try.checked) false ⟨#[], #[.slice none 0 0, .int .u8 0, .int .u32 0, .int .u32 0], []⟩ 8 (by kernel_rfl) (by kernel_rfl) (by kernel_rfl) (by kernel_rfl)) ?_
  intro W base args ds gs before hval0 hW _ hsz0 _
  have hsz : (DataW.weightsEach Try.prog (Try.f7.params.toList ++ Rows.memBackSpec.plain.varTypes Try.prog) (ds ++ gs)).all (· ≤ reachBytes) = true := hsz0
  clear hsz0
  have hval : ∀ (j : Nat) t v, Try.f7.params[j]? = some t → args[j]? = some v → Value.okWide Try.prog W .any base t v := hval0
  have hW' := hW
  obtain ⟨p, q, hA0, hV, rfl, _, _⟩ := hW
  have hA : DataW.TrodAll enc Try.prog W 0 (fun _ => true) true Try.f7.params.toList args.toList ds p := hA0
  rw [Try.params7] at hA hval hsz
  obtain ⟨v0, vs0, d0, ds0, p0, q0, hargs, rfl, rfl, h0, r0⟩ := trodAll_cons hA
  obtain ⟨v1, vs1, d1, ds1, p1, q1, rfl, rfl, rfl, h1, r1⟩ := trodAll_cons r0
  obtain ⟨v2, vs2, d2, ds2, p2, q2, rfl, rfl, rfl, h2, r2⟩ := trodAll_cons r1
  obtain ⟨v3, vs3, d3, ds3, p3, q3, rfl, rfl, rfl, h3, r3⟩ := trodAll_cons r2
  obtain ⟨rfl, rfl, rfl⟩ := trodAll_nil r3
  obtain rfl : args = #[v0, v1, v2, v3] := by cases args; simp_all
  obtain ⟨rfl, rfl⟩ := trodVars_none hV
  obtain ⟨a0, la, ca, rfl⟩ := okWide_slice Try.underlying27 (hval 0 27 v0 rfl rfl)
  obtain ⟨a1, rfl, rfl, rfl, w1⟩ := open_int Try.underlying5 (hval 1 5 v1 rfl rfl) h1
  obtain ⟨a2, rfl, rfl, rfl, w2⟩ := open_int Try.underlying22 (hval 2 22 v2 rfl rfl) h2
  obtain ⟨a3, rfl, rfl, rfl, w3⟩ := open_int Try.underlying22 (hval 3 22 v3 rfl rfl) h3
  have h0k := h0
  obtain ⟨fa, hfa⟩ := h0
  clear hA0 hval0
  simp only [List.append_nil] at hW'
  have hlt : ∀ x ∈ p0, x.block < W.heap.size := fun x hx => by
    have := hW'.lt x (by simp [hx])
    simpa using this
  obtain ⟨l, M, hd⟩ := open_mem hfa
  have hn : la ≤ 140737488351232 := by
    rcases hd with ⟨_, h⟩ | ⟨zs, sp, h, hz⟩
    · rw [h]; decide
    · have := sized_slice hsz (j := 0) (t := 27) (e := 5) rfl (by rw [h]; rfl) Try.underlying27
      rw [bytes5] at this
      simp only [lits, List.length_map, hz, reachBytes] at this
      omega
  have hb1 : 0 ≤ a1 ∧ a1 ≤ 255 := by
    simpa [Lit.wf, IntKind.min, IntKind.max, IntKind.signed, IntKind.bits] using w1
  have hb2 : 0 ≤ a2 ∧ a2 ≤ 4294967295 := by
    simpa [Lit.wf, IntKind.min, IntKind.max, IntKind.signed, IntKind.bits] using w2
  have hb3 : 0 ≤ a3 ∧ a3 ≤ 4294967295 := by
    simpa [Lit.wf, IntKind.min, IntKind.max, IntKind.signed, IntKind.bits] using w3
  refine (walk ca a1 a2 a3 M hn hb1.1 hb1.2 hb2.1 (by omega) hb3.1 (by omega)).mono fun e W' ⟨he, hg⟩ => ?_
  subst he
  refine ⟨_, rfl, _, _, _, [], _, [], hW', (trodAll_cons_mk (shut_bool Try.underlying4 _) trodAll_mk0), (trodAll_cons_mk (Below.trod laidOut (by kernel_rfl) (of_decide_eq_true (by kernel_rfl)) h0k hg hlt) (trodAll_cons_mk (shut_int Try.underlying5 w1) (trodAll_cons_mk (shut_int Try.underlying22 w2) (trodAll_cons_mk (shut_int Try.underlying22 w3) trodAll_mk0)))), rfl, Below.frame hg _, fun h => by cases h⟩

theorem over : Rows.memBackRow.holds Try.pinned (OpenSpec.ofChange Rows.memBackSpec) :=
  OpenClaim.holds_of_wide 7 Try.f7 rfl rfl rfl rfl rfl rfl rfl ⟨rfl, rfl, rfl, rfl, rfl⟩ rfl rfl rfl rfl rfl (by kernel_rfl) Try.func7 (by kernel_rfl)
    (of_decide_eq_true (by kernel_rfl)) (by unfold Func.isWrapper; first | (rw [if_pos (by decide +kernel)]; kernel_rfl) | (rw [if_neg (by decide +kernel)]; exact ⟨rfl, rfl⟩))
    (fun os started H enc _ => lifted os started H enc)

/-- The statement. -/
theorem proved : Rows.MemBackSaid :=
  over
#print axioms proved

end Go.Proofs.Ytldkjgnlkcadaaa.memBack
