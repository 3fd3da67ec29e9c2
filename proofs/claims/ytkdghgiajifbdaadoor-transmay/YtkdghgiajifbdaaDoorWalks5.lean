/-
  What writtenImm returns: an Imm's pieces, each at its place, as a sum. Conditions: the tables hold what their initialisers lay ('Tab').
-/
import Derived.Test.YtkdghgiajifbdaaDoorWalks2
namespace Go.Proofs.YtkdghgiajifbdaaDoor.Dw
open Go.ChangeShapes Go.WideShapes Go.ChangeAt Go.RowKit
set_option linter.unusedVariables false
set_option linter.unusedSimpArgs false

/-- An Imm's pieces at their places in a word. -/
def wI (f u : Int) : Int :=
  if f = 1 then u / 4096 % 1048576 * 4096 else if f = 2 then u / 1048576 % 2 * 2147483648 + u / 4096 % 256 * 4096 + u / 2048 % 2 * 1048576 + u / 2 % 1024 * 2097152 else if f = 3 then u % 4096 * 1048576 else if f = 4 then u % 32 * 1048576 else if f = 5 then u / 4096 % 2 * 2147483648 + u / 2048 % 2 * 128 + u / 32 % 64 * 33554432 + u / 2 % 16 * 256 else if f = 6 then u / 32 % 128 * 33554432 + u % 32 * 128 else if f = 8 then u % 4 * 33554432 else 0
/-- What writtenImm answers of a form. -/
def WrittenImm (f : Int) : Prop := ∀ (n : Int) (w : World), Tab w → -2147483648 ≤ n → n < 2147483648 → Calls Tryd.prog 54 #[.int .i64 f, .int .i32 n] w fun e w' => e = .returned (.int .u32 (wI f (n % 4294967296))) ∧ Gr w w'

/-- Where writtenImm takes piece j of form k, how long it is, where it goes. -/
def pW (k j : Nat) : Int × Int × Int := (pcs k (3 * j + 1), pcs k (3 * j + 2), pcs k (3 * j))
set_option maxHeartbeats 1000000 in
set_option maxRecDepth 100000 in
theorem wi_gen {k : Nat} (hk : k < 10) (n : Int) (w : World) (T : Tab w) (h0 : -2147483648 ≤ n) (h1 : n < 2147483648) :
    Calls Tryd.prog 54 #[.int .i64 k, .int .i32 n] w fun e w' => e = .returned (.int .u32 (orP (n % 4294967296) (pW k) 4)) ∧ Gr w w' := by
  have u0 : 0 ≤ n % 4294967296 := by omega
  have u1 : n % 4294967296 < 4294967296 := by omega
  have HX : Hid (∀ j, j < 4 → ∀ w : World, (Instr.index 74 (.agg (twelve (pcs k))) (.int .i64 (j : Nat))).run Tryd.prog w = .ok (.agg #[.int .i64 (pcs k (3 * j)), .int .i64 (pcs k (3 * j + 1)), .int .i64 (pcs k (3 * j + 2))]) w) := fun j h w => idx12 (pcs k) w j h
  have HR := range12 hk T
  have hsz : (Tryd.prog.info? 74).map (·.size) = some (twelve (pcs k)).toList.length := by kernel_rfl
  have hb := pcs_bd k hk
  have HP : Hid (∀ j, orP (n % 4294967296) (pW k) (j + 1) = bits .or .u32 (orP (n % 4294967296) (pW k) j) ((n % 4294967296) / 2 ^ (pcs k (3 * j + 1)).toNat % 2 ^ (pcs k (3 * j + 2)).toNat * 2 ^ (pcs k (3 * j)).toNat % 4294967296)) := fun j => rfl
  clear T
  go_enter Tryd.func54, Tryd.ntmps54
  go_wp2_with (refine wpList_load_mid rfl 74 _ rfl 0 (k * 17 + 4) rfl (twelve (pcs k)).toList _ HR Tryd.underlying74 rfl hsz ?_)
  go_loopw [5, 12] (fun s i wr => Gr w wr ∧ ∃ j : Nat, j ≤ 4 ∧ i = .int .i64 j ∧ s = .int .u32 (orP (n % 4294967296) (pW k) j)) (fun _ i _ => 4 - (intOf i).toNat)
  case atStart => exact ⟨Gr.refl _, 0, Nat.zero_le _, rfl, rfl⟩
  case round =>
    obtain ⟨g, j, hj, rfl, rfl⟩ := hrel
    by_cases hlt : j < 4
    · have x := HX.out j hlt
      obtain ⟨b0, b1⟩ := hb (3 * j)
      obtain ⟨d0, d1⟩ := hb (3 * j + 1)
      obtain ⟨e0, e1⟩ := hb (3 * j + 2)
      have HO : Hid (orP (n % 4294967296) (pW k) (j + 1) = bits .or .u32 (orP (n % 4294967296) (pW k) j) ((n % 4294967296) / 2 ^ (pcs k (3 * j + 1)).toNat % 2 ^ (pcs k (3 * j + 2)).toNat * 2 ^ (pcs k (3 * j)).toNat % 4294967296)) := HP.out j
      generalize orP (n % 4294967296) (pW k) j = s at *
      generalize pcs k (3 * j) = qa at *
      generalize pcs k (3 * j + 1) = qb at *
      generalize pcs k (3 * j + 2) = qc at *
      obtain ⟨y, hy⟩ : ∃ y, (n % 4294967296) / 2 ^ qb.toNat % 2 ^ qc.toNat = y := ⟨_, rfl⟩
      rw [hy] at HO
      have HY : Hid _ := hy
      clear hy
      go_wp2
      refine wp_region_quiet_lit (by kernel_rfl) (by kernel_rfl) ?_
      iterate 7 go_big_quiet_step (fail)
      go_big_quiet_step (exact Calls.quiet_of (taken_as (n % 4294967296) qb qc y _ u0 u1 d0 d1 e0 e1 HY.out))
      iterate 5 go_big_quiet_step (fail)
      refine wpQuiet_nil ?_; intro _ h; obtain ⟨nq, h2⟩ := h; subst h2
      go_wp2
      go_roundw
      case rel => exact ⟨(g.alloc _ _).drewN _, j + 1, by omega, by go_num, by rw [HO.out]⟩
      case measure => simp [intOf]; omega
    · have ej : j = 4 := by omega
      subst ej
      go_wp2
      go_ret
      exact ⟨rfl, g⟩
theorem writtenImm_0 : WrittenImm 0 := by
  intro n w T h0 h1
  refine (wi_gen (k := 0) (by omega) n w T h0 h1).mono fun e w' ⟨he, hg⟩ => ⟨he.trans (ret_int ?_), hg⟩
  have u0 : 0 ≤ n % 4294967296 := by omega
  have u1 : n % 4294967296 < 4294967296 := by omega
  generalize n % 4294967296 = u at *
  have e0 : orP u (pW 0) 0 = 0 := rfl
  have e1 := orP_zero e0 ⟨by omega, by omega⟩ rfl
  have e2 := orP_zero e1 ⟨by omega, by omega⟩ rfl
  have e3 := orP_zero e2 ⟨by omega, by omega⟩ rfl
  have e4 := orP_zero e3 ⟨by omega, by omega⟩ rfl
  rw [e4]
  show _ = 0
  omega
theorem writtenImm_1 : WrittenImm 1 := by
  intro n w T h0 h1
  refine (wi_gen (k := 1) (by omega) n w T h0 h1).mono fun e w' ⟨he, hg⟩ => ⟨he.trans (ret_int ?_), hg⟩
  have u0 : 0 ≤ n % 4294967296 := by omega
  have u1 : n % 4294967296 < 4294967296 := by omega
  generalize n % 4294967296 = u at *
  have e0 : orP u (pW 1) 0 = 0 := rfl
  have e1 := orP_ins e0 12 20 12 rfl ⟨by omega, by omega⟩ (by omega) (by decide) (by decide) (by decide)
  have e2 := orP_zero e1 ⟨by omega, by omega⟩ rfl
  have e3 := orP_zero e2 ⟨by omega, by omega⟩ rfl
  have e4 := orP_zero e3 ⟨by omega, by omega⟩ rfl
  rw [e4]
  show _ = u / 4096 % 1048576 * 4096
  omega
theorem writtenImm_2 : WrittenImm 2 := by
  intro n w T h0 h1
  refine (wi_gen (k := 2) (by omega) n w T h0 h1).mono fun e w' ⟨he, hg⟩ => ⟨he.trans (ret_int ?_), hg⟩
  have u0 : 0 ≤ n % 4294967296 := by omega
  have u1 : n % 4294967296 < 4294967296 := by omega
  generalize n % 4294967296 = u at *
  have e0 : orP u (pW 2) 0 = 0 := rfl
  have e1 := orP_ins e0 20 1 31 rfl ⟨by omega, by omega⟩ (by omega) (by decide) (by decide) (by decide)
  have e2 := orP_ins e1 12 8 12 rfl ⟨by omega, by omega⟩ (by omega) (by decide) (by decide) (by decide)
  have e3 := orP_ins e2 11 1 20 rfl ⟨by omega, by omega⟩ (by omega) (by decide) (by decide) (by decide)
  have e4 := orP_ins e3 1 10 21 rfl ⟨by omega, by omega⟩ (by have := z_2 (u / 2 ^ 20 % 2 ^ 1) (u / 2 ^ 12 % 2 ^ 8) (u / 2 ^ 11 % 2 ^ 1) (by omega) (by omega) (by omega) (by omega) (by omega) (by omega); refine Eq.trans ?_ this; congr 2; omega) (by decide) (by decide) (by decide)
  rw [e4]
  show _ = u / 1048576 % 2 * 2147483648 + u / 4096 % 256 * 4096 + u / 2048 % 2 * 1048576 + u / 2 % 1024 * 2097152
  omega
theorem writtenImm_3 : WrittenImm 3 := by
  intro n w T h0 h1
  refine (wi_gen (k := 3) (by omega) n w T h0 h1).mono fun e w' ⟨he, hg⟩ => ⟨he.trans (ret_int ?_), hg⟩
  have u0 : 0 ≤ n % 4294967296 := by omega
  have u1 : n % 4294967296 < 4294967296 := by omega
  generalize n % 4294967296 = u at *
  have e0 : orP u (pW 3) 0 = 0 := rfl
  have e1 := orP_ins e0 0 12 20 rfl ⟨by omega, by omega⟩ (by omega) (by decide) (by decide) (by decide)
  have e2 := orP_zero e1 ⟨by omega, by omega⟩ rfl
  have e3 := orP_zero e2 ⟨by omega, by omega⟩ rfl
  have e4 := orP_zero e3 ⟨by omega, by omega⟩ rfl
  rw [e4]
  show _ = u % 4096 * 1048576
  omega
theorem writtenImm_4 : WrittenImm 4 := by
  intro n w T h0 h1
  refine (wi_gen (k := 4) (by omega) n w T h0 h1).mono fun e w' ⟨he, hg⟩ => ⟨he.trans (ret_int ?_), hg⟩
  have u0 : 0 ≤ n % 4294967296 := by omega
  have u1 : n % 4294967296 < 4294967296 := by omega
  generalize n % 4294967296 = u at *
  have e0 : orP u (pW 4) 0 = 0 := rfl
  have e1 := orP_ins e0 0 5 20 rfl ⟨by omega, by omega⟩ (by omega) (by decide) (by decide) (by decide)
  have e2 := orP_zero e1 ⟨by omega, by omega⟩ rfl
  have e3 := orP_zero e2 ⟨by omega, by omega⟩ rfl
  have e4 := orP_zero e3 ⟨by omega, by omega⟩ rfl
  rw [e4]
  show _ = u % 32 * 1048576
  omega
theorem writtenImm_5 : WrittenImm 5 := by
  intro n w T h0 h1
  refine (wi_gen (k := 5) (by omega) n w T h0 h1).mono fun e w' ⟨he, hg⟩ => ⟨he.trans (ret_int ?_), hg⟩
  have u0 : 0 ≤ n % 4294967296 := by omega
  have u1 : n % 4294967296 < 4294967296 := by omega
  generalize n % 4294967296 = u at *
  have e0 : orP u (pW 5) 0 = 0 := rfl
  have e1 := orP_ins e0 12 1 31 rfl ⟨by omega, by omega⟩ (by omega) (by decide) (by decide) (by decide)
  have e2 := orP_ins e1 11 1 7 rfl ⟨by omega, by omega⟩ (by omega) (by decide) (by decide) (by decide)
  have e3 := orP_ins e2 5 6 25 rfl ⟨by omega, by omega⟩ (by omega) (by decide) (by decide) (by decide)
  have e4 := orP_ins e3 1 4 8 rfl ⟨by omega, by omega⟩ (by have := z_5 (u / 2 ^ 12 % 2 ^ 1) (u / 2 ^ 11 % 2 ^ 1) (u / 2 ^ 5 % 2 ^ 6) (by omega) (by omega) (by omega) (by omega) (by omega) (by omega); refine Eq.trans ?_ this; congr 2; omega) (by decide) (by decide) (by decide)
  rw [e4]
  show _ = u / 4096 % 2 * 2147483648 + u / 2048 % 2 * 128 + u / 32 % 64 * 33554432 + u / 2 % 16 * 256
  omega
theorem writtenImm_6 : WrittenImm 6 := by
  intro n w T h0 h1
  refine (wi_gen (k := 6) (by omega) n w T h0 h1).mono fun e w' ⟨he, hg⟩ => ⟨he.trans (ret_int ?_), hg⟩
  have u0 : 0 ≤ n % 4294967296 := by omega
  have u1 : n % 4294967296 < 4294967296 := by omega
  generalize n % 4294967296 = u at *
  have e0 : orP u (pW 6) 0 = 0 := rfl
  have e1 := orP_ins e0 5 7 25 rfl ⟨by omega, by omega⟩ (by omega) (by decide) (by decide) (by decide)
  have e2 := orP_ins e1 0 5 7 rfl ⟨by omega, by omega⟩ (by omega) (by decide) (by decide) (by decide)
  have e3 := orP_zero e2 ⟨by omega, by omega⟩ rfl
  have e4 := orP_zero e3 ⟨by omega, by omega⟩ rfl
  rw [e4]
  show _ = u / 32 % 128 * 33554432 + u % 32 * 128
  omega
theorem writtenImm_7 : WrittenImm 7 := by
  intro n w T h0 h1
  refine (wi_gen (k := 7) (by omega) n w T h0 h1).mono fun e w' ⟨he, hg⟩ => ⟨he.trans (ret_int ?_), hg⟩
  have u0 : 0 ≤ n % 4294967296 := by omega
  have u1 : n % 4294967296 < 4294967296 := by omega
  generalize n % 4294967296 = u at *
  have e0 : orP u (pW 7) 0 = 0 := rfl
  have e1 := orP_zero e0 ⟨by omega, by omega⟩ rfl
  have e2 := orP_zero e1 ⟨by omega, by omega⟩ rfl
  have e3 := orP_zero e2 ⟨by omega, by omega⟩ rfl
  have e4 := orP_zero e3 ⟨by omega, by omega⟩ rfl
  rw [e4]
  show _ = 0
  omega
theorem writtenImm_8 : WrittenImm 8 := by
  intro n w T h0 h1
  refine (wi_gen (k := 8) (by omega) n w T h0 h1).mono fun e w' ⟨he, hg⟩ => ⟨he.trans (ret_int ?_), hg⟩
  have u0 : 0 ≤ n % 4294967296 := by omega
  have u1 : n % 4294967296 < 4294967296 := by omega
  generalize n % 4294967296 = u at *
  have e0 : orP u (pW 8) 0 = 0 := rfl
  have e1 := orP_ins e0 0 2 25 rfl ⟨by omega, by omega⟩ (by omega) (by decide) (by decide) (by decide)
  have e2 := orP_zero e1 ⟨by omega, by omega⟩ rfl
  have e3 := orP_zero e2 ⟨by omega, by omega⟩ rfl
  have e4 := orP_zero e3 ⟨by omega, by omega⟩ rfl
  rw [e4]
  show _ = u % 4 * 33554432
  omega
theorem writtenImm_9 : WrittenImm 9 := by
  intro n w T h0 h1
  refine (wi_gen (k := 9) (by omega) n w T h0 h1).mono fun e w' ⟨he, hg⟩ => ⟨he.trans (ret_int ?_), hg⟩
  have u0 : 0 ≤ n % 4294967296 := by omega
  have u1 : n % 4294967296 < 4294967296 := by omega
  generalize n % 4294967296 = u at *
  have e0 : orP u (pW 9) 0 = 0 := rfl
  have e1 := orP_zero e0 ⟨by omega, by omega⟩ rfl
  have e2 := orP_zero e1 ⟨by omega, by omega⟩ rfl
  have e3 := orP_zero e2 ⟨by omega, by omega⟩ rfl
  have e4 := orP_zero e3 ⟨by omega, by omega⟩ rfl
  rw [e4]
  show _ = 0
  omega
theorem writtenImm_any (f : Int) (h0 : 0 ≤ f) (h1 : f ≤ 9) : WrittenImm f := by
  have h : f = 0 ∨ f = 1 ∨ f = 2 ∨ f = 3 ∨ f = 4 ∨ f = 5 ∨ f = 6 ∨ f = 7 ∨ f = 8 ∨ f = 9 := by omega
  rcases h with rfl | rfl | rfl | rfl | rfl | rfl | rfl | rfl | rfl | rfl
  · exact writtenImm_0
  · exact writtenImm_1
  · exact writtenImm_2
  · exact writtenImm_3
  · exact writtenImm_4
  · exact writtenImm_5
  · exact writtenImm_6
  · exact writtenImm_7
  · exact writtenImm_8
  · exact writtenImm_9
end Go.Proofs.YtkdghgiajifbdaaDoor.Dw
