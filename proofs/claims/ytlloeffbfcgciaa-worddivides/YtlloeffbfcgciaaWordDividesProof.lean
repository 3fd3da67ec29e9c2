/-
  Proved: for every two words, what is divided is the quotient times the divisor and what is left over, signed and not, and by 0 the answers that the document names, by the program's own Alu; no conditions.
-/
import Derived.Test.YtlloeffbfcgciaaRows
import Derived.WalkKit
import Derived.ProofKit
import Derived.OpenShut
import Derived.Test.YtlloeffbfcgciaaWordWalks
namespace Go.Proofs.Ytlloeffbfcgciaa.wordDivides
open Go.ChangeShapes Go.WideShapes Go.ChangeAt Go.RowKit
set_option linter.unusedVariables false      -- a walk need not use every 'w<i>' (that an integer argument fits its kind)

theorem own : ownKnob Try.prog.godebug = none := by kernel_rfl

theorem alu_k (k a b : Int) (r : Int) (hr : Wd.alu k a b = r) (w : World) (ha : 0 ≤ a) (ha' : a < 4294967296) (hb : 0 ≤ b) (hb' : b < 4294967296) :
    Calls Try.prog 6 #[.int .i64 k, .int .u32 a, .int .u32 b] w fun e w' => e = .returned (.int .u32 r) ∧ w' = w := hr ▸ Ww.alu_any k a b w ha ha' hb hb'
theorem u32_bd {a : Int} (h : (Lit.int .u32 a).wf = true) : 0 ≤ a ∧ a < 4294967296 := by
  simp [Lit.wf, IntKind.min, IntKind.max, IntKind.signed, IntKind.bits] at h; omega
theorem signed_back (a b : Int) (ha : 0 ≤ a) (ha' : a < 4294967296) (hb : 0 ≤ b) (hb' : b < 4294967296) :
    Wd.lo (Wd.lo (Wd.lo ((Wd.sg a).tdiv (Wd.sg b)) * b) + Wd.lo ((Wd.sg a).tmod (Wd.sg b))) = a := by
  have e := Int.tdiv_mul_add_tmod (Wd.sg a) (Wd.sg b)
  have la := Wd.sg_lo ha ha'
  have lb := Wd.sg_lo hb hb'
  generalize (Wd.sg a).tdiv (Wd.sg b) = q at *
  generalize (Wd.sg a).tmod (Wd.sg b) = r at *
  unfold Wd.lo at *
  have h : (q % 4294967296 * b) % 4294967296 = (q * Wd.sg b) % 4294967296 := by
    conv => lhs; rw [← lb]
    rw [Int.mul_emod, Int.emod_emod, Int.emod_emod, ← Int.mul_emod]
  rw [h]
  omega

/-! ### THE WALK -/
theorem walk (a0 : Int) (a1 : Int) (w0 : (Lit.int .u32 a0).wf = true) (w1 : (Lit.int .u32 a1).wf = true) (w : World) :
    Calls Try.prog 4 #[.int .u32 a0, .int .u32 a1] w fun e w' => e = .returned (.bool true) ∧ Grown w w' := by
  obtain ⟨ha, ha'⟩ := u32_bd w0
  obtain ⟨hb, hb'⟩ := u32_bd w1
  by_cases h0 : a1 = 0
  · subst h0
    go_enter Try.func4, Try.ntmps4
    go_wp2_with fail
    refine (alu_k 43 a0 0 4294967295 rfl _ ha ha' hb hb').mono ?_
    rintro e w' ⟨rfl, rfl⟩
    go_wp2_with fail
    refine (alu_k 45 a0 0 a0 rfl _ ha ha' hb hb').mono ?_
    rintro e w' ⟨rfl, rfl⟩
    go_wp2_with fail
    refine (alu_k 42 a0 0 4294967295 rfl _ ha ha' hb hb').mono ?_
    rintro e w' ⟨rfl, rfl⟩
    go_wp2_with fail
    refine (alu_k 44 a0 0 a0 rfl _ ha ha' hb hb').mono ?_
    rintro e w' ⟨rfl, rfl⟩
    go_wp2_with fail
    go_ret
    exact ⟨rfl, Grown.refl _⟩
  · have e43 : Hid (Wd.alu 43 a0 a1 = a0 / a1) := by show Wd.dvu a0 a1 = _; unfold Wd.dvu; rw [if_neg h0]
    have e45 : Hid (Wd.alu 45 a0 a1 = a0 % a1) := by show Wd.rmu a0 a1 = _; unfold Wd.rmu; rw [if_neg h0]
    have e42 : Hid (Wd.alu 42 a0 a1 = Wd.lo ((Wd.sg a0).tdiv (Wd.sg a1))) := by show Wd.dv a0 a1 = _; unfold Wd.dv; rw [if_neg h0]
    have e44 : Hid (Wd.alu 44 a0 a1 = Wd.lo ((Wd.sg a0).tmod (Wd.sg a1))) := by show Wd.rm a0 a1 = _; unfold Wd.rm; rw [if_neg h0]
    have q0 : 0 ≤ a0 / a1 := Int.ediv_nonneg ha hb
    have q1 : a0 / a1 ≤ a0 := Int.ediv_le_self _ ha
    have r0 : 0 ≤ a0 % a1 := Int.emod_nonneg _ h0
    have r1 : a0 % a1 < a1 := Int.emod_lt_of_pos _ (by omega)
    have qm : 0 ≤ a0 / a1 * a1 := Int.mul_nonneg q0 hb
    have qr : Hid (a0 / a1 * a1 + a0 % a1 = a0) := Int.ediv_mul_add_emod a0 a1
    have qle : a0 / a1 * a1 ≤ a0 := by have := qr.out; omega
    have eM : Hid (Wd.alu 38 (a0 / a1) a1 = a0 / a1 * a1) := by show Wd.lo _ = _; unfold Wd.lo; omega
    have eA : Hid (Wd.alu 28 (a0 / a1 * a1) (a0 % a1) = a0) := by have := qr.out; show Wd.lo _ = _; unfold Wd.lo; omega
    have eS : Hid (Wd.alu 28 (Wd.lo (Wd.lo ((Wd.sg a0).tdiv (Wd.sg a1)) * a1)) (Wd.lo ((Wd.sg a0).tmod (Wd.sg a1))) = a0) := signed_back a0 a1 ha ha' hb hb'
    have eL : Hid (Wd.alu 32 (a0 % a1) a1 = 1) := by show Wd.tr (decide (a0 % a1 < a1)) = 1; rw [decide_eq_true r1]; rfl
    have b0 : (a1 == 0) = false := beq_eq_false_iff_ne.2 h0
    have lt : decide (a0 % a1 < a1) = true := decide_eq_true r1
    clear qr
    generalize a0 / a1 = q at *
    generalize a0 % a1 = r at *
    generalize (Wd.sg a0).tdiv (Wd.sg a1) = sq at *
    generalize (Wd.sg a0).tmod (Wd.sg a1) = sr at *
    obtain ⟨l0, l1⟩ := Wd.lo_bd sq
    obtain ⟨l2, l3⟩ := Wd.lo_bd sr
    obtain ⟨l4, l5⟩ := Wd.lo_bd (Wd.lo sq * a1)
    have eP : Hid (Wd.alu 38 (Wd.lo sq) a1 = Wd.lo (Wd.lo sq * a1)) := rfl
    generalize Wd.lo (Wd.lo sq * a1) = sp at *
    generalize Wd.lo sq = s at *
    generalize Wd.lo sr = t at *
    generalize q * a1 = p at *
    go_enter Try.func4, Try.ntmps4
    go_wp2_with fail
    refine (alu_k 43 a0 a1 _ e43.out _ ha ha' hb hb').mono ?_
    rintro e w' ⟨rfl, rfl⟩
    go_wp2_with fail
    refine (alu_k 45 a0 a1 _ e45.out _ ha ha' hb hb').mono ?_
    rintro e w' ⟨rfl, rfl⟩
    go_wp2_with fail
    refine (alu_k 42 a0 a1 _ e42.out _ ha ha' hb hb').mono ?_
    rintro e w' ⟨rfl, rfl⟩
    go_wp2_with fail
    refine (alu_k 44 a0 a1 _ e44.out _ ha ha' hb hb').mono ?_
    rintro e w' ⟨rfl, rfl⟩
    go_wp2_with fail
    refine (alu_k 38 q a1 _ eM.out _ (by omega) (by omega) hb hb').mono ?_
    rintro e w' ⟨rfl, rfl⟩
    go_wp2_with fail
    refine (alu_k 28 p r _ eA.out _ (by omega) (by omega) (by omega) (by omega)).mono ?_
    rintro e w' ⟨rfl, rfl⟩
    go_wp2_with fail
    refine (alu_k 38 s a1 _ eP.out _ (by omega) (by omega) hb hb').mono ?_
    rintro e w' ⟨rfl, rfl⟩
    go_wp2_with fail
    refine (alu_k 28 sp t _ eS.out _ (by omega) (by omega) (by omega) (by omega)).mono ?_
    rintro e w' ⟨rfl, rfl⟩
    go_wp2_with fail
    refine (alu_k 32 r a1 _ eL.out _ (by omega) (by omega) hb hb').mono ?_
    rintro e w' ⟨rfl, rfl⟩
    go_wp2_with fail
    go_ret
    exact ⟨rfl, Grown.refl _⟩

/-! ### THE ROW's STEP -/
set_option maxRecDepth 100000 in
theorem lifted (os : Os) (started : os.Started) (H : Type) (enc : TypeId × Value → H) :
    ReturnsInHanded {} Try.checked os 4 .any (Rows.wordDividesSpec.pre6 enc Try.prog Try.f4 Rows.wordDividesRow.domain false) (Rows.wordDividesSpec.post enc Try.prog Try.f4 false true false false) := by
  refine returnsInHanded_of_change (C := Try.checked) own started (by kernel_rfl) Try.func4
    (ChangeSpec.witness6 (enc := enc) (C := Try.checked) false ⟨#[], #[.int .u32 0, .int .u32 0], []⟩ 8 (by kernel_rfl) (by kernel_rfl) (by kernel_rfl) (by kernel_rfl)) ?_
  intro W base args ds gs before hval0 hW hcnd _
  have hval : ∀ (j : Nat) t v, Try.f4.params[j]? = some t → args[j]? = some v → Value.okWide Try.prog W .any base t v := hval0
  have hW' := hW
  obtain ⟨p, q, hA0, hV, rfl, hfz, hnd⟩ := hW
  have hA : DataW.TrodAll enc Try.prog W 0 (fun _ => true) true Try.f4.params.toList args.toList ds p := hA0
  rw [Try.params4] at hA hval
  obtain ⟨v0, vs0, d0, ds0, p0, q0, hargs, rfl, rfl, h0, r0⟩ := trodAll_cons hA
  obtain ⟨v1, vs1, d1, ds1, p1, q1, rfl, rfl, rfl, h1, r1⟩ := trodAll_cons r0
  obtain ⟨rfl, rfl, rfl⟩ := trodAll_nil r1
  obtain rfl : args = #[v0, v1] := by cases args; simp_all
  obtain ⟨rfl, rfl⟩ := trodVars_none hV
  obtain ⟨a0, rfl, rfl, rfl, w0⟩ := open_int Try.underlying22 (hval 0 22 v0 rfl rfl) h0
  obtain ⟨a1, rfl, rfl, rfl, w1⟩ := open_int Try.underlying22 (hval 1 22 v1 rfl rfl) h1
  clear hA0 hval0
  simp only [List.append_nil] at hW'
  refine (walk a0 a1 w0 w1 W).mono fun e W' ⟨he, hg⟩ => ?_
  subst he
  exact ⟨_, rfl, post_of_same (pa := []) (pv := []) hW' (fun _ _ _ => (trodAll_cons_mk (shut_bool Try.underlying4 _) trodAll_mk0)) (fun sp _ => (trodAll_cons_mk (shut_int Try.underlying22 w0) (trodAll_cons_mk (shut_int Try.underlying22 w1) trodAll_mk0))) (fun _ _ => rfl) rfl
    (hg.frame _) hg.2.1 (ok_one (by kernel_rfl) rfl (okWide_bool_mk Try.underlying4 _))⟩

theorem over : Rows.wordDividesRow.holds Try.pinned (OpenSpec.ofChange Rows.wordDividesSpec) :=
  OpenClaim.holds_of_wide 4 Try.f4 rfl rfl rfl rfl rfl rfl rfl ⟨rfl, rfl, rfl, rfl, rfl⟩ rfl rfl rfl rfl rfl (by kernel_rfl) Try.func4 (by kernel_rfl)
    (of_decide_eq_true (by kernel_rfl)) (by unfold Func.isWrapper; first | (rw [if_pos (by decide +kernel)]; kernel_rfl) | (rw [if_neg (by decide +kernel)]; exact ⟨rfl, rfl⟩))
    (fun os started H enc _ => lifted os started H enc)

/-- The statement. -/
theorem proved : Rows.WordDividesSaid :=
  over
#print axioms proved
end Go.Proofs.Ytlloeffbfcgciaa.wordDivides
