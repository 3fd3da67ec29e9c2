/-
  Pd1, Pd2, Pd3, Pd4, Pd: texts of ours that lie in one file.
-/
import Derived.Test.YtchllaeembmioaaGreatDoorQ31
set_option linter.unusedVariables false
set_option linter.unusedSimpArgs false
set_option maxHeartbeats 8000000
set_option maxRecDepth 100000
namespace Go.Proofs.YtchllaeembmioaaGreatDoor.Mp
open Go.ChangeShapes Go.WideShapes Go.ChangeAt Go.RowKit Mm Hh Hc Mi

theorem eff_set {w : World} {base g : Nat} {r : Rn} {bf bt steps : Int} (I : Pr w base g r bf bt steps) (o : r.Ok) (T : Gc.Ts w base) (hl : r.m.length ≤ 140737488351232) (hss : r.sto.length ≤ 1000000) {op d a b n : Int} (ha : 0 ≤ a ∧ a < 36) (hb : 0 ≤ b ∧ b < 36) (hn : Hh.W n) (hc : op = 2) :
  Calls Tryz.prog 146 #[.pointer (some ⟨g, 0, none⟩), .agg (mvA ⟨op, d, a, b, n⟩)] w fun e w' => e = .returned (ret2 (efR r ⟨op, d, a, b, n⟩).res) ∧ Pr w' base g (r.ev (efR r ⟨op, d, a, b, n⟩)) bf bt steps ∧ Gc.Fr 147 base w w' := by
 have e0 : efR r ⟨op, d, a, b, n⟩ = ⟨r.h, r.m, [], [], some n⟩ := by unfold efR; rw [if_pos (by simp only; omega)]
 rw [e0]
 have V : Hid (∀ k, 0 ≤ k → k < 36 → ∀ W : World, Gr w W → Calls Tryz.prog 145 #[.pointer (some ⟨g, 0, none⟩), .int .i64 k] W fun e w' => e = .returned (.int .u32 (r.get k)) ∧ w' = W) := fun k h0 h1 W q => value_any (I.of q) o k h0 h1
 have wa := o.get a
 have wb := o.get b
 have HI : Hid (Pr w base g r bf bt steps) := I
 have HG0 : Hid (∀ x nq, Gr w ((w.alloc x).drewN nq)) := fun x nq => ((Gr.refl _).alloc _).drewN _
 subst hc
 rw [ev_nil]
 clear I o T e0
 unfold ret2 mvA
 simp only []
 go_enter Tryz.func146, Tryz.ntmps146
 go_wp2_with fail
 refine wp_region_quiet_lit (by kernel_rfl) (by kernel_rfl) ?_
 iterate 3 go_big_quiet_step (fail)
 go_big_quiet_step (exact Calls.quiet_of_same (V.out a ha.1 ha.2 _ (by repeat (first | exact Gr.refl _ | refine Gr.drewN ?_ _ | refine Gr.drew ?_ | refine Gr.alloc ?_ _))))
 iterate 3 go_big_quiet_step (fail)
 go_big_quiet_step (exact Calls.quiet_of_same (V.out b hb.1 hb.2 _ (by repeat (first | exact Gr.refl _ | refine Gr.drewN ?_ _ | refine Gr.drew ?_ | refine Gr.alloc ?_ _))))
 go_big_quiet_step (fail)
 go_big_quiet_step (fail)
 refine wpQuiet_nil ?_
 intro _ hw1
 obtain ⟨nq, hw2⟩ := hw1
 subst hw2
 clear V
 generalize r.get a = X at *
 generalize r.get b = Y at *
 go_wp2_with fail
 go_ret2
 exact ⟨rfl, HI.out.of (HG0.out _ _), Gc.Fr.ofGr (HG0.out _ _) HI.out.base_le⟩
theorem eff_no {w : World} {base g : Nat} {r : Rn} {bf bt steps : Int} (I : Pr w base g r bf bt steps) (o : r.Ok) (T : Gc.Ts w base) (hl : r.m.length ≤ 140737488351232) (hss : r.sto.length ≤ 1000000) {op d a b n : Int} (ha : 0 ≤ a ∧ a < 36) (hb : 0 ≤ b ∧ b < 36) (hn : Hh.W n) (hc : 105 ≤ op ∧ op ≤ 110) :
  Calls Tryz.prog 146 #[.pointer (some ⟨g, 0, none⟩), .agg (mvA ⟨op, d, a, b, n⟩)] w fun e w' => e = .returned (ret2 (efR r ⟨op, d, a, b, n⟩).res) ∧ Pr w' base g (r.ev (efR r ⟨op, d, a, b, n⟩)) bf bt steps ∧ Gc.Fr 147 base w w' := by
 have e0 : efR r ⟨op, d, a, b, n⟩ = ⟨r.h, r.m, [], [], none⟩ := by unfold efR; rw [if_neg (by simp only; omega), if_neg (by simp only; omega), if_neg (by simp only; omega), if_neg (by simp only; omega), if_neg (by simp only; omega), if_neg (by simp only; omega)]
 rw [e0]
 have V : Hid (∀ k, 0 ≤ k → k < 36 → ∀ W : World, Gr w W → Calls Tryz.prog 145 #[.pointer (some ⟨g, 0, none⟩), .int .i64 k] W fun e w' => e = .returned (.int .u32 (r.get k)) ∧ w' = W) := fun k h0 h1 W q => value_any (I.of q) o k h0 h1
 have wa := o.get a
 have wb := o.get b
 have HI : Hid (Pr w base g r bf bt steps) := I
 have HG0 : Hid (∀ x nq, Gr w ((w.alloc x).drewN nq)) := fun x nq => ((Gr.refl _).alloc _).drewN _
 rw [ev_nil]
 have b2 : (op == 2) = false := by simp; omega
 have W211 : Hid (∀ W : World, Calls Tryz.prog 75 #[.int .i64 op, .int .i64 211, .int .i64 215] W fun e w' => e = .returned (.bool false) ∧ w' = W) := fun W => by
  have := within_any op 211 215 W
  rwa [decide_eq_false (by omega)] at this
 have W316 : Hid (∀ W : World, Calls Tryz.prog 75 #[.int .i64 op, .int .i64 316, .int .i64 318] W fun e w' => e = .returned (.bool false) ∧ w' = W) := fun W => by
  have := within_any op 316 318 W
  rwa [decide_eq_false (by omega)] at this
 have W428 : Hid (∀ W : World, Calls Tryz.prog 75 #[.int .i64 op, .int .i64 428, .int .i64 445] W fun e w' => e = .returned (.bool false) ∧ w' = W) := fun W => by
  have := within_any op 428 445 W
  rwa [decide_eq_false (by omega)] at this
 have W528 : Hid (∀ W : World, Calls Tryz.prog 75 #[.int .i64 op, .int .i64 528, .int .i64 545] W fun e w' => e = .returned (.bool false) ∧ w' = W) := fun W => by
  have := within_any op 528 545 W
  rwa [decide_eq_false (by omega)] at this
 have W646 : Hid (∀ W : World, Calls Tryz.prog 75 #[.int .i64 op, .int .i64 646, .int .i64 656] W fun e w' => e = .returned (.bool false) ∧ w' = W) := fun W => by
  have := within_any op 646 656 W
  rwa [decide_eq_false (by omega)] at this
 clear I o T e0 hc
 unfold ret2 mvA
 simp only []
 go_enter Tryz.func146, Tryz.ntmps146
 go_wp2_with fail
 refine wp_region_quiet_lit (by kernel_rfl) (by kernel_rfl) ?_
 iterate 3 go_big_quiet_step (fail)
 go_big_quiet_step (exact Calls.quiet_of_same (V.out a ha.1 ha.2 _ (by repeat (first | exact Gr.refl _ | refine Gr.drewN ?_ _ | refine Gr.drew ?_ | refine Gr.alloc ?_ _))))
 iterate 3 go_big_quiet_step (fail)
 go_big_quiet_step (exact Calls.quiet_of_same (V.out b hb.1 hb.2 _ (by repeat (first | exact Gr.refl _ | refine Gr.drewN ?_ _ | refine Gr.drew ?_ | refine Gr.alloc ?_ _))))
 go_big_quiet_step (fail)
 go_big_quiet_step (fail)
 refine wpQuiet_nil ?_
 intro _ hw1
 obtain ⟨nq, hw2⟩ := hw1
 subst hw2
 clear V
 generalize r.get a = X at *
 generalize r.get b = Y at *
 go_wp2_with fail
 refine (W211.out _).mono ?_
 rintro e w' ⟨rfl, rfl⟩
 clear W211
 go_wp2_with fail
 refine (W316.out _).mono ?_
 rintro e w' ⟨rfl, rfl⟩
 clear W316
 go_wp2_with fail
 refine (W428.out _).mono ?_
 rintro e w' ⟨rfl, rfl⟩
 clear W428
 go_wp2_with fail
 refine (W528.out _).mono ?_
 rintro e w' ⟨rfl, rfl⟩
 clear W528
 go_wp2_with fail
 refine (W646.out _).mono ?_
 rintro e w' ⟨rfl, rfl⟩
 clear W646
 go_wp2_with fail
 go_ret2
 exact ⟨rfl, HI.out.of (HG0.out _ _), Gc.Fr.ofGr (HG0.out _ _) HI.out.base_le⟩
theorem eff_alu {w : World} {base g : Nat} {r : Rn} {bf bt steps : Int} (I : Pr w base g r bf bt steps) (o : r.Ok) (T : Gc.Ts w base) (hl : r.m.length ≤ 140737488351232) (hss : r.sto.length ≤ 1000000) {op d a b n : Int} (ha : 0 ≤ a ∧ a < 36) (hb : 0 ≤ b ∧ b < 36) (hn : Hh.W n) (hc : 428 ≤ op ∧ op ≤ 445) :
  Calls Tryz.prog 146 #[.pointer (some ⟨g, 0, none⟩), .agg (mvA ⟨op, d, a, b, n⟩)] w fun e w' => e = .returned (ret2 (efR r ⟨op, d, a, b, n⟩).res) ∧ Pr w' base g (r.ev (efR r ⟨op, d, a, b, n⟩)) bf bt steps ∧ Gc.Fr 147 base w w' := by
 have e0 : efR r ⟨op, d, a, b, n⟩ = ⟨r.h, r.m, [], [], some (Wd.alu (op - 400) (r.get a) (r.get b))⟩ := by unfold efR; rw [if_neg (by simp only; omega), if_neg (by simp only; omega), if_neg (by simp only; omega), if_pos (by simp only; omega)]
 rw [e0]
 have V : Hid (∀ k, 0 ≤ k → k < 36 → ∀ W : World, Gr w W → Calls Tryz.prog 145 #[.pointer (some ⟨g, 0, none⟩), .int .i64 k] W fun e w' => e = .returned (.int .u32 (r.get k)) ∧ w' = W) := fun k h0 h1 W q => value_any (I.of q) o k h0 h1
 have wa := o.get a
 have wb := o.get b
 have HI : Hid (Pr w base g r bf bt steps) := I
 have HG0 : Hid (∀ x nq, Gr w ((w.alloc x).drewN nq)) := fun x nq => ((Gr.refl _).alloc _).drewN _
 rw [ev_nil]
 have b2 : (op == 2) = false := by simp; omega
 have W211 : Hid (∀ W : World, Calls Tryz.prog 75 #[.int .i64 op, .int .i64 211, .int .i64 215] W fun e w' => e = .returned (.bool false) ∧ w' = W) := fun W => by
  have := within_any op 211 215 W
  rwa [decide_eq_false (by omega)] at this
 have W316 : Hid (∀ W : World, Calls Tryz.prog 75 #[.int .i64 op, .int .i64 316, .int .i64 318] W fun e w' => e = .returned (.bool false) ∧ w' = W) := fun W => by
  have := within_any op 316 318 W
  rwa [decide_eq_false (by omega)] at this
 have W428 : Hid (∀ W : World, Calls Tryz.prog 75 #[.int .i64 op, .int .i64 428, .int .i64 445] W fun e w' => e = .returned (.bool true) ∧ w' = W) := fun W => by
  have := within_any op 428 445 W
  rwa [decide_eq_true (by omega)] at this
 have A : Hid (∀ W : World, Calls Tryz.prog 112 #[.int .i64 (op - 400), .int .u32 (r.get a), .int .u32 (r.get b)] W fun e w' => e = .returned (.int .u32 (Wd.alu (op - 400) (r.get a) (r.get b))) ∧ w' = W) := fun W => Ww.alu_any (op - 400) _ _ W wa.1 wa.2 wb.1 wb.2
 generalize Wd.alu (op - 400) (r.get a) (r.get b) = Z at *
 have hop : ∃ q, op = 400 + q := ⟨op - 400, by omega⟩
 clear I o T e0 wa wb
 unfold ret2 mvA
 simp only []
 go_enter Tryz.func146, Tryz.ntmps146
 go_wp2_with fail
 refine wp_region_quiet_lit (by kernel_rfl) (by kernel_rfl) ?_
 iterate 3 go_big_quiet_step (fail)
 go_big_quiet_step (exact Calls.quiet_of_same (V.out a ha.1 ha.2 _ (by repeat (first | exact Gr.refl _ | refine Gr.drewN ?_ _ | refine Gr.drew ?_ | refine Gr.alloc ?_ _))))
 iterate 3 go_big_quiet_step (fail)
 go_big_quiet_step (exact Calls.quiet_of_same (V.out b hb.1 hb.2 _ (by repeat (first | exact Gr.refl _ | refine Gr.drewN ?_ _ | refine Gr.drew ?_ | refine Gr.alloc ?_ _))))
 go_big_quiet_step (fail)
 go_big_quiet_step (fail)
 refine wpQuiet_nil ?_
 intro _ hw1
 obtain ⟨nq, hw2⟩ := hw1
 subst hw2
 clear V
 generalize r.get a = X at *
 generalize r.get b = Y at *
 go_wp2_with fail
 refine (W211.out _).mono ?_
 rintro e w' ⟨rfl, rfl⟩
 clear W211
 go_wp2_with fail
 refine (W316.out _).mono ?_
 rintro e w' ⟨rfl, rfl⟩
 clear W316
 go_wp2_with fail
 refine (W428.out _).mono ?_
 rintro e w' ⟨rfl, rfl⟩
 clear W428
 go_wp2_with fail
 refine (A.out _).mono ?_
 rintro e w' ⟨rfl, rfl⟩
 clear A
 go_wp2_with fail
 go_ret2
 exact ⟨rfl, HI.out.of (HG0.out _ _), Gc.Fr.ofGr (HG0.out _ _) HI.out.base_le⟩
theorem eff_aln {w : World} {base g : Nat} {r : Rn} {bf bt steps : Int} (I : Pr w base g r bf bt steps) (o : r.Ok) (T : Gc.Ts w base) (hl : r.m.length ≤ 140737488351232) (hss : r.sto.length ≤ 1000000) {op d a b n : Int} (ha : 0 ≤ a ∧ a < 36) (hb : 0 ≤ b ∧ b < 36) (hn : Hh.W n) (hc : 528 ≤ op ∧ op ≤ 545) :
  Calls Tryz.prog 146 #[.pointer (some ⟨g, 0, none⟩), .agg (mvA ⟨op, d, a, b, n⟩)] w fun e w' => e = .returned (ret2 (efR r ⟨op, d, a, b, n⟩).res) ∧ Pr w' base g (r.ev (efR r ⟨op, d, a, b, n⟩)) bf bt steps ∧ Gc.Fr 147 base w w' := by
 have e0 : efR r ⟨op, d, a, b, n⟩ = ⟨r.h, r.m, [], [], some (Wd.alu (op - 500) (r.get a) n)⟩ := by unfold efR; rw [if_neg (by simp only; omega), if_neg (by simp only; omega), if_neg (by simp only; omega), if_neg (by simp only; omega), if_pos (by simp only; omega)]
 rw [e0]
 have V : Hid (∀ k, 0 ≤ k → k < 36 → ∀ W : World, Gr w W → Calls Tryz.prog 145 #[.pointer (some ⟨g, 0, none⟩), .int .i64 k] W fun e w' => e = .returned (.int .u32 (r.get k)) ∧ w' = W) := fun k h0 h1 W q => value_any (I.of q) o k h0 h1
 have wa := o.get a
 have wb := o.get b
 have HI : Hid (Pr w base g r bf bt steps) := I
 have HG0 : Hid (∀ x nq, Gr w ((w.alloc x).drewN nq)) := fun x nq => ((Gr.refl _).alloc _).drewN _
 rw [ev_nil]
 have b2 : (op == 2) = false := by simp; omega
 have W211 : Hid (∀ W : World, Calls Tryz.prog 75 #[.int .i64 op, .int .i64 211, .int .i64 215] W fun e w' => e = .returned (.bool false) ∧ w' = W) := fun W => by
  have := within_any op 211 215 W
  rwa [decide_eq_false (by omega)] at this
 have W316 : Hid (∀ W : World, Calls Tryz.prog 75 #[.int .i64 op, .int .i64 316, .int .i64 318] W fun e w' => e = .returned (.bool false) ∧ w' = W) := fun W => by
  have := within_any op 316 318 W
  rwa [decide_eq_false (by omega)] at this
 have W428 : Hid (∀ W : World, Calls Tryz.prog 75 #[.int .i64 op, .int .i64 428, .int .i64 445] W fun e w' => e = .returned (.bool false) ∧ w' = W) := fun W => by
  have := within_any op 428 445 W
  rwa [decide_eq_false (by omega)] at this
 have W528 : Hid (∀ W : World, Calls Tryz.prog 75 #[.int .i64 op, .int .i64 528, .int .i64 545] W fun e w' => e = .returned (.bool true) ∧ w' = W) := fun W => by
  have := within_any op 528 545 W
  rwa [decide_eq_true (by omega)] at this
 have A : Hid (∀ W : World, Calls Tryz.prog 112 #[.int .i64 (op - 500), .int .u32 (r.get a), .int .u32 n] W fun e w' => e = .returned (.int .u32 (Wd.alu (op - 500) (r.get a) n)) ∧ w' = W) := fun W => Ww.alu_any (op - 500) _ _ W wa.1 wa.2 hn.1 hn.2
 generalize Wd.alu (op - 500) (r.get a) n = Z at *
 have hop : ∃ q, op = 500 + q := ⟨op - 500, by omega⟩
 clear I o T e0 wa wb
 unfold ret2 mvA
 simp only []
 go_enter Tryz.func146, Tryz.ntmps146
 go_wp2_with fail
 refine wp_region_quiet_lit (by kernel_rfl) (by kernel_rfl) ?_
 iterate 3 go_big_quiet_step (fail)
 go_big_quiet_step (exact Calls.quiet_of_same (V.out a ha.1 ha.2 _ (by repeat (first | exact Gr.refl _ | refine Gr.drewN ?_ _ | refine Gr.drew ?_ | refine Gr.alloc ?_ _))))
 iterate 3 go_big_quiet_step (fail)
 go_big_quiet_step (exact Calls.quiet_of_same (V.out b hb.1 hb.2 _ (by repeat (first | exact Gr.refl _ | refine Gr.drewN ?_ _ | refine Gr.drew ?_ | refine Gr.alloc ?_ _))))
 go_big_quiet_step (fail)
 go_big_quiet_step (fail)
 refine wpQuiet_nil ?_
 intro _ hw1
 obtain ⟨nq, hw2⟩ := hw1
 subst hw2
 clear V
 generalize r.get a = X at *
 generalize r.get b = Y at *
 go_wp2_with fail
 refine (W211.out _).mono ?_
 rintro e w' ⟨rfl, rfl⟩
 clear W211
 go_wp2_with fail
 refine (W316.out _).mono ?_
 rintro e w' ⟨rfl, rfl⟩
 clear W316
 go_wp2_with fail
 refine (W428.out _).mono ?_
 rintro e w' ⟨rfl, rfl⟩
 clear W428
 go_wp2_with fail
 refine (W528.out _).mono ?_
 rintro e w' ⟨rfl, rfl⟩
 clear W528
 go_wp2_with fail
 refine (A.out _).mono ?_
 rintro e w' ⟨rfl, rfl⟩
 clear A
 go_wp2_with fail
 go_ret2
 exact ⟨rfl, HI.out.of (HG0.out _ _), Gc.Fr.ofGr (HG0.out _ _) HI.out.base_le⟩
end Go.Proofs.YtchllaeembmioaaGreatDoor.Mp
namespace Go.Proofs.YtchllaeembmioaaGreatDoor.Mp
open Go.ChangeShapes Go.WideShapes Go.ChangeAt Go.RowKit Mm Hh Hc Mi

theorem eff_ld {w : World} {base g : Nat} {r : Rn} {bf bt steps : Int} (I : Pr w base g r bf bt steps) (o : r.Ok) (T : Gc.Ts w base) (hl : r.m.length ≤ 140737488351232) (hss : r.sto.length ≤ 1000000) {op d a b n : Int} (ha : 0 ≤ a ∧ a < 36) (hb : 0 ≤ b ∧ b < 36) (hn : Hh.W n) (hc : 211 ≤ op ∧ op ≤ 215) :
  Calls Tryz.prog 146 #[.pointer (some ⟨g, 0, none⟩), .agg (mvA ⟨op, d, a, b, n⟩)] w fun e w' => e = .returned (ret2 (efR r ⟨op, d, a, b, n⟩).res) ∧ Pr w' base g (r.ev (efR r ⟨op, d, a, b, n⟩)) bf bt steps ∧ Gc.Fr 147 base w w' := by
 have e0 : efR r ⟨op, d, a, b, n⟩ = efLoad r.h r.m (op - 200) (Wd.lo (r.get a + n)) := by unfold efR; rw [if_neg (by simp only; omega), if_pos (by simp only; omega)]
 rw [e0]
 have V : Hid (∀ k, 0 ≤ k → k < 36 → ∀ W : World, Gr w W → Calls Tryz.prog 145 #[.pointer (some ⟨g, 0, none⟩), .int .i64 k] W fun e w' => e = .returned (.int .u32 (r.get k)) ∧ w' = W) := fun k h0 h1 W q => value_any (I.of q) o k h0 h1
 have wa := o.get a
 have wb := o.get b
 have HI : Hid (Pr w base g r bf bt steps) := I
 have HG0 : Hid (∀ x nq, Gr w ((w.alloc x).drewN nq)) := fun x nq => ((Gr.refl _).alloc _).drewN _
 have b2 : (op == 2) = false := by simp; omega
 have W211 : Hid (∀ W : World, Calls Tryz.prog 75 #[.int .i64 op, .int .i64 211, .int .i64 215] W fun e w' => e = .returned (.bool true) ∧ w' = W) := fun W => by
  have := within_any op 211 215 W
  rwa [decide_eq_true (by omega)] at this
 have wl := W.lo (r.get a + n)
 have hw : IntKind.i64.wrap (op - 200) = op - 200 := by rw [IntKind.wrap_i64]; omega
 have L : Hid (∀ W : World, Gr w W → Calls Tryz.prog 110 #[.pointer (some ⟨g, 0, none⟩), .int .i64 (IntKind.i64.wrap (op - 200)), .int .u32 (IntKind.u32.wrap (r.get a + n))] W fun e w' => e = .returned (ret2 (efLoad r.h r.m (op - 200) (Wd.lo (r.get a + n))).res) ∧ Pr w' base g (r.ev (efLoad r.h r.m (op - 200) (Wd.lo (r.get a + n)))) bf bt steps ∧ Gc.Fr 147 base W w') := fun W q => by
  rw [hw]
  have J := I.of q
  refine (Gc.Load_any J hl (op - 200) _ wl.1 wl.2).mono ?_
  rintro e w' ⟨rfl, J2, C2⟩
  refine ⟨?_, ?_, Gc.In.below J C2⟩
  ·unfold efLoad ret2
   split
   ·rename_i h
    rw [h]
    rfl
   ·rename_i h
    have h2 : ldOk r.m (op - 200) (Wd.lo (r.get a + n)) = false := by simpa using h
    unfold ldV
    rw [h2]
    rfl
  ·unfold efLoad
   split
   ·rename_i h
    rw [if_pos h] at J2
    rw [ev_nil]
    exact J2
   ·rename_i h
    rw [if_neg h] at J2
    have e : r.ev ⟨r.h.trap 3, r.m, [], [], none⟩ = { r with h := r.h.trap 3 } := by simp [Rn.ev]
    rw [e]
    exact J2
 generalize efLoad r.h r.m (op - 200) (Wd.lo (r.get a + n)) = E at *
 clear I o T e0 wa wb wl hw
 unfold ret2 at *
 unfold mvA
 simp only []
 go_enter Tryz.func146, Tryz.ntmps146
 go_wp2_with fail
 refine wp_region_quiet_lit (by kernel_rfl) (by kernel_rfl) ?_
 iterate 3 go_big_quiet_step (fail)
 go_big_quiet_step (exact Calls.quiet_of_same (V.out a ha.1 ha.2 _ (by repeat (first | exact Gr.refl _ | refine Gr.drewN ?_ _ | refine Gr.drew ?_ | refine Gr.alloc ?_ _))))
 iterate 3 go_big_quiet_step (fail)
 go_big_quiet_step (exact Calls.quiet_of_same (V.out b hb.1 hb.2 _ (by repeat (first | exact Gr.refl _ | refine Gr.drewN ?_ _ | refine Gr.drew ?_ | refine Gr.alloc ?_ _))))
 go_big_quiet_step (fail)
 go_big_quiet_step (fail)
 refine wpQuiet_nil ?_
 intro _ hw1
 obtain ⟨nq, hw2⟩ := hw1
 subst hw2
 clear V
 generalize r.get a = X at *
 generalize r.get b = Y at *
 go_wp2_with fail
 refine (W211.out _).mono ?_
 rintro e w' ⟨rfl, rfl⟩
 clear W211
 go_wp2_with fail
 have HBM : Hid (((w.alloc (.cells #[.int .i64 op, .int .i64 d, .int .i64 a, .int .i64 b, .int .u32 n] 166)).drewN nq).heap[w.heap.size]? = some (.cells #[.int .i64 op, .int .i64 d, .int .i64 a, .int .i64 b, .int .u32 n] 166 (0, 0))) := heap_alloc_new w _
 have k0 : ((w.alloc (.cells #[.int .i64 op, .int .i64 d, .int .i64 a, .int .i64 b, .int .u32 n] 166)).drewN nq).cell? ⟨w.heap.size, 0, none⟩ = some (.int .i64 op) := cell_of_row _ _ _ _ _ _ HBM.out
 have k4 : ((w.alloc (.cells #[.int .i64 op, .int .i64 d, .int .i64 a, .int .i64 b, .int .u32 n] 166)).drewN nq).cell? ⟨w.heap.size, 4, none⟩ = some (.int .u32 n) := cell_of_row _ _ _ _ _ _ HBM.out
 go_region_with ((go_at_call 110; refine (L.out _ (by repeat (first | exact Gr.refl _ | refine Gr.drewN ?_ _ | refine Gr.drew ?_ | refine Gr.alloc ?_ _))).mono ?_; rintro e w2 ⟨rfl, J2, F2⟩; have HJ : Hid (Pr w2 base g (r.ev E) bf bt steps) := J2; have HF : Hid (Gc.Fr 147 base w w2) := (Gc.Fr.ofGr (by repeat (first | exact Gr.refl _ | refine Gr.drewN ?_ _ | refine Gr.drew ?_ | refine Gr.alloc ?_ _)) HI.out.base_le).trans F2; have HB2 : Hid (w2.heap[w.heap.size]? = some (.cells #[.int .i64 op, .int .i64 d, .int .i64 a, .int .i64 b, .int .u32 n] 166 (0, 0))) := (F2.keep _ _ _ _ HBM.out (by decide) (by decide) (by decide)).trans HBM.out; have j0 : w2.cell? ⟨w.heap.size, 0, none⟩ = some (.int .i64 op) := cell_of_row _ _ _ _ _ _ HB2.out; have j4 : w2.cell? ⟨w.heap.size, 4, none⟩ = some (.int .u32 n) := cell_of_row _ _ _ _ _ _ HB2.out; clear J2 F2))
 all_goals
  go_wp2_with fail
  go_ret2
  exact ⟨rfl, HJ.out, HF.out⟩
end Go.Proofs.YtchllaeembmioaaGreatDoor.Mp
namespace Go.Proofs.YtchllaeembmioaaGreatDoor.Mp
open Go.ChangeShapes Go.WideShapes Go.ChangeAt Go.RowKit Mm Hh Hc Mi

theorem eff_st {w : World} {base g : Nat} {r : Rn} {bf bt steps : Int} (I : Pr w base g r bf bt steps) (o : r.Ok) (T : Gc.Ts w base) (hl : r.m.length ≤ 140737488351232) (hss : r.sto.length ≤ 1000000) {op d a b n : Int} (ha : 0 ≤ a ∧ a < 36) (hb : 0 ≤ b ∧ b < 36) (hn : Hh.W n) (hc : 316 ≤ op ∧ op ≤ 318) :
  Calls Tryz.prog 146 #[.pointer (some ⟨g, 0, none⟩), .agg (mvA ⟨op, d, a, b, n⟩)] w fun e w' => e = .returned (ret2 (efR r ⟨op, d, a, b, n⟩).res) ∧ Pr w' base g (r.ev (efR r ⟨op, d, a, b, n⟩)) bf bt steps ∧ Gc.Fr 147 base w w' := by
 have e0 : efR r ⟨op, d, a, b, n⟩ = efStore r.h r.m (op - 300) (Wd.lo (r.get a + n)) (r.get b) := by unfold efR; rw [if_neg (by simp only; omega), if_neg (by simp only; omega), if_pos (by simp only; omega)]
 rw [e0]
 have V : Hid (∀ k, 0 ≤ k → k < 36 → ∀ W : World, Gr w W → Calls Tryz.prog 145 #[.pointer (some ⟨g, 0, none⟩), .int .i64 k] W fun e w' => e = .returned (.int .u32 (r.get k)) ∧ w' = W) := fun k h0 h1 W q => value_any (I.of q) o k h0 h1
 have wa := o.get a
 have wb := o.get b
 have HI : Hid (Pr w base g r bf bt steps) := I
 have HG0 : Hid (∀ x nq, Gr w ((w.alloc x).drewN nq)) := fun x nq => ((Gr.refl _).alloc _).drewN _
 have b2 : (op == 2) = false := by simp; omega
 have W211 : Hid (∀ W : World, Calls Tryz.prog 75 #[.int .i64 op, .int .i64 211, .int .i64 215] W fun e w' => e = .returned (.bool false) ∧ w' = W) := fun W => by
  have := within_any op 211 215 W
  rwa [decide_eq_false (by omega)] at this
 have W316 : Hid (∀ W : World, Calls Tryz.prog 75 #[.int .i64 op, .int .i64 316, .int .i64 318] W fun e w' => e = .returned (.bool true) ∧ w' = W) := fun W => by
  have := within_any op 316 318 W
  rwa [decide_eq_true (by omega)] at this
 have wl := W.lo (r.get a + n)
 have hres : (efStore r.h r.m (op - 300) (Wd.lo (r.get a + n)) (r.get b)).res = none := by unfold efStore; split <;> rfl
 have hw : IntKind.i64.wrap (op - 300) = op - 300 := by rw [IntKind.wrap_i64]; omega
 have L : Hid (∀ W : World, Gr w W → Calls Tryz.prog 111 #[.pointer (some ⟨g, 0, none⟩), .int .i64 (IntKind.i64.wrap (op - 300)), .int .u32 (IntKind.u32.wrap (r.get a + n)), .int .u32 (r.get b)] W fun e w' => e = .returned (.tuple #[]) ∧ Pr w' base g (r.ev (efStore r.h r.m (op - 300) (Wd.lo (r.get a + n)) (r.get b))) bf bt steps ∧ Gc.Fr 147 base W w') := fun W q => by
  rw [hw]
  have J := I.of q
  refine (Gc.Store_any J (Gc.ts_of T (Below.mono q I.base_le)) hl hss (op - 300) _ _ wl.1 wl.2 wb.1 wb.2).mono ?_
  rintro e w' ⟨rfl, J2, C2⟩
  refine ⟨rfl, ?_, C2⟩
  have ho : (efStore r.h r.m (op - 300) (Wd.lo (r.get a + n)) (r.get b)).out = [] := by unfold efStore; split <;> rfl
  unfold Pr Rn.ev
  simp only [ho, List.append_nil]
  exact J2
 rw [hres]
 generalize efStore r.h r.m (op - 300) (Wd.lo (r.get a + n)) (r.get b) = E at *
 clear I o T e0 wa wb wl hres hw
 unfold ret2 at *
 unfold mvA
 simp only []
 go_enter Tryz.func146, Tryz.ntmps146
 go_wp2_with fail
 refine wp_region_quiet_lit (by kernel_rfl) (by kernel_rfl) ?_
 iterate 3 go_big_quiet_step (fail)
 go_big_quiet_step (exact Calls.quiet_of_same (V.out a ha.1 ha.2 _ (by repeat (first | exact Gr.refl _ | refine Gr.drewN ?_ _ | refine Gr.drew ?_ | refine Gr.alloc ?_ _))))
 iterate 3 go_big_quiet_step (fail)
 go_big_quiet_step (exact Calls.quiet_of_same (V.out b hb.1 hb.2 _ (by repeat (first | exact Gr.refl _ | refine Gr.drewN ?_ _ | refine Gr.drew ?_ | refine Gr.alloc ?_ _))))
 go_big_quiet_step (fail)
 go_big_quiet_step (fail)
 refine wpQuiet_nil ?_
 intro _ hw1
 obtain ⟨nq, hw2⟩ := hw1
 subst hw2
 clear V
 generalize r.get a = X at *
 generalize r.get b = Y at *
 go_wp2_with fail
 refine (W211.out _).mono ?_
 rintro e w' ⟨rfl, rfl⟩
 clear W211
 go_wp2_with fail
 refine (W316.out _).mono ?_
 rintro e w' ⟨rfl, rfl⟩
 clear W316
 go_wp2_with fail
 have HBM : Hid (((w.alloc (.cells #[.int .i64 op, .int .i64 d, .int .i64 a, .int .i64 b, .int .u32 n] 166)).drewN nq).heap[w.heap.size]? = some (.cells #[.int .i64 op, .int .i64 d, .int .i64 a, .int .i64 b, .int .u32 n] 166 (0, 0))) := heap_alloc_new w _
 have k0 : ((w.alloc (.cells #[.int .i64 op, .int .i64 d, .int .i64 a, .int .i64 b, .int .u32 n] 166)).drewN nq).cell? ⟨w.heap.size, 0, none⟩ = some (.int .i64 op) := cell_of_row _ _ _ _ _ _ HBM.out
 have k4 : ((w.alloc (.cells #[.int .i64 op, .int .i64 d, .int .i64 a, .int .i64 b, .int .u32 n] 166)).drewN nq).cell? ⟨w.heap.size, 4, none⟩ = some (.int .u32 n) := cell_of_row _ _ _ _ _ _ HBM.out
 go_region_with ((go_at_call 111; refine (L.out _ (by repeat (first | exact Gr.refl _ | refine Gr.drewN ?_ _ | refine Gr.drew ?_ | refine Gr.alloc ?_ _))).mono ?_; rintro e w2 ⟨rfl, J2, F2⟩; have HJ : Hid (Pr w2 base g (r.ev E) bf bt steps) := J2; have HF : Hid (Gc.Fr 147 base w w2) := (Gc.Fr.ofGr (by repeat (first | exact Gr.refl _ | refine Gr.drewN ?_ _ | refine Gr.drew ?_ | refine Gr.alloc ?_ _)) HI.out.base_le).trans F2; have HB2 : Hid (w2.heap[w.heap.size]? = some (.cells #[.int .i64 op, .int .i64 d, .int .i64 a, .int .i64 b, .int .u32 n] 166 (0, 0))) := (F2.keep _ _ _ _ HBM.out (by decide) (by decide) (by decide)).trans HBM.out; have j0 : w2.cell? ⟨w.heap.size, 0, none⟩ = some (.int .i64 op) := cell_of_row _ _ _ _ _ _ HB2.out; have j4 : w2.cell? ⟨w.heap.size, 4, none⟩ = some (.int .u32 n) := cell_of_row _ _ _ _ _ _ HB2.out; clear J2 F2))
 all_goals
  go_wp2_with fail
  go_ret2
  exact ⟨rfl, HJ.out, HF.out⟩
end Go.Proofs.YtchllaeembmioaaGreatDoor.Mp
namespace Go.Proofs.YtchllaeembmioaaGreatDoor.Mp
open Go.ChangeShapes Go.WideShapes Go.ChangeAt Go.RowKit Mm Hh Hc Mi

theorem eff_at {w : World} {base g : Nat} {r : Rn} {bf bt steps : Int} (I : Pr w base g r bf bt steps) (o : r.Ok) (T : Gc.Ts w base) (hl : r.m.length ≤ 140737488351232) (hss : r.sto.length ≤ 1000000) {op d a b n : Int} (ha : 0 ≤ a ∧ a < 36) (hb : 0 ≤ b ∧ b < 36) (hn : Hh.W n) (hc : 646 ≤ op ∧ op ≤ 656) :
  Calls Tryz.prog 146 #[.pointer (some ⟨g, 0, none⟩), .agg (mvA ⟨op, d, a, b, n⟩)] w fun e w' => e = .returned (ret2 (efR r ⟨op, d, a, b, n⟩).res) ∧ Pr w' base g (r.ev (efR r ⟨op, d, a, b, n⟩)) bf bt steps ∧ Gc.Fr 147 base w w' := by
 have e0 : efR r ⟨op, d, a, b, n⟩ = efAtom r.h r.m (op - 600) (r.get a) (r.get b) := by unfold efR; rw [if_neg (by simp only; omega), if_neg (by simp only; omega), if_neg (by simp only; omega), if_neg (by simp only; omega), if_neg (by simp only; omega), if_pos (by simp only; omega)]
 rw [e0]
 have V : Hid (∀ k, 0 ≤ k → k < 36 → ∀ W : World, Gr w W → Calls Tryz.prog 145 #[.pointer (some ⟨g, 0, none⟩), .int .i64 k] W fun e w' => e = .returned (.int .u32 (r.get k)) ∧ w' = W) := fun k h0 h1 W q => value_any (I.of q) o k h0 h1
 have wa := o.get a
 have wb := o.get b
 have HI : Hid (Pr w base g r bf bt steps) := I
 have HG0 : Hid (∀ x nq, Gr w ((w.alloc x).drewN nq)) := fun x nq => ((Gr.refl _).alloc _).drewN _
 have b2 : (op == 2) = false := by simp; omega
 have W211 : Hid (∀ W : World, Calls Tryz.prog 75 #[.int .i64 op, .int .i64 211, .int .i64 215] W fun e w' => e = .returned (.bool false) ∧ w' = W) := fun W => by
  have := within_any op 211 215 W
  rwa [decide_eq_false (by omega)] at this
 have W316 : Hid (∀ W : World, Calls Tryz.prog 75 #[.int .i64 op, .int .i64 316, .int .i64 318] W fun e w' => e = .returned (.bool false) ∧ w' = W) := fun W => by
  have := within_any op 316 318 W
  rwa [decide_eq_false (by omega)] at this
 have W428 : Hid (∀ W : World, Calls Tryz.prog 75 #[.int .i64 op, .int .i64 428, .int .i64 445] W fun e w' => e = .returned (.bool false) ∧ w' = W) := fun W => by
  have := within_any op 428 445 W
  rwa [decide_eq_false (by omega)] at this
 have W528 : Hid (∀ W : World, Calls Tryz.prog 75 #[.int .i64 op, .int .i64 528, .int .i64 545] W fun e w' => e = .returned (.bool false) ∧ w' = W) := fun W => by
  have := within_any op 528 545 W
  rwa [decide_eq_false (by omega)] at this
 have W646 : Hid (∀ W : World, Calls Tryz.prog 75 #[.int .i64 op, .int .i64 646, .int .i64 656] W fun e w' => e = .returned (.bool true) ∧ w' = W) := fun W => by
  have := within_any op 646 656 W
  rwa [decide_eq_true (by omega)] at this
 have hw : IntKind.i64.wrap (op - 600) = op - 600 := by rw [IntKind.wrap_i64]; omega
 have L : Hid (∀ W : World, Gr w W → Calls Tryz.prog 113 #[.pointer (some ⟨g, 0, none⟩), .int .i64 (IntKind.i64.wrap (op - 600)), .int .u32 (r.get a), .int .u32 (r.get b)] W fun e w' => e = .returned (ret2 (efAtom r.h r.m (op - 600) (r.get a) (r.get b)).res) ∧ Pr w' base g (r.ev (efAtom r.h r.m (op - 600) (r.get a) (r.get b))) bf bt steps ∧ Gc.Fr 147 base W w') := fun W q => by
  rw [hw]
  have J := I.of q
  refine (Gc.Atom_any J (Gc.ts_of T (Below.mono q I.base_le)) hl hss (op - 600) _ _ wa.1 wa.2 wb.1 wb.2).mono ?_
  rintro e w' ⟨rfl, J2, C2⟩
  refine ⟨rfl, ?_, C2⟩
  have ho : (efAtom r.h r.m (op - 600) (r.get a) (r.get b)).out = [] := by
   unfold efAtom efLr efSc efAmo
   repeat (first | rfl | split)
  unfold Pr Rn.ev
  simp only [ho, List.append_nil]
  exact J2
 generalize efAtom r.h r.m (op - 600) (r.get a) (r.get b) = E at *
 clear I o T e0 wa wb hw
 unfold ret2 at *
 unfold mvA
 simp only []
 go_enter Tryz.func146, Tryz.ntmps146
 go_wp2_with fail
 refine wp_region_quiet_lit (by kernel_rfl) (by kernel_rfl) ?_
 iterate 3 go_big_quiet_step (fail)
 go_big_quiet_step (exact Calls.quiet_of_same (V.out a ha.1 ha.2 _ (by repeat (first | exact Gr.refl _ | refine Gr.drewN ?_ _ | refine Gr.drew ?_ | refine Gr.alloc ?_ _))))
 iterate 3 go_big_quiet_step (fail)
 go_big_quiet_step (exact Calls.quiet_of_same (V.out b hb.1 hb.2 _ (by repeat (first | exact Gr.refl _ | refine Gr.drewN ?_ _ | refine Gr.drew ?_ | refine Gr.alloc ?_ _))))
 go_big_quiet_step (fail)
 go_big_quiet_step (fail)
 refine wpQuiet_nil ?_
 intro _ hw1
 obtain ⟨nq, hw2⟩ := hw1
 subst hw2
 clear V
 generalize r.get a = X at *
 generalize r.get b = Y at *
 go_wp2_with fail
 refine (W211.out _).mono ?_
 rintro e w' ⟨rfl, rfl⟩
 clear W211
 go_wp2_with fail
 refine (W316.out _).mono ?_
 rintro e w' ⟨rfl, rfl⟩
 clear W316
 go_wp2_with fail
 refine (W428.out _).mono ?_
 rintro e w' ⟨rfl, rfl⟩
 clear W428
 go_wp2_with fail
 refine (W528.out _).mono ?_
 rintro e w' ⟨rfl, rfl⟩
 clear W528
 go_wp2_with fail
 refine (W646.out _).mono ?_
 rintro e w' ⟨rfl, rfl⟩
 clear W646
 go_wp2_with fail
 have HBM : Hid (((w.alloc (.cells #[.int .i64 op, .int .i64 d, .int .i64 a, .int .i64 b, .int .u32 n] 166)).drewN nq).heap[w.heap.size]? = some (.cells #[.int .i64 op, .int .i64 d, .int .i64 a, .int .i64 b, .int .u32 n] 166 (0, 0))) := heap_alloc_new w _
 have k0 : ((w.alloc (.cells #[.int .i64 op, .int .i64 d, .int .i64 a, .int .i64 b, .int .u32 n] 166)).drewN nq).cell? ⟨w.heap.size, 0, none⟩ = some (.int .i64 op) := cell_of_row _ _ _ _ _ _ HBM.out
 have k4 : ((w.alloc (.cells #[.int .i64 op, .int .i64 d, .int .i64 a, .int .i64 b, .int .u32 n] 166)).drewN nq).cell? ⟨w.heap.size, 4, none⟩ = some (.int .u32 n) := cell_of_row _ _ _ _ _ _ HBM.out
 go_region_with ((go_at_call 113; refine (L.out _ (by repeat (first | exact Gr.refl _ | refine Gr.drewN ?_ _ | refine Gr.drew ?_ | refine Gr.alloc ?_ _))).mono ?_; rintro e w2 ⟨rfl, J2, F2⟩; have HJ : Hid (Pr w2 base g (r.ev E) bf bt steps) := J2; have HF : Hid (Gc.Fr 147 base w w2) := (Gc.Fr.ofGr (by repeat (first | exact Gr.refl _ | refine Gr.drewN ?_ _ | refine Gr.drew ?_ | refine Gr.alloc ?_ _)) HI.out.base_le).trans F2; have HB2 : Hid (w2.heap[w.heap.size]? = some (.cells #[.int .i64 op, .int .i64 d, .int .i64 a, .int .i64 b, .int .u32 n] 166 (0, 0))) := (F2.keep _ _ _ _ HBM.out (by decide) (by decide) (by decide)).trans HBM.out; have j0 : w2.cell? ⟨w.heap.size, 0, none⟩ = some (.int .i64 op) := cell_of_row _ _ _ _ _ _ HB2.out; have j4 : w2.cell? ⟨w.heap.size, 4, none⟩ = some (.int .u32 n) := cell_of_row _ _ _ _ _ _ HB2.out; clear J2 F2))
 all_goals
  go_wp2_with fail
  go_ret2
  exact ⟨rfl, HJ.out, HF.out⟩
end Go.Proofs.YtchllaeembmioaaGreatDoor.Mp
namespace Go.Proofs.YtchllaeembmioaaGreatDoor.Mp
open Go.ChangeShapes Go.WideShapes Go.ChangeAt Go.RowKit Mm Hh Hc Mi

theorem effect_any {w : World} {base g : Nat} {r : Rn} {bf bt steps : Int} (I : Pr w base g r bf bt steps) (o : r.Ok) (T : Gc.Ts w base) (hl : r.m.length ≤ 140737488351232) (hss : r.sto.length ≤ 1000000) {i : Mv} (hi : 0 ≤ named i.op) (h1 : ¬ i.op = 1) (h3 : ¬ i.op = 3) (h4 : ¬ i.op = 4) (h5 : ¬ i.op = 5) (h6 : ¬ i.op = 6) (ha : 0 ≤ i.a ∧ i.a < 36) (hb : 0 ≤ i.b ∧ i.b < 36) (hn : Hh.W i.n) :
  Calls Tryz.prog 146 #[.pointer (some ⟨g, 0, none⟩), .agg (mvA i)] w fun e w' => e = .returned (ret2 (efR r i).res) ∧ Pr w' base g (r.ev (efR r i)) bf bt steps ∧ Gc.Fr 147 base w w' := by
 obtain ⟨op, d, a, b, n⟩ := i
 simp only at *
 rcases named_cases hi with q | q | q | q | q | q | q | q | q | q | q | q
 ·exact absurd q h1
 ·exact eff_set I o T hl hss ha hb hn q
 ·exact absurd q h3
 ·exact absurd q h4
 ·exact absurd q h5
 ·exact absurd q h6
 ·exact eff_no I o T hl hss ha hb hn q
 ·exact eff_ld I o T hl hss ha hb hn q
 ·exact eff_st I o T hl hss ha hb hn q
 ·exact eff_alu I o T hl hss ha hb hn q
 ·exact eff_aln I o T hl hss ha hb hn q
 ·exact eff_at I o T hl hss ha hb hn q
theorem ev_okR {w : World} {base g : Nat} {r : Rn} {e : Ev} {bf bt steps : Int} (o : r.Ok) (I : Pr w base g (r.ev e) bf bt steps) : (r.ev e).Ok := by
 obtain ⟨c, hc, I⟩ := I
 have := I.ok
 rw [hc] at this
 exact ⟨this, o.tl, o.tb, o.h0, o.h1⟩
theorem do_at {w : World} {base g : Nat} {r : Rn} {bf bt steps : Int} (I : Pr w base g r bf bt steps) (o : r.Ok) (hr : r.n ≤ 1000000) (op d a b n : Int) (h1 : op = 1) :
  Calls Tryz.prog 124 #[.pointer (some ⟨g, 0, none⟩), .agg #[.int .i64 op, .int .i64 d, .int .i64 a, .int .i64 b, .int .u32 n]] w fun e w' => e = .returned (.tuple #[]) ∧ Pr w' base g { r with n := r.n + 1, here := n } bf bt steps ∧ Gc.Fr 147 base w w' := by
 subst h1
 have k47 : w.cell? ⟨g, 47, none⟩ = some (.int .i64 r.n) := I.fld o 3
 have k48 : w.cell? ⟨g, 48, none⟩ = some (.int .u32 r.here) := I.fld o 4
 have fz := I.fz
 have hg := I.lt
 have HB : Hid (base ≤ w.heap.size) := I.base_le
 have J1 : Pr (w.setCell ⟨g, 47, none⟩ (.int .i64 ((r.n : Int) + 1))) base g { r with n := r.n + 1 } bf bt steps := I.setF (r' := { r with n := r.n + 1 }) o 3 rfl rfl rfl rfl rfl rfl
 have J2 : Pr ((w.setCell ⟨g, 47, none⟩ (.int .i64 ((r.n : Int) + 1))).setCell ⟨g, 48, none⟩ (.int .u32 n)) base g { r with n := r.n + 1, here := n } bf bt steps := J1.setF (r' := { r with n := r.n + 1, here := n }) ⟨o.h, o.tl, o.tb, o.h0, o.h1⟩ 4 rfl rfl rfl rfl rfl rfl
 have HJ : Hid (Pr ((w.setCell ⟨g, 47, none⟩ (.int .i64 ((r.n : Int) + 1))).setCell ⟨g, 48, none⟩ (.int .u32 n)) base g { r with n := r.n + 1, here := n } bf bt steps) := J2
 have HF : Hid (Gc.Fr 147 base w ((w.setCell ⟨g, 47, none⟩ (.int .i64 ((r.n : Int) + 1))).setCell ⟨g, 48, none⟩ (.int .u32 n))) := Gc.In.below I (((Ch.refl g w).setCell _ _).setCell _ _)
 clear I o J1 J2
 generalize hrn : (r.n : Int) = rn at *
 have b0 : 0 ≤ rn := by omega
 have b1 : rn ≤ 1000000 := by omega
 clear hrn hr
 generalize r.here = hh at *
 generalize ({ r with n := r.n + 1, here := n } : Rn) = r2 at *
 go_enter Tryz.func124, Tryz.ntmps124
 go_wp2_with fail
 go_end0
 refine ⟨rfl, HJ.out.of ((Gr.refl _).alloc _), HF.out.trans (Gc.Fr.ofGr ((Gr.refl _).alloc _) HJ.out.base_le)⟩
theorem do_call {w : World} {base g : Nat} {r : Rn} {bf bt steps : Int} (I : Pr w base g r bf bt steps) (ho : r.out.length ≤ 1000000) (op d a b n : Int) (h1 : op = 5) :
  Calls Tryz.prog 124 #[.pointer (some ⟨g, 0, none⟩), .agg #[.int .i64 op, .int .i64 d, .int .i64 a, .int .i64 b, .int .u32 n]] w fun e w' => e = .returned (.tuple #[]) ∧ Pr w' base g (r.ev (efCall r.h r.m)) bf bt steps ∧ Gc.Fr 147 base w w' := by
 subst h1
 have L : Hid (∀ W : World, Gr w W → Calls Tryz.prog 114 #[.pointer (some ⟨g, 0, none⟩)] W fun e w' => e = .returned (.tuple #[]) ∧ Pr w' base g (r.ev (efCall r.h r.m)) bf bt steps ∧ Gc.Fr 147 base W w') := fun W q => by
  refine (Gc.Call_any (I.of q) ho).mono ?_
  rintro e w' ⟨rfl, J2, C2⟩
  refine ⟨rfl, ?_, C2⟩
  have hs : (efCall r.h r.m).sto = [] ∧ (efCall r.h r.m).m = r.m := by unfold efCall; split <;> (try split) <;> exact ⟨rfl, rfl⟩
  unfold Pr Rn.ev
  simp only [hs.1, hs.2, List.append_nil]
  exact J2
 have HB : Hid (base ≤ w.heap.size) := I.base_le
 clear I ho
 generalize r.ev (efCall r.h r.m) = r2 at *
 go_enter Tryz.func124, Tryz.ntmps124
 go_wp2_with fail
 refine (L.out _ (by repeat (first | exact Gr.refl _ | refine Gr.alloc ?_ _))).mono ?_
 rintro e w2 ⟨rfl, J2, F2⟩
 have HJ : Hid (Pr w2 base g r2 bf bt steps) := J2
 have HF : Hid (Gc.Fr 147 base w w2) := (Gc.Fr.ofGr ((Gr.refl _).alloc _) HB.out).trans F2
 clear L J2 F2
 go_wp2_with fail
 go_end0
 exact ⟨rfl, HJ.out, HF.out⟩
theorem do_break {w : World} {base g : Nat} {r : Rn} {bf bt steps : Int} (I : Pr w base g r bf bt steps) (op d a b n : Int) (h1 : op = 6) :
  Calls Tryz.prog 124 #[.pointer (some ⟨g, 0, none⟩), .agg #[.int .i64 op, .int .i64 d, .int .i64 a, .int .i64 b, .int .u32 n]] w fun e w' => e = .returned (.tuple #[]) ∧ Pr w' base g { r with h := r.h.trap 6 } bf bt steps ∧ Gc.Fr 147 base w w' := by
 subst h1
 have L : Hid (∀ W : World, Gr w W → Calls Tryz.prog 67 #[.pointer (some ⟨g, 0, none⟩), .int .i64 6] W fun e w' => e = .returned (.tuple #[]) ∧ Pr w' base g { r with h := r.h.trap 6 } bf bt steps ∧ Gc.Fr 147 base W w') := fun W q => by
  have J := I.of q
  refine (Gc.trap_any J 6).mono ?_
  rintro e w' ⟨rfl, J2, C2⟩
  exact ⟨rfl, J2, Gc.In.below J C2⟩
 have HB : Hid (base ≤ w.heap.size) := I.base_le
 clear I
 generalize ({ r with h := r.h.trap 6 } : Rn) = r2 at *
 go_enter Tryz.func124, Tryz.ntmps124
 go_wp2_with fail
 refine (L.out _ (by repeat (first | exact Gr.refl _ | refine Gr.alloc ?_ _))).mono ?_
 rintro e w2 ⟨rfl, J2, F2⟩
 have HJ : Hid (Pr w2 base g r2 bf bt steps) := J2
 have HF : Hid (Gc.Fr 147 base w w2) := (Gc.Fr.ofGr ((Gr.refl _).alloc _) HB.out).trans F2
 clear L J2 F2
 go_wp2_with fail
 go_end0
 exact ⟨rfl, HJ.out, HF.out⟩
theorem do_ef {w : World} {base g : Nat} {r : Rn} {bf bt steps : Int} (I : Pr w base g r bf bt steps) (o : r.Ok) (T : Gc.Ts w base) (hl : r.m.length ≤ 140737488351232) (hss : r.sto.length ≤ 1000000) {op d a b n : Int} (hi : 0 ≤ named op) (h1 : ¬ op = 1) (h3 : ¬ op = 3) (h4 : ¬ op = 4) (h5 : ¬ op = 5) (h6 : ¬ op = 6) (hd : 0 ≤ d ∧ d < 36) (ha : 0 ≤ a ∧ a < 36) (hb : 0 ≤ b ∧ b < 36) (hn : Hh.W n) :
  Calls Tryz.prog 124 #[.pointer (some ⟨g, 0, none⟩), .agg #[.int .i64 op, .int .i64 d, .int .i64 a, .int .i64 b, .int .u32 n]] w fun e w' => e = .returned (.tuple #[]) ∧ Pr w' base g ((r.ev (efR r ⟨op, d, a, b, n⟩)).putO d (efR r ⟨op, d, a, b, n⟩).res) bf bt steps ∧ Gc.Fr 147 base w w' := by
 have L : Hid (∀ W : World, Gr w W → Calls Tryz.prog 146 #[.pointer (some ⟨g, 0, none⟩), .agg #[.int .i64 op, .int .i64 d, .int .i64 a, .int .i64 b, .int .u32 n]] W fun e w' => e = .returned (ret2 (efR r ⟨op, d, a, b, n⟩).res) ∧ Pr w' base g (r.ev (efR r ⟨op, d, a, b, n⟩)) bf bt steps ∧ Gc.Fr 147 base W w') := fun W q => effect_any (i := ⟨op, d, a, b, n⟩) (I.of q) o (Gc.ts_of T (Below.mono q I.base_le)) hl hss hi h1 h3 h4 h5 h6 ha hb hn
 have HW : Hid (∀ x, (efR r ⟨op, d, a, b, n⟩).res = some x → Hh.W x) := fun x h => efR_res o hn h
 have HO : Hid (∀ W : World, Pr W base g (r.ev (efR r ⟨op, d, a, b, n⟩)) bf bt steps → (r.ev (efR r ⟨op, d, a, b, n⟩)).Ok) := fun W J => ev_okR o J
 have HB : Hid (base ≤ w.heap.size) := I.base_le
 have b1 : (op == 1) = false := by simp [h1]
 have b5 : (op == 5) = false := by simp [h5]
 have b6 : (op == 6) = false := by simp [h6]
 clear I o T hl hss hi h1 h3 h4 h5 h6 hn ha hb
 generalize r.ev (efR r ⟨op, d, a, b, n⟩) = r2 at *
 generalize (efR r ⟨op, d, a, b, n⟩).res = x at *
 cases x with
 | none =>
  unfold ret2 at *
  simp only [Option.getD_none, Option.isSome_none] at *
  go_enter Tryz.func124, Tryz.ntmps124
  go_wp2_with fail
  refine (L.out _ (by repeat (first | exact Gr.refl _ | refine Gr.alloc ?_ _))).mono ?_
  rintro e w2 ⟨rfl, J2, F2⟩
  have HJ : Hid (Pr w2 base g r2 bf bt steps) := J2
  have HF : Hid (Gc.Fr 147 base w w2) := (Gc.Fr.ofGr ((Gr.refl _).alloc _) HB.out).trans F2
  clear L J2 F2
  go_wp2_with fail
  go_end0
  exact ⟨rfl, HJ.out, HF.out⟩
 | some x =>
  have HWx : Hid (Hh.W x) := HW.out x rfl
  clear HW
  unfold ret2 at *
  simp only [Option.getD_some, Option.isSome_some] at *
  go_enter Tryz.func124, Tryz.ntmps124
  go_wp2_with fail
  refine (L.out _ (by repeat (first | exact Gr.refl _ | refine Gr.alloc ?_ _))).mono ?_
  rintro e w2 ⟨rfl, J2, F2⟩
  have HJ : Hid (Pr w2 base g r2 bf bt steps) := J2
  have HF : Hid (Gc.Fr 147 base w w2) := (Gc.Fr.ofGr ((Gr.refl _).alloc _) HB.out).trans F2
  have k0 : w2.heap[w.heap.size]? = some (.cells #[.int .i64 op, .int .i64 d, .int .i64 a, .int .i64 b, .int .u32 n] 166 (0, 0)) := (F2.keep _ _ _ _ (heap_alloc_new w _) (by decide) (by decide) (by decide)).trans (heap_alloc_new w _)
  have p1 : w2.cell? ⟨w.heap.size, 1, none⟩ = some (.int .i64 d) := cell_of_row _ _ _ _ _ _ k0
  have Be : Hid (Calls Tryz.prog 147 #[.pointer (some ⟨g, 0, none⟩), .int .i64 d, .int .u32 x] w2 fun e w' => e = .returned (.tuple #[]) ∧ Pr w' base g (r2.put d x) bf bt steps ∧ Ch g w2 w') := become_any J2 (HO.out _ J2) d x hd.1 hd.2 HWx.out
  clear L J2 F2 k0
  go_wp2_with fail
  refine Be.out.mono ?_
  rintro e w3 ⟨rfl, J3, C3⟩
  have HJ3 : Hid (Pr w3 base g (r2.put d x) bf bt steps) := J3
  have HF3 : Hid (Gc.Fr 147 base w w3) := HF.out.trans (Gc.In.below HJ.out C3)
  clear Be J3 C3 HJ
  go_wp2_with fail
  go_end0
  exact ⟨rfl, HJ3.out, HF3.out⟩
theorem do_any {w : World} {base g : Nat} {r : Rn} {bf bt steps : Int} (I : Pr w base g r bf bt steps) (o : r.Ok) (T : Gc.Ts w base) (hl : r.m.length ≤ 140737488351232) (hr : r.n ≤ 1000000) (hos : r.out.length ≤ 1000000) (hss : r.sto.length ≤ 1000000) {i : Mv} (hi : 0 ≤ named i.op) (h3 : ¬ i.op = 3) (h4 : ¬ i.op = 4) (hd : 0 ≤ i.d ∧ i.d < 36) (ha : 0 ≤ i.a ∧ i.a < 36) (hb : 0 ≤ i.b ∧ i.b < 36) (hn : Hh.W i.n) :
  Calls Tryz.prog 124 #[.pointer (some ⟨g, 0, none⟩), .agg (mvA i)] w fun e w' => e = .returned (.tuple #[]) ∧ Pr w' base g (dos r i) bf bt steps ∧ Gc.Fr 147 base w w' := by
 obtain ⟨op, d, a, b, n⟩ := i
 unfold dos mvA
 simp only at *
 by_cases h1 : op = 1
 ·rw [if_pos h1]
  exact do_at I o hr op d a b n h1
 rw [if_neg h1]
 by_cases h5 : op = 5
 ·rw [if_pos h5]
  exact do_call I hos op d a b n h5
 rw [if_neg h5]
 by_cases h6 : op = 6
 ·rw [if_pos h6]
  exact do_break I op d a b n h6
 rw [if_neg h6]
 exact do_ef I o T hl hss hi h1 h3 h4 h5 h6 hd ha hb hn
end Go.Proofs.YtchllaeembmioaaGreatDoor.Mp
