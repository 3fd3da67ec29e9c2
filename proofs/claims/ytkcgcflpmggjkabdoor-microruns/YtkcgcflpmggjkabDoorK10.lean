/-
  Pd3, Pd4, Pd, Pe, Pg: texts of ours that lie in one file.
-/
import Derived.Test.YtkcgcflpmggjkabDoorK09
/-
  What the program's runner does of a small step that does not leave: effect, do.
-/
namespace Go.Proofs.YtkcgcflpmggjkabDoor.Mp
open Go.ChangeShapes Go.WideShapes Go.ChangeAt Go.RowKit Mm Hh Hc Mi
set_option linter.unusedVariables false
set_option linter.unusedSimpArgs false

set_option maxHeartbeats 2000000 in
set_option maxRecDepth 100000 in
theorem eff_st {w : World} {base g : Nat} {r : Rn} {bf bt steps : Int} (I : Pr w base g r bf bt steps) (o : r.Ok) (T : Gc.Ts w base) (hl : r.m.length ≤ 140737488351232) (hss : r.sto.length ≤ 1000000) {op d a b n : Int} (ha : 0 ≤ a ∧ a < 36) (hb : 0 ≤ b ∧ b < 36) (hn : Hh.W n) (hc : 316 ≤ op ∧ op ≤ 318) :
    Calls Tryd.prog 94 #[.pointer (some ⟨g, 0, none⟩), .agg (mvA ⟨op, d, a, b, n⟩)] w fun e w' => e = .returned (ret2 (efR r ⟨op, d, a, b, n⟩).res) ∧ Pr w' base g (r.ev (efR r ⟨op, d, a, b, n⟩)) bf bt steps ∧ Gc.Fr 88 base w w' := by
  have e0 : efR r ⟨op, d, a, b, n⟩ = efStore r.h r.m (op - 300) (Wd.lo (r.get a + n)) (r.get b) := by unfold efR; rw [if_neg (by simp only; omega), if_neg (by simp only; omega), if_pos (by simp only; omega)]
  rw [e0]
  have V : Hid (∀ k, 0 ≤ k → k < 36 → ∀ W : World, Gr w W → Calls Tryd.prog 91 #[.pointer (some ⟨g, 0, none⟩), .int .i64 k] W fun e w' => e = .returned (.int .u32 (r.get k)) ∧ w' = W) := fun k h0 h1 W q => value_any (I.of q) o k h0 h1
  have wa := o.get a
  have wb := o.get b
  have HI : Hid (Pr w base g r bf bt steps) := I
  have HG0 : Hid (∀ x nq, Gr w ((w.alloc x).drewN nq)) := fun x nq => ((Gr.refl _).alloc _).drewN _
  have b2 : (op == 2) = false := by simp; omega
  have W211 : Hid (∀ W : World, Calls Tryd.prog 29 #[.int .i64 op, .int .i64 211, .int .i64 215] W fun e w' => e = .returned (.bool false) ∧ w' = W) := fun W => by
    have := within_any op 211 215 W
    rwa [decide_eq_false (by omega)] at this
  have W316 : Hid (∀ W : World, Calls Tryd.prog 29 #[.int .i64 op, .int .i64 316, .int .i64 318] W fun e w' => e = .returned (.bool true) ∧ w' = W) := fun W => by
    have := within_any op 316 318 W
    rwa [decide_eq_true (by omega)] at this
  have wl := W.lo (r.get a + n)
  have hres : (efStore r.h r.m (op - 300) (Wd.lo (r.get a + n)) (r.get b)).res = none := by unfold efStore; split <;> rfl
  have hw : IntKind.i64.wrap (op - 300) = op - 300 := by rw [IntKind.wrap_i64]; omega
  have L : Hid (∀ W : World, Gr w W → Calls Tryd.prog 97 #[.pointer (some ⟨g, 0, none⟩), .int .i64 (IntKind.i64.wrap (op - 300)), .int .u32 (IntKind.u32.wrap (r.get a + n)), .int .u32 (r.get b)] W fun e w' => e = .returned (.tuple #[]) ∧ Pr w' base g (r.ev (efStore r.h r.m (op - 300) (Wd.lo (r.get a + n)) (r.get b))) bf bt steps ∧ Gc.Fr 88 base W w') := fun W q => by
    rw [hw]
    have J := I.of q
    refine (Gc.Store_any J (Gc.ts_of T (Below.mono q I.base_le)) hl hss (op - 300) _ _ wl.1 wl.2 wb.1 wb.2).mono ?_
    rintro e w' ⟨rfl, J2, C2⟩
    refine ⟨rfl, ?_, C2⟩
    have ho : (efStore r.h r.m (op - 300) (Wd.lo (r.get a + n)) (r.get b)).out = [] := by unfold efStore; split <;> rfl
    unfold Pr Rn.ev
    simp only [ho, List.append_nil]
    exact J2
  rw [hres]
  generalize efStore r.h r.m (op - 300) (Wd.lo (r.get a + n)) (r.get b) = E at *
  clear I o T e0 wa wb wl hres hw
  unfold ret2 at *
  unfold mvA
  simp only []
  go_enter Tryd.func94, Tryd.ntmps94
  go_wp2_with fail
  refine wp_region_quiet_lit (by kernel_rfl) (by kernel_rfl) ?_
  go_big_quiet_step (fail)
  go_big_quiet_step (fail)
  go_big_quiet_step (fail)
  go_big_quiet_step (exact Calls.quiet_of_same (V.out a ha.1 ha.2 _ (by repeat (first | exact Gr.refl _ | refine Gr.drewN ?_ _ | refine Gr.drew ?_ | refine Gr.alloc ?_ _))))
  go_big_quiet_step (fail)
  go_big_quiet_step (fail)
  go_big_quiet_step (fail)
  go_big_quiet_step (exact Calls.quiet_of_same (V.out b hb.1 hb.2 _ (by repeat (first | exact Gr.refl _ | refine Gr.drewN ?_ _ | refine Gr.drew ?_ | refine Gr.alloc ?_ _))))
  go_big_quiet_step (fail)
  go_big_quiet_step (fail)
  refine wpQuiet_nil ?_
  intro _ hw1
  obtain ⟨nq, hw2⟩ := hw1
  subst hw2
  clear V
  generalize r.get a = X at *
  generalize r.get b = Y at *
  go_wp2_with fail
  refine (W211.out _).mono ?_
  rintro e w' ⟨rfl, rfl⟩
  clear W211
  go_wp2_with fail
  refine (W316.out _).mono ?_
  rintro e w' ⟨rfl, rfl⟩
  clear W316
  go_wp2_with fail
  have HBM : Hid (((w.alloc (.cells #[.int .i64 op, .int .i64 d, .int .i64 a, .int .i64 b, .int .u32 n] 79)).drewN nq).heap[w.heap.size]? = some (.cells #[.int .i64 op, .int .i64 d, .int .i64 a, .int .i64 b, .int .u32 n] 79 (0, 0))) := heap_alloc_new w _
  have k0 : ((w.alloc (.cells #[.int .i64 op, .int .i64 d, .int .i64 a, .int .i64 b, .int .u32 n] 79)).drewN nq).cell? ⟨w.heap.size, 0, none⟩ = some (.int .i64 op) := cell_of_row _ _ _ _ _ _ HBM.out
  have k4 : ((w.alloc (.cells #[.int .i64 op, .int .i64 d, .int .i64 a, .int .i64 b, .int .u32 n] 79)).drewN nq).cell? ⟨w.heap.size, 4, none⟩ = some (.int .u32 n) := cell_of_row _ _ _ _ _ _ HBM.out
  go_region_with ((go_at_call 97; refine (L.out _ (by repeat (first | exact Gr.refl _ | refine Gr.drewN ?_ _ | refine Gr.drew ?_ | refine Gr.alloc ?_ _))).mono ?_; rintro e w2 ⟨rfl, J2, F2⟩; have HJ : Hid (Pr w2 base g (r.ev E) bf bt steps) := J2; have HF : Hid (Gc.Fr 88 base w w2) := (Gc.Fr.ofGr (by repeat (first | exact Gr.refl _ | refine Gr.drewN ?_ _ | refine Gr.drew ?_ | refine Gr.alloc ?_ _)) HI.out.base_le).trans F2; have HB2 : Hid (w2.heap[w.heap.size]? = some (.cells #[.int .i64 op, .int .i64 d, .int .i64 a, .int .i64 b, .int .u32 n] 79 (0, 0))) := (F2.keep _ _ _ _ HBM.out (by decide) (by decide) (by decide)).trans HBM.out; have j0 : w2.cell? ⟨w.heap.size, 0, none⟩ = some (.int .i64 op) := cell_of_row _ _ _ _ _ _ HB2.out; have j4 : w2.cell? ⟨w.heap.size, 4, none⟩ = some (.int .u32 n) := cell_of_row _ _ _ _ _ _ HB2.out; clear J2 F2))
  all_goals
    go_wp2_with fail
    go_ret2
    exact ⟨rfl, HJ.out, HF.out⟩
end Go.Proofs.YtkcgcflpmggjkabDoor.Mp
/-
  What the program's runner does of a small step that does not leave: effect, do.
-/
namespace Go.Proofs.YtkcgcflpmggjkabDoor.Mp
open Go.ChangeShapes Go.WideShapes Go.ChangeAt Go.RowKit Mm Hh Hc Mi
set_option linter.unusedVariables false
set_option linter.unusedSimpArgs false

set_option maxHeartbeats 2000000 in
set_option maxRecDepth 100000 in
theorem eff_at {w : World} {base g : Nat} {r : Rn} {bf bt steps : Int} (I : Pr w base g r bf bt steps) (o : r.Ok) (T : Gc.Ts w base) (hl : r.m.length ≤ 140737488351232) (hss : r.sto.length ≤ 1000000) {op d a b n : Int} (ha : 0 ≤ a ∧ a < 36) (hb : 0 ≤ b ∧ b < 36) (hn : Hh.W n) (hc : 646 ≤ op ∧ op ≤ 656) :
    Calls Tryd.prog 94 #[.pointer (some ⟨g, 0, none⟩), .agg (mvA ⟨op, d, a, b, n⟩)] w fun e w' => e = .returned (ret2 (efR r ⟨op, d, a, b, n⟩).res) ∧ Pr w' base g (r.ev (efR r ⟨op, d, a, b, n⟩)) bf bt steps ∧ Gc.Fr 88 base w w' := by
  have e0 : efR r ⟨op, d, a, b, n⟩ = efAtom r.h r.m (op - 600) (r.get a) (r.get b) := by unfold efR; rw [if_neg (by simp only; omega), if_neg (by simp only; omega), if_neg (by simp only; omega), if_neg (by simp only; omega), if_neg (by simp only; omega), if_pos (by simp only; omega)]
  rw [e0]
  have V : Hid (∀ k, 0 ≤ k → k < 36 → ∀ W : World, Gr w W → Calls Tryd.prog 91 #[.pointer (some ⟨g, 0, none⟩), .int .i64 k] W fun e w' => e = .returned (.int .u32 (r.get k)) ∧ w' = W) := fun k h0 h1 W q => value_any (I.of q) o k h0 h1
  have wa := o.get a
  have wb := o.get b
  have HI : Hid (Pr w base g r bf bt steps) := I
  have HG0 : Hid (∀ x nq, Gr w ((w.alloc x).drewN nq)) := fun x nq => ((Gr.refl _).alloc _).drewN _
  have b2 : (op == 2) = false := by simp; omega
  have W211 : Hid (∀ W : World, Calls Tryd.prog 29 #[.int .i64 op, .int .i64 211, .int .i64 215] W fun e w' => e = .returned (.bool false) ∧ w' = W) := fun W => by
    have := within_any op 211 215 W
    rwa [decide_eq_false (by omega)] at this
  have W316 : Hid (∀ W : World, Calls Tryd.prog 29 #[.int .i64 op, .int .i64 316, .int .i64 318] W fun e w' => e = .returned (.bool false) ∧ w' = W) := fun W => by
    have := within_any op 316 318 W
    rwa [decide_eq_false (by omega)] at this
  have W428 : Hid (∀ W : World, Calls Tryd.prog 29 #[.int .i64 op, .int .i64 428, .int .i64 445] W fun e w' => e = .returned (.bool false) ∧ w' = W) := fun W => by
    have := within_any op 428 445 W
    rwa [decide_eq_false (by omega)] at this
  have W528 : Hid (∀ W : World, Calls Tryd.prog 29 #[.int .i64 op, .int .i64 528, .int .i64 545] W fun e w' => e = .returned (.bool false) ∧ w' = W) := fun W => by
    have := within_any op 528 545 W
    rwa [decide_eq_false (by omega)] at this
  have W646 : Hid (∀ W : World, Calls Tryd.prog 29 #[.int .i64 op, .int .i64 646, .int .i64 656] W fun e w' => e = .returned (.bool true) ∧ w' = W) := fun W => by
    have := within_any op 646 656 W
    rwa [decide_eq_true (by omega)] at this
  have hw : IntKind.i64.wrap (op - 600) = op - 600 := by rw [IntKind.wrap_i64]; omega
  have L : Hid (∀ W : World, Gr w W → Calls Tryd.prog 99 #[.pointer (some ⟨g, 0, none⟩), .int .i64 (IntKind.i64.wrap (op - 600)), .int .u32 (r.get a), .int .u32 (r.get b)] W fun e w' => e = .returned (ret2 (efAtom r.h r.m (op - 600) (r.get a) (r.get b)).res) ∧ Pr w' base g (r.ev (efAtom r.h r.m (op - 600) (r.get a) (r.get b))) bf bt steps ∧ Gc.Fr 88 base W w') := fun W q => by
    rw [hw]
    have J := I.of q
    refine (Gc.Atom_any J (Gc.ts_of T (Below.mono q I.base_le)) hl hss (op - 600) _ _ wa.1 wa.2 wb.1 wb.2).mono ?_
    rintro e w' ⟨rfl, J2, C2⟩
    refine ⟨rfl, ?_, C2⟩
    have ho : (efAtom r.h r.m (op - 600) (r.get a) (r.get b)).out = [] := by
      unfold efAtom efLr efSc efAmo
      repeat (first | rfl | split)
    unfold Pr Rn.ev
    simp only [ho, List.append_nil]
    exact J2
  generalize efAtom r.h r.m (op - 600) (r.get a) (r.get b) = E at *
  clear I o T e0 wa wb hw
  unfold ret2 at *
  unfold mvA
  simp only []
  go_enter Tryd.func94, Tryd.ntmps94
  go_wp2_with fail
  refine wp_region_quiet_lit (by kernel_rfl) (by kernel_rfl) ?_
  go_big_quiet_step (fail)
  go_big_quiet_step (fail)
  go_big_quiet_step (fail)
  go_big_quiet_step (exact Calls.quiet_of_same (V.out a ha.1 ha.2 _ (by repeat (first | exact Gr.refl _ | refine Gr.drewN ?_ _ | refine Gr.drew ?_ | refine Gr.alloc ?_ _))))
  go_big_quiet_step (fail)
  go_big_quiet_step (fail)
  go_big_quiet_step (fail)
  go_big_quiet_step (exact Calls.quiet_of_same (V.out b hb.1 hb.2 _ (by repeat (first | exact Gr.refl _ | refine Gr.drewN ?_ _ | refine Gr.drew ?_ | refine Gr.alloc ?_ _))))
  go_big_quiet_step (fail)
  go_big_quiet_step (fail)
  refine wpQuiet_nil ?_
  intro _ hw1
  obtain ⟨nq, hw2⟩ := hw1
  subst hw2
  clear V
  generalize r.get a = X at *
  generalize r.get b = Y at *
  go_wp2_with fail
  refine (W211.out _).mono ?_
  rintro e w' ⟨rfl, rfl⟩
  clear W211
  go_wp2_with fail
  refine (W316.out _).mono ?_
  rintro e w' ⟨rfl, rfl⟩
  clear W316
  go_wp2_with fail
  refine (W428.out _).mono ?_
  rintro e w' ⟨rfl, rfl⟩
  clear W428
  go_wp2_with fail
  refine (W528.out _).mono ?_
  rintro e w' ⟨rfl, rfl⟩
  clear W528
  go_wp2_with fail
  refine (W646.out _).mono ?_
  rintro e w' ⟨rfl, rfl⟩
  clear W646
  go_wp2_with fail
  have HBM : Hid (((w.alloc (.cells #[.int .i64 op, .int .i64 d, .int .i64 a, .int .i64 b, .int .u32 n] 79)).drewN nq).heap[w.heap.size]? = some (.cells #[.int .i64 op, .int .i64 d, .int .i64 a, .int .i64 b, .int .u32 n] 79 (0, 0))) := heap_alloc_new w _
  have k0 : ((w.alloc (.cells #[.int .i64 op, .int .i64 d, .int .i64 a, .int .i64 b, .int .u32 n] 79)).drewN nq).cell? ⟨w.heap.size, 0, none⟩ = some (.int .i64 op) := cell_of_row _ _ _ _ _ _ HBM.out
  have k4 : ((w.alloc (.cells #[.int .i64 op, .int .i64 d, .int .i64 a, .int .i64 b, .int .u32 n] 79)).drewN nq).cell? ⟨w.heap.size, 4, none⟩ = some (.int .u32 n) := cell_of_row _ _ _ _ _ _ HBM.out
  go_region_with ((go_at_call 99; refine (L.out _ (by repeat (first | exact Gr.refl _ | refine Gr.drewN ?_ _ | refine Gr.drew ?_ | refine Gr.alloc ?_ _))).mono ?_; rintro e w2 ⟨rfl, J2, F2⟩; have HJ : Hid (Pr w2 base g (r.ev E) bf bt steps) := J2; have HF : Hid (Gc.Fr 88 base w w2) := (Gc.Fr.ofGr (by repeat (first | exact Gr.refl _ | refine Gr.drewN ?_ _ | refine Gr.drew ?_ | refine Gr.alloc ?_ _)) HI.out.base_le).trans F2; have HB2 : Hid (w2.heap[w.heap.size]? = some (.cells #[.int .i64 op, .int .i64 d, .int .i64 a, .int .i64 b, .int .u32 n] 79 (0, 0))) := (F2.keep _ _ _ _ HBM.out (by decide) (by decide) (by decide)).trans HBM.out; have j0 : w2.cell? ⟨w.heap.size, 0, none⟩ = some (.int .i64 op) := cell_of_row _ _ _ _ _ _ HB2.out; have j4 : w2.cell? ⟨w.heap.size, 4, none⟩ = some (.int .u32 n) := cell_of_row _ _ _ _ _ _ HB2.out; clear J2 F2))
  all_goals
    go_wp2_with fail
    go_ret2
    exact ⟨rfl, HJ.out, HF.out⟩
end Go.Proofs.YtkcgcflpmggjkabDoor.Mp
/-
  What the program's runner does of a small step that does not leave: do.
-/
namespace Go.Proofs.YtkcgcflpmggjkabDoor.Mp
open Go.ChangeShapes Go.WideShapes Go.ChangeAt Go.RowKit Mm Hh Hc Mi
set_option linter.unusedVariables false
set_option linter.unusedSimpArgs false

theorem effect_any {w : World} {base g : Nat} {r : Rn} {bf bt steps : Int} (I : Pr w base g r bf bt steps) (o : r.Ok) (T : Gc.Ts w base) (hl : r.m.length ≤ 140737488351232) (hss : r.sto.length ≤ 1000000) {i : Mv} (hi : 0 ≤ named i.op) (h1 : ¬ i.op = 1) (h3 : ¬ i.op = 3) (h4 : ¬ i.op = 4) (h5 : ¬ i.op = 5) (h6 : ¬ i.op = 6) (ha : 0 ≤ i.a ∧ i.a < 36) (hb : 0 ≤ i.b ∧ i.b < 36) (hn : Hh.W i.n) :
    Calls Tryd.prog 94 #[.pointer (some ⟨g, 0, none⟩), .agg (mvA i)] w fun e w' => e = .returned (ret2 (efR r i).res) ∧ Pr w' base g (r.ev (efR r i)) bf bt steps ∧ Gc.Fr 88 base w w' := by
  obtain ⟨op, d, a, b, n⟩ := i
  simp only at *
  rcases named_cases hi with q | q | q | q | q | q | q | q | q | q | q | q
  · exact absurd q h1
  · exact eff_set I o T hl hss ha hb hn q
  · exact absurd q h3
  · exact absurd q h4
  · exact absurd q h5
  · exact absurd q h6
  · exact eff_no I o T hl hss ha hb hn q
  · exact eff_ld I o T hl hss ha hb hn q
  · exact eff_st I o T hl hss ha hb hn q
  · exact eff_alu I o T hl hss ha hb hn q
  · exact eff_aln I o T hl hss ha hb hn q
  · exact eff_at I o T hl hss ha hb hn q
theorem ev_okR {w : World} {base g : Nat} {r : Rn} {e : Ev} {bf bt steps : Int} (o : r.Ok) (I : Pr w base g (r.ev e) bf bt steps) : (r.ev e).Ok := by
  obtain ⟨c, hc, I⟩ := I
  have := I.ok
  rw [hc] at this
  exact ⟨this, o.tl, o.tb, o.h0, o.h1⟩
set_option maxHeartbeats 2000000 in
set_option maxRecDepth 100000 in
theorem do_at {w : World} {base g : Nat} {r : Rn} {bf bt steps : Int} (I : Pr w base g r bf bt steps) (o : r.Ok) (hr : r.n ≤ 1000000) (op d a b n : Int) (h1 : op = 1) :
    Calls Tryd.prog 76 #[.pointer (some ⟨g, 0, none⟩), .agg #[.int .i64 op, .int .i64 d, .int .i64 a, .int .i64 b, .int .u32 n]] w fun e w' => e = .returned (.tuple #[]) ∧ Pr w' base g { r with n := r.n + 1, here := n } bf bt steps ∧ Gc.Fr 88 base w w' := by
  subst h1
  have k47 : w.cell? ⟨g, 47, none⟩ = some (.int .i64 r.n) := I.fld o 3
  have k48 : w.cell? ⟨g, 48, none⟩ = some (.int .u32 r.here) := I.fld o 4
  have fz := I.fz
  have hg := I.lt
  have HB : Hid (base ≤ w.heap.size) := I.base_le
  have J1 : Pr (w.setCell ⟨g, 47, none⟩ (.int .i64 ((r.n : Int) + 1))) base g { r with n := r.n + 1 } bf bt steps := I.setF (r' := { r with n := r.n + 1 }) o 3 rfl rfl rfl rfl rfl rfl
  have J2 : Pr ((w.setCell ⟨g, 47, none⟩ (.int .i64 ((r.n : Int) + 1))).setCell ⟨g, 48, none⟩ (.int .u32 n)) base g { r with n := r.n + 1, here := n } bf bt steps := J1.setF (r' := { r with n := r.n + 1, here := n }) ⟨o.h, o.tl, o.tb, o.h0, o.h1⟩ 4 rfl rfl rfl rfl rfl rfl
  have HJ : Hid (Pr ((w.setCell ⟨g, 47, none⟩ (.int .i64 ((r.n : Int) + 1))).setCell ⟨g, 48, none⟩ (.int .u32 n)) base g { r with n := r.n + 1, here := n } bf bt steps) := J2
  have HF : Hid (Gc.Fr 88 base w ((w.setCell ⟨g, 47, none⟩ (.int .i64 ((r.n : Int) + 1))).setCell ⟨g, 48, none⟩ (.int .u32 n))) := Gc.In.below I (((Ch.refl g w).setCell _ _).setCell _ _)
  clear I o J1 J2
  generalize hrn : (r.n : Int) = rn at *
  have b0 : 0 ≤ rn := by omega
  have b1 : rn ≤ 1000000 := by omega
  clear hrn hr
  generalize r.here = hh at *
  generalize ({ r with n := r.n + 1, here := n } : Rn) = r2 at *
  go_enter Tryd.func76, Tryd.ntmps76
  go_wp2_with fail
  go_end0
  refine ⟨rfl, HJ.out.of ((Gr.refl _).alloc _), HF.out.trans (Gc.Fr.ofGr ((Gr.refl _).alloc _) HJ.out.base_le)⟩
set_option maxHeartbeats 2000000 in
set_option maxRecDepth 100000 in
theorem do_call {w : World} {base g : Nat} {r : Rn} {bf bt steps : Int} (I : Pr w base g r bf bt steps) (ho : r.out.length ≤ 1000000) (op d a b n : Int) (h1 : op = 5) :
    Calls Tryd.prog 76 #[.pointer (some ⟨g, 0, none⟩), .agg #[.int .i64 op, .int .i64 d, .int .i64 a, .int .i64 b, .int .u32 n]] w fun e w' => e = .returned (.tuple #[]) ∧ Pr w' base g (r.ev (efCall r.h r.m)) bf bt steps ∧ Gc.Fr 88 base w w' := by
  subst h1
  have L : Hid (∀ W : World, Gr w W → Calls Tryd.prog 93 #[.pointer (some ⟨g, 0, none⟩)] W fun e w' => e = .returned (.tuple #[]) ∧ Pr w' base g (r.ev (efCall r.h r.m)) bf bt steps ∧ Gc.Fr 88 base W w') := fun W q => by
    refine (Gc.Call_any (I.of q) ho).mono ?_
    rintro e w' ⟨rfl, J2, C2⟩
    refine ⟨rfl, ?_, C2⟩
    have hs : (efCall r.h r.m).sto = [] ∧ (efCall r.h r.m).m = r.m := by unfold efCall; split <;> (try split) <;> exact ⟨rfl, rfl⟩
    unfold Pr Rn.ev
    simp only [hs.1, hs.2, List.append_nil]
    exact J2
  have HB : Hid (base ≤ w.heap.size) := I.base_le
  clear I ho
  generalize r.ev (efCall r.h r.m) = r2 at *
  go_enter Tryd.func76, Tryd.ntmps76
  go_wp2_with fail
  refine (L.out _ (by repeat (first | exact Gr.refl _ | refine Gr.alloc ?_ _))).mono ?_
  rintro e w2 ⟨rfl, J2, F2⟩
  have HJ : Hid (Pr w2 base g r2 bf bt steps) := J2
  have HF : Hid (Gc.Fr 88 base w w2) := (Gc.Fr.ofGr ((Gr.refl _).alloc _) HB.out).trans F2
  clear L J2 F2
  go_wp2_with fail
  go_end0
  exact ⟨rfl, HJ.out, HF.out⟩
set_option maxHeartbeats 2000000 in
set_option maxRecDepth 100000 in
theorem do_break {w : World} {base g : Nat} {r : Rn} {bf bt steps : Int} (I : Pr w base g r bf bt steps) (op d a b n : Int) (h1 : op = 6) :
    Calls Tryd.prog 76 #[.pointer (some ⟨g, 0, none⟩), .agg #[.int .i64 op, .int .i64 d, .int .i64 a, .int .i64 b, .int .u32 n]] w fun e w' => e = .returned (.tuple #[]) ∧ Pr w' base g { r with h := r.h.trap 6 } bf bt steps ∧ Gc.Fr 88 base w w' := by
  subst h1
  have L : Hid (∀ W : World, Gr w W → Calls Tryd.prog 63 #[.pointer (some ⟨g, 0, none⟩), .int .i64 6] W fun e w' => e = .returned (.tuple #[]) ∧ Pr w' base g { r with h := r.h.trap 6 } bf bt steps ∧ Gc.Fr 88 base W w') := fun W q => by
    have J := I.of q
    refine (Gc.trap_any J 6).mono ?_
    rintro e w' ⟨rfl, J2, C2⟩
    exact ⟨rfl, J2, Gc.In.below J C2⟩
  have HB : Hid (base ≤ w.heap.size) := I.base_le
  clear I
  generalize ({ r with h := r.h.trap 6 } : Rn) = r2 at *
  go_enter Tryd.func76, Tryd.ntmps76
  go_wp2_with fail
  refine (L.out _ (by repeat (first | exact Gr.refl _ | refine Gr.alloc ?_ _))).mono ?_
  rintro e w2 ⟨rfl, J2, F2⟩
  have HJ : Hid (Pr w2 base g r2 bf bt steps) := J2
  have HF : Hid (Gc.Fr 88 base w w2) := (Gc.Fr.ofGr ((Gr.refl _).alloc _) HB.out).trans F2
  clear L J2 F2
  go_wp2_with fail
  go_end0
  exact ⟨rfl, HJ.out, HF.out⟩
set_option maxHeartbeats 2000000 in
set_option maxRecDepth 100000 in
theorem do_ef {w : World} {base g : Nat} {r : Rn} {bf bt steps : Int} (I : Pr w base g r bf bt steps) (o : r.Ok) (T : Gc.Ts w base) (hl : r.m.length ≤ 140737488351232) (hss : r.sto.length ≤ 1000000) {op d a b n : Int} (hi : 0 ≤ named op) (h1 : ¬ op = 1) (h3 : ¬ op = 3) (h4 : ¬ op = 4) (h5 : ¬ op = 5) (h6 : ¬ op = 6) (hd : 0 ≤ d ∧ d < 36) (ha : 0 ≤ a ∧ a < 36) (hb : 0 ≤ b ∧ b < 36) (hn : Hh.W n) :
    Calls Tryd.prog 76 #[.pointer (some ⟨g, 0, none⟩), .agg #[.int .i64 op, .int .i64 d, .int .i64 a, .int .i64 b, .int .u32 n]] w fun e w' => e = .returned (.tuple #[]) ∧ Pr w' base g ((r.ev (efR r ⟨op, d, a, b, n⟩)).putO d (efR r ⟨op, d, a, b, n⟩).res) bf bt steps ∧ Gc.Fr 88 base w w' := by
  have L : Hid (∀ W : World, Gr w W → Calls Tryd.prog 94 #[.pointer (some ⟨g, 0, none⟩), .agg #[.int .i64 op, .int .i64 d, .int .i64 a, .int .i64 b, .int .u32 n]] W fun e w' => e = .returned (ret2 (efR r ⟨op, d, a, b, n⟩).res) ∧ Pr w' base g (r.ev (efR r ⟨op, d, a, b, n⟩)) bf bt steps ∧ Gc.Fr 88 base W w') := fun W q => effect_any (i := ⟨op, d, a, b, n⟩) (I.of q) o (Gc.ts_of T (Below.mono q I.base_le)) hl hss hi h1 h3 h4 h5 h6 ha hb hn
  have HW : Hid (∀ x, (efR r ⟨op, d, a, b, n⟩).res = some x → Hh.W x) := fun x h => efR_res o hn h
  have HO : Hid (∀ W : World, Pr W base g (r.ev (efR r ⟨op, d, a, b, n⟩)) bf bt steps → (r.ev (efR r ⟨op, d, a, b, n⟩)).Ok) := fun W J => ev_okR o J
  have HB : Hid (base ≤ w.heap.size) := I.base_le
  have b1 : (op == 1) = false := by simp [h1]
  have b5 : (op == 5) = false := by simp [h5]
  have b6 : (op == 6) = false := by simp [h6]
  clear I o T hl hss hi h1 h3 h4 h5 h6 hn ha hb
  generalize r.ev (efR r ⟨op, d, a, b, n⟩) = r2 at *
  generalize (efR r ⟨op, d, a, b, n⟩).res = x at *
  cases x with
  | none =>
    unfold ret2 at *
    simp only [Option.getD_none, Option.isSome_none] at *
    go_enter Tryd.func76, Tryd.ntmps76
    go_wp2_with fail
    refine (L.out _ (by repeat (first | exact Gr.refl _ | refine Gr.alloc ?_ _))).mono ?_
    rintro e w2 ⟨rfl, J2, F2⟩
    have HJ : Hid (Pr w2 base g r2 bf bt steps) := J2
    have HF : Hid (Gc.Fr 88 base w w2) := (Gc.Fr.ofGr ((Gr.refl _).alloc _) HB.out).trans F2
    clear L J2 F2
    go_wp2_with fail
    go_end0
    exact ⟨rfl, HJ.out, HF.out⟩
  | some x =>
    have HWx : Hid (Hh.W x) := HW.out x rfl
    clear HW
    unfold ret2 at *
    simp only [Option.getD_some, Option.isSome_some] at *
    go_enter Tryd.func76, Tryd.ntmps76
    go_wp2_with fail
    refine (L.out _ (by repeat (first | exact Gr.refl _ | refine Gr.alloc ?_ _))).mono ?_
    rintro e w2 ⟨rfl, J2, F2⟩
    have HJ : Hid (Pr w2 base g r2 bf bt steps) := J2
    have HF : Hid (Gc.Fr 88 base w w2) := (Gc.Fr.ofGr ((Gr.refl _).alloc _) HB.out).trans F2
    have k0 : w2.heap[w.heap.size]? = some (.cells #[.int .i64 op, .int .i64 d, .int .i64 a, .int .i64 b, .int .u32 n] 79 (0, 0)) := (F2.keep _ _ _ _ (heap_alloc_new w _) (by decide) (by decide) (by decide)).trans (heap_alloc_new w _)
    have p1 : w2.cell? ⟨w.heap.size, 1, none⟩ = some (.int .i64 d) := cell_of_row _ _ _ _ _ _ k0
    have Be : Hid (Calls Tryd.prog 95 #[.pointer (some ⟨g, 0, none⟩), .int .i64 d, .int .u32 x] w2 fun e w' => e = .returned (.tuple #[]) ∧ Pr w' base g (r2.put d x) bf bt steps ∧ Ch g w2 w') := become_any J2 (HO.out _ J2) d x hd.1 hd.2 HWx.out
    clear L J2 F2 k0
    go_wp2_with fail
    refine Be.out.mono ?_
    rintro e w3 ⟨rfl, J3, C3⟩
    have HJ3 : Hid (Pr w3 base g (r2.put d x) bf bt steps) := J3
    have HF3 : Hid (Gc.Fr 88 base w w3) := HF.out.trans (Gc.In.below HJ.out C3)
    clear Be J3 C3 HJ
    go_wp2_with fail
    go_end0
    exact ⟨rfl, HJ3.out, HF3.out⟩
theorem do_any {w : World} {base g : Nat} {r : Rn} {bf bt steps : Int} (I : Pr w base g r bf bt steps) (o : r.Ok) (T : Gc.Ts w base) (hl : r.m.length ≤ 140737488351232) (hr : r.n ≤ 1000000) (hos : r.out.length ≤ 1000000) (hss : r.sto.length ≤ 1000000) {i : Mv} (hi : 0 ≤ named i.op) (h3 : ¬ i.op = 3) (h4 : ¬ i.op = 4) (hd : 0 ≤ i.d ∧ i.d < 36) (ha : 0 ≤ i.a ∧ i.a < 36) (hb : 0 ≤ i.b ∧ i.b < 36) (hn : Hh.W i.n) :
    Calls Tryd.prog 76 #[.pointer (some ⟨g, 0, none⟩), .agg (mvA i)] w fun e w' => e = .returned (.tuple #[]) ∧ Pr w' base g (dos r i) bf bt steps ∧ Gc.Fr 88 base w w' := by
  obtain ⟨op, d, a, b, n⟩ := i
  unfold dos mvA
  simp only at *
  by_cases h1 : op = 1
  · rw [if_pos h1]
    exact do_at I o hr op d a b n h1
  rw [if_neg h1]
  by_cases h5 : op = 5
  · rw [if_pos h5]
    exact do_call I hos op d a b n h5
  rw [if_neg h5]
  by_cases h6 : op = 6
  · rw [if_pos h6]
    exact do_break I op d a b n h6
  rw [if_neg h6]
  exact do_ef I o T hl hss hi h1 h3 h4 h5 h6 hd ha hb hn
end Go.Proofs.YtkcgcflpmggjkabDoor.Mp
/-
  What the program's runner does of one small step ('goesOn'), and of a row of them ('run').
-/
namespace Go.Proofs.YtkcgcflpmggjkabDoor.Mp
open Go.ChangeShapes Go.WideShapes Go.ChangeAt Go.RowKit Mm Hh Hc Mi
set_option linter.unusedVariables false
set_option linter.unusedSimpArgs false

theorem Pr.fld' {w : World} {base g : Nat} {r : Rn} {bf bt steps : Int} (I : Pr w base g r bf bt steps) (ht : r.tm.length = 4) (j : Nat) : w.cell? ⟨g, 44 + j, none⟩ = [Value.int .u32 bf, .int .u32 bt, .int .i64 steps, .int .i64 r.n, .int .u32 r.here][j]? := by
  obtain ⟨c, e, I⟩ := I
  have h : (rsR r bf bt steps)[4 + j]? = [Value.int .u32 bf, .int .u32 bt, .int .i64 steps, .int .i64 r.n, .int .u32 r.here][j]? := by
    unfold rsR
    rw [List.getElem?_append_right (by simp [ht])]
    simp [ht]
  have := (I.rest (4 + j)).trans h
  rwa [show 40 + (4 + j) = 44 + j by omega] at this
theorem putO_tm (q : Rn) (d : Int) (x : Option Int) : (q.putO d x).tm.length = q.tm.length ∧ (q.putO d x).over = q.over := by
  cases x with
  | none => exact ⟨rfl, rfl⟩
  | some x => show (q.put d x).tm.length = q.tm.length ∧ (q.put d x).over = q.over; unfold Rn.put; split <;> simp
theorem dos_tm {r : Rn} (o : r.Ok) (i : Mv) : (dos r i).tm.length = 4 := by
  unfold dos
  split
  · exact o.tl
  split
  · exact o.tl
  split
  · exact o.tl
  · rw [(putO_tm _ _ _).1]; exact o.tl
theorem dos_over (r : Rn) (i : Mv) : (dos r i).over = r.over := by
  unfold dos
  split
  · rfl
  split
  · rfl
  split
  · rfl
  · rw [(putO_tm _ _ _).2]; rfl
theorem mic_pr {w : World} {base g : Nat} {r : Rn} {bf bt steps : Int} {i : Mv} (hi : 0 ≤ named i.op) (hs : r.h.state = 0) (hw : r.own = ownB bf bt r.sto) (I : Pr w base g (gos bf bt steps r i) bf bt steps) : Pr w base g (mic bf bt steps r i) bf bt steps := by
  rw [← gos_mic hi hs hw]
  exact I
theorem mic_over {r : Rn} {bf bt steps : Int} {i : Mv} (hi : 0 ≤ named i.op) (hs : r.h.state = 0) (hw : r.own = ownB bf bt r.sto) : (mic bf bt steps r i).over = (gos bf bt steps r i).over := by
  rw [← gos_mic hi hs hw]
theorem dos_here {r : Rn} (o : r.Ok) {i : Mv} (hn : Hh.W i.n) : Hh.W (dos r i).here := by
  have e : ∀ (q : Rn) (d : Int) (x : Option Int), (q.putO d x).here = q.here := fun q d x => by
    cases x with
    | none => rfl
    | some x => show (q.put d x).here = q.here; unfold Rn.put; split <;> rfl
  unfold dos
  split
  · exact hn
  split
  · exact ⟨o.h0, o.h1⟩
  split
  · exact ⟨o.h0, o.h1⟩
  · rw [e]; exact ⟨o.h0, o.h1⟩
theorem lvP_w {r : Rn} (o : r.Ok) {i : Mv} (hn : Hh.W i.n) : Hh.W (lvP r i) := by
  unfold lvP
  split
  · have := W.lo (r.get i.a + i.n)
    unfold Hh.W at *
    omega
  · exact hn
set_option maxHeartbeats 2000000 in
set_option maxRecDepth 100000 in
theorem goesOn_any {w : World} {base g : Nat} {r : Rn} {bf bt steps : Int} (I : Pr w base g r bf bt steps) (G : Gd bf bt r) (T : Gc.Ts w base) (ho : r.over = false) (h0 : r.n ≤ 1000000) (h1 : r.out.length ≤ 1000000) (h2 : r.sto.length ≤ 1000000) {i : Mv} (hi : micOk i = true) (hn : Hh.W i.n) :
    Calls Tryd.prog 51 #[.pointer (some ⟨g, 0, none⟩), .agg (mvA i)] w fun e w' => e = .returned (.bool (!(mic bf bt steps r i).over)) ∧ Pr w' base g (mic bf bt steps r i) bf bt steps ∧ Below base w w' := by
  obtain ⟨hnm, hd, ha, hb⟩ := micOk_named hi
  have hs := G.st ho
  have Lv : Hid (∀ W : World, Gr w W → Calls Tryd.prog 75 #[.pointer (some ⟨g, 0, none⟩), .agg (mvA i)] W fun e w' => e = .returned (.tuple #[.int .u32 (lvP r i), .bool (lvB bf bt steps r i)]) ∧ Gr W w') := fun W q => leaves_any (I.of q) G.ok h2 hnm ha hb hn
  have HP : Hid (∀ W : World, Pr W base g (gos bf bt steps r i) bf bt steps → Pr W base g (mic bf bt steps r i) bf bt steps) := fun W J => mic_pr hnm hs G.own J
  have HO : Hid ((mic bf bt steps r i).over = (gos bf bt steps r i).over) := mic_over hnm hs G.own
  have HBe : Hid (base ≤ w.heap.size) := I.base_le
  have HI : Hid (Pr w base g r bf bt steps) := I
  have HWP : Hid (Hh.W (lvP r i)) := lvP_w G.ok hn
  have HWH : Hid (Hh.W (dos r i).here) := dos_here G.ok hn
  have HOK : Hid ((dos r i).tm.length = 4) := dos_tm G.ok i
  have hdo : (dos r i).over = false := (dos_over r i).trans ho
  have fg := I.lt
  cases hB : lvB bf bt steps r i with
  | true =>
    have HE : Hid (gos bf bt steps r i = r.stop (lvP r i)) := gos_lv hB
    rw [hB] at Lv
    have Lv2 : Hid (∀ W : World, Gr w W → Calls Tryd.prog 75 #[.pointer (some ⟨g, 0, none⟩), .agg (mvA i)] W fun e w' => e = .returned (.tuple #[.int .u32 (lvP r i), .bool true]) ∧ Gr W w') := Lv
    clear Lv hB hdo HWH hs hnm hd ha hb I T G
    obtain ⟨op, d, a, b, n⟩ := i
    unfold mvA at *
    simp only at *
    generalize lvP r ⟨op, d, a, b, n⟩ = y at *
    go_enter Tryd.func51, Tryd.ntmps51
    go_wp2_with fail
    refine (Lv2.out _ (by repeat (first | exact Gr.refl _ | refine Gr.alloc ?_ _))).mono ?_
    rintro e w1 ⟨rfl, G1⟩
    have HG1 : Hid (Gr w w1) := Gr.trans (by repeat (first | exact Gr.refl _ | refine Gr.alloc ?_ _)) G1
    have J := HI.out.of HG1.out
    have k32 : w1.cell? ⟨g, 32, none⟩ = some (.int .u32 r.h.pc) := J.hart (j := 0) (by omega)
    have fz := J.fz
    have HJ : Hid (Pr (w1.setCell ⟨g, 32, none⟩ (.int .u32 y)) base g (r.stop y) bf bt steps) := (J.setPc HWP.out).same (r' := r) r.own true
    have HB : Hid (Below base w (w1.setCell ⟨g, 32, none⟩ (.int .u32 y))) := (Below.mono HG1.out HBe.out).trans (((Ch.refl g w1).setCell _ _).below (by obtain ⟨c, _, q⟩ := J; exact q.bg) J.base_le)
    clear J G1 Lv2
    go_wp2_with fail
    go_ret
    refine ⟨?_, HP.out _ (by rw [HE.out]; exact HJ.out), HB.out⟩
    rw [HO.out, HE.out]
    rfl
  | false =>
    have hop : ¬ i.op = 3 ∧ ¬ i.op = 4 := by
      refine ⟨fun q => ?_, fun q => ?_⟩
      · unfold lvB at hB
        rw [if_neg (by omega), if_pos q] at hB
        cases hB
      · unfold lvB at hB
        rw [if_neg (by omega), if_neg (by omega), if_pos q] at hB
        cases hB
    have Do : Hid (∀ W : World, Gr w W → Calls Tryd.prog 76 #[.pointer (some ⟨g, 0, none⟩), .agg (mvA i)] W fun e w' => e = .returned (.tuple #[]) ∧ Pr w' base g (dos r i) bf bt steps ∧ Gc.Fr 88 base W w') := fun W q => do_any (I.of q) G.ok (Gc.ts_of T (Below.mono q I.base_le)) (by have := G.len; omega) h0 h1 h2 hnm hop.1 hop.2 hd ha hb hn
    rw [hB] at Lv
    have Lv2 : Hid (∀ W : World, Gr w W → Calls Tryd.prog 75 #[.pointer (some ⟨g, 0, none⟩), .agg (mvA i)] W fun e w' => e = .returned (.tuple #[.int .u32 (lvP r i), .bool false]) ∧ Gr W w') := Lv
    have HE1 : Hid ((dos r i).h.state = 0 → gos bf bt steps r i = dos r i) := fun q => gos_go hB q
    have HE2 : Hid (¬ (dos r i).h.state = 0 → gos bf bt steps r i = (dos r i).stop (dos r i).here) := fun q => gos_end hB q
    clear Lv hB hs hnm hd ha hb I T G hop
    obtain ⟨op, d, a, b, n⟩ := i
    unfold mvA at *
    simp only at *
    generalize lvP r ⟨op, d, a, b, n⟩ = y at *
    by_cases q : (dos r ⟨op, d, a, b, n⟩).h.state = 0
    · have HE : Hid (gos bf bt steps r ⟨op, d, a, b, n⟩ = dos r ⟨op, d, a, b, n⟩) := HE1.out q
      generalize dos r ⟨op, d, a, b, n⟩ = r2 at *
      clear HE1 HE2
      go_enter Tryd.func51, Tryd.ntmps51
      go_wp2_with fail
      refine (Lv2.out _ (by repeat (first | exact Gr.refl _ | refine Gr.alloc ?_ _))).mono ?_
      rintro e w1 ⟨rfl, G1⟩
      have HG1 : Hid (Gr w w1) := Gr.trans (by repeat (first | exact Gr.refl _ | refine Gr.alloc ?_ _)) G1
      have k0 : w1.heap[w.heap.size]? = some (.cells #[.int .i64 op, .int .i64 d, .int .i64 a, .int .i64 b, .int .u32 n] 79 (0, 0)) := heap_up G1 (heap_alloc_new w _)
      have p0 : w1.cell? ⟨w.heap.size, 0, none⟩ = some (.int .i64 op) := cell_of_row _ _ _ _ _ _ k0
      have p1 : w1.cell? ⟨w.heap.size, 1, none⟩ = some (.int .i64 d) := cell_of_row _ _ _ _ _ _ k0
      have p2 : w1.cell? ⟨w.heap.size, 2, none⟩ = some (.int .i64 a) := cell_of_row _ _ _ _ _ _ k0
      have p3 : w1.cell? ⟨w.heap.size, 3, none⟩ = some (.int .i64 b) := cell_of_row _ _ _ _ _ _ k0
      have p4 : w1.cell? ⟨w.heap.size, 4, none⟩ = some (.int .u32 n) := cell_of_row _ _ _ _ _ _ k0
      clear G1 Lv2 k0
      go_wp2_with fail
      refine (Do.out _ HG1.out).mono ?_
      rintro e w2 ⟨rfl, J2, F2⟩
      have HJ2 : Hid (Pr w2 base g r2 bf bt steps) := J2
      have HB2 : Hid (Below base w w2) := (Below.mono HG1.out HBe.out).trans F2.below
      have k35 : w2.cell? ⟨g, 35, none⟩ = some (.int .i64 0) := by rw [← q]; exact J2.hart (j := 3) (by omega)
      clear J2 F2 Do p0 p1 p2 p3 p4 HI
      go_wp2_with fail
      go_ret
      refine ⟨?_, HP.out _ (by rw [HE.out]; exact HJ2.out), HB2.out⟩
      rw [HO.out, HE.out, hdo]
      rfl
    · have HE : Hid (gos bf bt steps r ⟨op, d, a, b, n⟩ = (dos r ⟨op, d, a, b, n⟩).stop (dos r ⟨op, d, a, b, n⟩).here) := HE2.out q
      generalize dos r ⟨op, d, a, b, n⟩ = r2 at *
      have bq : (r2.h.state != 0) = true := by simp [q]
      clear HE1 HE2
      go_enter Tryd.func51, Tryd.ntmps51
      go_wp2_with fail
      refine (Lv2.out _ (by repeat (first | exact Gr.refl _ | refine Gr.alloc ?_ _))).mono ?_
      rintro e w1 ⟨rfl, G1⟩
      have HG1 : Hid (Gr w w1) := Gr.trans (by repeat (first | exact Gr.refl _ | refine Gr.alloc ?_ _)) G1
      have k0 : w1.heap[w.heap.size]? = some (.cells #[.int .i64 op, .int .i64 d, .int .i64 a, .int .i64 b, .int .u32 n] 79 (0, 0)) := heap_up G1 (heap_alloc_new w _)
      have p0 : w1.cell? ⟨w.heap.size, 0, none⟩ = some (.int .i64 op) := cell_of_row _ _ _ _ _ _ k0
      have p1 : w1.cell? ⟨w.heap.size, 1, none⟩ = some (.int .i64 d) := cell_of_row _ _ _ _ _ _ k0
      have p2 : w1.cell? ⟨w.heap.size, 2, none⟩ = some (.int .i64 a) := cell_of_row _ _ _ _ _ _ k0
      have p3 : w1.cell? ⟨w.heap.size, 3, none⟩ = some (.int .i64 b) := cell_of_row _ _ _ _ _ _ k0
      have p4 : w1.cell? ⟨w.heap.size, 4, none⟩ = some (.int .u32 n) := cell_of_row _ _ _ _ _ _ k0
      clear G1 Lv2 k0
      go_wp2_with fail
      refine (Do.out _ HG1.out).mono ?_
      rintro e w2 ⟨rfl, J2, F2⟩
      have k35 : w2.cell? ⟨g, 35, none⟩ = some (.int .i64 r2.h.state) := J2.hart (j := 3) (by omega)
      have k32 : w2.cell? ⟨g, 32, none⟩ = some (.int .u32 r2.h.pc) := J2.hart (j := 0) (by omega)
      have k48 : w2.cell? ⟨g, 48, none⟩ = some (.int .u32 r2.here) := J2.fld' HOK.out 4
      have fz := J2.fz
      have HJ2 : Hid (Pr (w2.setCell ⟨g, 32, none⟩ (.int .u32 r2.here)) base g (r2.stop r2.here) bf bt steps) := (J2.setPc HWH.out).same (r' := r2) r2.own true
      have HB2 : Hid (Below base w (w2.setCell ⟨g, 32, none⟩ (.int .u32 r2.here))) := ((Below.mono HG1.out HBe.out).trans F2.below).trans (((Ch.refl g w2).setCell _ _).below (by obtain ⟨c, _, q⟩ := J2; exact q.bg) J2.base_le)
      clear J2 F2 Do p0 p1 p2 p3 p4 HI q
      go_wp2_with fail
      go_ret
      refine ⟨?_, HP.out _ (by rw [HE.out]; exact HJ2.out), HB2.out⟩
      rw [HO.out, HE.out]
      rfl
end Go.Proofs.YtkcgcflpmggjkabDoor.Mp
/-
  What the program's runner does of a row of small steps: run.
-/
namespace Go.Proofs.YtkcgcflpmggjkabDoor.Mp
open Go.ChangeShapes Go.WideShapes Go.ChangeAt Go.RowKit Mm Hh Hc Mi
set_option linter.unusedVariables false
set_option linter.unusedSimpArgs false

set_option maxHeartbeats 4000000 in
set_option maxRecDepth 100000 in
theorem run_any {w0 w : World} {ao : Option Addr} {n : Nat} (cap : Nat) {code : List Mv} (C : Cs w0 ao n code) (hmay : mayC code = true) {h : Hv} {l : List UInt8} {bf bt steps : Int} (oh : h.Ok) (hst : h.state = 0) (hl : l.length ≤ 4096) (T : Gc.Ts w0 w0.heap.size) {g : Nat} (I : Pr w w0.heap.size g (mstart h l) bf bt steps) (G : Gr w0 w) :
    Calls Tryd.prog 31 #[.pointer (some ⟨g, 0, none⟩), .slice ao n cap] w fun e w' => e = .returned (.tuple #[]) ∧ Pr w' w0.heap.size g (mplay bf bt steps h l code) bf bt steps ∧ Gr w0 w' := by
  have HL : Hid (code.length = n) := C.len
  have HC : Hid (Cs w0 ao n code) := C
  have HT : Hid (Gc.Ts w0 w0.heap.size) := T
  have hn200 : n ≤ 200 ∧ code.all micOk = true := by
    unfold mayC at hmay
    rw [HL.out] at hmay
    simpa using hmay
  have hn : n ≤ 200 := hn200.1
  have HA : Hid (∀ i ∈ code, micOk i = true) := fun i hi => List.all_eq_true.1 hn200.2 i hi
  have HGd : Hid (∀ j, Gd bf bt (mrun bf bt steps (mstart h l) (code.take j))) := fun j => Gd.mrun (Gd.start oh hst hl) C.wn j
  have HBd : Hid (∀ j, (mrun bf bt steps (mstart h l) (code.take j)).sto.length ≤ j ∧ (mrun bf bt steps (mstart h l) (code.take j)).out.length ≤ j ∧ (mrun bf bt steps (mstart h l) (code.take j)).n ≤ j) := fun j => by
    obtain ⟨_, a, b, c⟩ := bd_mrun bf bt steps (mstart h l) code j
    have e1 : (mstart h l).sto.length = 0 := rfl
    have e2 : (mstart h l).out.length = 0 := rfl
    have e3 : (mstart h l).n = 0 := rfl
    omega
  have HTk : Hid (∀ j i, code[j]? = some i → (mrun bf bt steps (mstart h l) (code.take j)).over = false → mrun bf bt steps (mstart h l) (code.take (j + 1)) = mic bf bt steps (mrun bf bt steps (mstart h l) (code.take j)) i) := fun j i hi ho => mrun_take bf bt steps hi ho
  have HDn : Hid (∀ j, (mrun bf bt steps (mstart h l) (code.take j)).over = true ∨ j = n → mplay bf bt steps h l code = mend (mrun bf bt steps (mstart h l) (code.take j))) := fun j hj => by
    unfold mplay
    rcases hj with hj | hj
    · rw [mrun_done bf bt steps hj]
    · rw [hj, ← HL.out, List.take_length]
  have HI : Hid (Pr w w0.heap.size g (mrun bf bt steps (mstart h l) (code.take 0)) bf bt steps) := I
  have HG : Hid (Gr w0 w) := G
  have HO0 : Hid ((mrun bf bt steps (mstart h l) (code.take 0)).over = false) := rfl
  clear C T hmay hn200 I G oh hst hl
  generalize hR : (fun j => mrun bf bt steps (mstart h l) (code.take j)) = R at *
  have eR : ∀ j, mrun bf bt steps (mstart h l) (code.take j) = R j := fun j => by rw [← hR]
  simp only [eR] at *
  clear hR eR
  generalize mplay bf bt steps h l code = MP at *
  go_enter Tryd.func31, Tryd.ntmps31
  go_wp2_with fail
  go_loopw [8] (fun i wr => ∃ j : Nat, j ≤ n ∧ i = .int .i64 j ∧ (R j).over = false ∧ Pr wr w0.heap.size g (R j) bf bt steps ∧ Gr w0 wr) (fun i _ => n - (intOf i).toNat)
  case atStart => exact ⟨0, Nat.zero_le _, rfl, HO0.out, HI.out, HG.out⟩
  case round =>
    obtain ⟨j, hj, rfl, hov, hI, hG⟩ := hrel
    have HOv : Hid ((R j).over = false) := hov
    have HIj : Hid (Pr wr w0.heap.size g (R j) bf bt steps) := hI
    have HGj : Hid (Gr w0 wr) := hG
    clear hov hI hG HI HG HO0
    by_cases hlt : j < n
    · obtain ⟨c, hc⟩ : ∃ c, code[j]? = some c := ⟨_, List.getElem?_eq_getElem (by rw [HL.out]; exact hlt)⟩
      obtain ⟨b, o, rfl, hb, hcell⟩ := (HC.out.of HGj.out).spot (by omega)
      obtain ⟨p0, p1, p2, p3, p4⟩ := hcell j c hc
      have hmem := List.mem_of_getElem? hc
      have bd := HBd.out j
      have Gs : Hid (∀ W : World, Gr wr W → Calls Tryd.prog 51 #[.pointer (some ⟨g, 0, none⟩), .agg (mvA c)] W fun e w' => e = .returned (.bool (!(R (j + 1)).over)) ∧ Pr w' w0.heap.size g (R (j + 1)) bf bt steps ∧ Gr w0 w') := fun W q => by
        rw [HTk.out j c hc HOv.out]
        refine (goesOn_any (HIj.out.of q) (HGd.out j) (Gc.ts_of HT.out (HGj.out.trans q)) HOv.out (by omega) (by omega) (by omega) (HA.out c hmem) (HC.out.wn c hmem)).mono ?_
        rintro e w' ⟨rfl, J, B⟩
        exact ⟨rfl, J, Below.trans (HGj.out.trans q) B⟩
      have HDj : Hid ((R (j + 1)).over = true → MP = mend (R (j + 1))) := fun h => HDn.out (j + 1) (.inl h)
      clear hcell hc hmem bd HTk HGd HBd HA HDn
      obtain ⟨op, d, a, b2, nn⟩ := c
      unfold mvA at Gs
      simp only at *
      generalize hr : R (j + 1) = r2 at *
      cases hov2 : r2.over with
      | true =>
        have HE : Hid (MP = r2) := by
          unfold Hid
          rw [HDj.out hov2]
          unfold mend
          rw [if_neg (by simp [hov2])]
        rw [hov2] at Gs
        simp only [Bool.not_true] at Gs
        clear HDj hr
        go_wp2_with fail
        refine (Gs.out _ ((Gr.refl _).alloc _)).mono ?_
        rintro e w1 ⟨rfl, J1, G1⟩
        have HJ1 : Hid (Pr w1 w0.heap.size g r2 bf bt steps) := J1
        have HG1 : Hid (Gr w0 w1) := G1
        clear Gs J1 G1 p0 p1 p2 p3 p4
        go_wp2_with fail
        refine bodyPost_ret (results_none Tryd.results31 _ _ _) rfl ?_
        exact ⟨rfl, by rw [HE.out]; exact HJ1.out, HG1.out⟩
      | false =>
        have HOv2 : Hid ((R (j + 1)).over = false) := by unfold Hid; rw [hr]; exact hov2
        rw [hov2] at Gs
        simp only [Bool.not_false] at Gs
        rw [← hr] at Gs
        have Gs2 : Hid (∀ W : World, Gr wr W → Calls Tryd.prog 51 #[.pointer (some ⟨g, 0, none⟩), .agg #[.int .i64 op, .int .i64 d, .int .i64 a, .int .i64 b2, .int .u32 nn]] W fun e w' => e = .returned (.bool true) ∧ Pr w' w0.heap.size g (R (j + 1)) bf bt steps ∧ Gr w0 w') := Gs
        clear HDj hr Gs hov2
        go_wp2_with fail
        refine (Gs2.out _ ((Gr.refl _).alloc _)).mono ?_
        rintro e w1 ⟨rfl, J1, G1⟩
        have HJ1 : Hid (Pr w1 w0.heap.size g (R (j + 1)) bf bt steps) := J1
        have HG1 : Hid (Gr w0 w1) := G1
        clear Gs2 J1 G1 p0 p1 p2 p3 p4
        go_wp2_with fail
        go_roundw
        case rel => exact ⟨j + 1, by omega, by go_num, HOv2.out, HJ1.out, HG1.out⟩
        case measure => simp [intOf]; omega
    · have ej : j = n := by omega
      have HE0 : Hid (MP = mend (R j)) := HDn.out j (.inr ej)
      have okj := (HGd.out j).ok
      have bd := (HBd.out j).2.2
      have k47 : wr.cell? ⟨g, 47, none⟩ = some (.int .i64 (R j).n) := HIj.out.fld okj 3
      have k48 : wr.cell? ⟨g, 48, none⟩ = some (.int .u32 (R j).here) := HIj.out.fld okj 4
      have k32 : wr.cell? ⟨g, 32, none⟩ = some (.int .u32 (R j).h.pc) := HIj.out.hart (j := 0) (by omega)
      have fz := HIj.out.fz
      have wp := W.lo ((R j).here + 4)
      have HJ : Hid (Pr (wr.setCell ⟨g, 32, none⟩ (.int .u32 (Wd.lo ((R j).here + 4)))) w0.heap.size g { R j with h := (R j).h.go (Wd.lo ((R j).here + 4)) } bf bt steps) := HIj.out.setPc wp
      have HB : Hid (Gr w0 (wr.setCell ⟨g, 32, none⟩ (.int .u32 (Wd.lo ((R j).here + 4))))) := Below.trans HGj.out (((Ch.refl g wr).setCell _ _).below (by obtain ⟨c, _, q⟩ := HIj.out; exact q.bg) HIj.out.base_le)
      have h48 := okj.h0
      have h49 := okj.h1
      clear HTk HGd HBd HA HDn HC HT HL okj wp ej hj bd
      generalize R j = rj at *
      by_cases hz : rj.n = 0
      · have HE : Hid (MP = rj) := by
          unfold Hid
          rw [HE0.out]
          unfold mend
          rw [if_neg (by simp [hz])]
        have hz2 : (rj.n : Int) = 0 := by omega
        clear HE0
        go_wp2_with fail
        go_end0
        exact ⟨rfl, by rw [HE.out]; exact HIj.out, HGj.out⟩
      · have HE : Hid (MP = { rj with h := rj.h.go (Wd.lo (rj.here + 4)) }) := by
          unfold Hid
          rw [HE0.out]
          unfold mend
          rw [if_pos ⟨HOv.out, by omega⟩]
        have hz2 : 0 < (rj.n : Int) := by omega
        clear HE0 hz
        go_wp2_with fail
        go_end0
        exact ⟨rfl, by rw [HE.out]; exact HJ.out, HB.out⟩
end Go.Proofs.YtkcgcflpmggjkabDoor.Mp
