/-
  What the small functions of package ferrybridgeref4 return: trap, set, each of every struct that a step did; and nothing old in memory turns.
-/
import Derived.Test.YtdiofidmlgliiaaDoorHs
import Derived.Test.YtdiofidmlgliiaaDoorWord
import Derived.Test.YtdiofidmlgliiaaDoorRef1Alu
namespace Go.Proofs.YtdiofidmlgliiaaDoor.Hr
open Go.ChangeShapes Go.WideShapes Go.ChangeAt Go.RowKit Mm Hh
set_option linter.unusedVariables false
set_option linter.unusedSimpArgs false

variable {d : Dv}
theorem iD : (Tryd.prog.info? 81).map (·.size) = some 41 := by kernel_rfl
theorem iH : (Tryd.prog.info? 70).map (·.size) = some 37 := by kernel_rfl
theorem ret_int {k : IntKind} {a b : Int} (h : a = b) : Ending.returned (.int k a) = .returned (.int k b) := by rw [h]

theorem sum_any (a b : Int) (w : World) (ha : 0 ≤ a) (ha' : a < 4294967296) (hb : 0 ≤ b) (hb' : b < 4294967296) :
    Calls Tryd.prog 62 #[.int .u32 a, .int .u32 b] w fun e w' => e = .returned (.int .u32 (Wd.lo (a + b))) ∧ w' = w := by
  go_enter Tryd.func62, Tryd.ntmps62
  go_wp2_with (go_at_call 66; refine (Rw.alu_28 _ _ _ ha ha' hb hb').mono ?_; rintro e w' ⟨rfl, rfl⟩)
  go_ret
  exact ⟨ret_int rfl, rfl⟩
theorem operation_any (op : Int) (w : World) : Calls Tryd.prog 67 #[.int .i64 op] w fun e w' => e = .returned (.int .i64 (opn op)) ∧ w' = w := by
  go_enter Tryd.func67, Tryd.ntmps67
  go_wp2
  all_goals
    go_ret
    refine ⟨ret_int ?_, rfl⟩
    simp only [beq_iff_eq, beq_eq_false_iff_ne, ne_eq] at *
    unfold opn
    repeat' split
    all_goals omega

theorem trap_any (o : d.Ok) (c : Int) (w : World) :
    Calls Tryd.prog 59 #[.agg (dA d), .int .i64 c] w fun e w' => e = .returned (.agg (dA (d.setH (d.h.trap c)))) ∧ Gr w w' := by
  have o1 : Hv.Ok { d.h with state := 2 } := ⟨o.h.len, o.h.reg, o.h.pc0, o.h.pc1, o.h.at0, o.h.at1⟩
  have e1 : (dA d).setIfInBounds 35 (.int .i64 2) = dA { d with h := { d.h with state := 2 } } := dA_set o.h (by omega) (set_state o.h 2)
  have e2 : (dA { d with h := { d.h with state := 2 } }).setIfInBounds 36 (.int .i64 c) = dA (d.setH (d.h.trap c)) := dA_set (d := { d with h := { d.h with state := 2 } }) o1 (by omega) (set_cause o1 c)
  have hs := dA_size o.h
  have s1 : (dA { d with h := { d.h with state := 2 } }).size = 41 := dA_size (d := { d with h := { d.h with state := 2 } }) o1
  have S2 : Hid ((dA (d.setH (d.h.trap c))).size = 41) := dA_size (d := d.setH (d.h.trap c)) (o.h.trap c)
  have H1 : Hid ((dA (d.setH (d.h.trap c))).all (·.oneCell') = true) := one_dA (o.setH (o.h.trap c))
  generalize dA { d with h := { d.h with state := 2 } } = D1 at *
  generalize dA (d.setH (d.h.trap c)) = D2 at *
  generalize dA d = D0 at *
  clear o1 o
  go_enter Tryd.func59, Tryd.ntmps59
  go_wp2_with (first
    | (refine wpList_load_row rfl 81 _ rfl _ rfl _ _ _ _ (heap_alloc2_old w _ _) Tryd.underlying81 rfl (by rw [S2.out]; exact iD) ?_)
    | (refine wpList_store_row rfl 81 _ _ rfl _ _ rfl rfl _ _ (heap_alloc2_new w _ _) (by rw [S2.out]; exact iD) (by rw [S2.out]; rfl) H1.out ?_))
  refine bodyPost_ret (v := .agg D2) (results_cell_row rfl _ _ _ _ _ (0, 0) _ rfl (heap_setRow2 w _ _ _ _) Tryd.underlying81 rfl (by rw [S2.out]; exact iD)) rfl ⟨rfl, ?_⟩
  exact gr_setRow (((Gr.refl _).alloc _).alloc _) (Nat.le_succ _) _

set_option maxHeartbeats 400000 in
theorem set_any (o : d.Ok) (r x : Int) (w : World) (h0 : 0 ≤ r) (h1 : r < 32) (hx0 : 0 ≤ x) (hx1 : x < 4294967296) :
    Calls Tryd.prog 63 #[.agg (dA d), .int .i64 r, .int .u32 x] w fun e w' => e = .returned (.agg (dA (d.setH (d.h.set r.toNat x)))) ∧ Gr w w' := by
  have hs := dA_size o.h
  have S2 : Hid ((dA (d.setH (d.h.set r.toNat x))).size = 41) := dA_size (d := d.setH (d.h.set r.toNat x)) (o.h.set _ hx0 hx1)
  have H1 : Hid ((dA (d.setH (d.h.set r.toNat x))).all (·.oneCell') = true) := one_dA (o.setH (o.h.set _ hx0 hx1))
  obtain ⟨r, rfl⟩ := Int.eq_ofNat_of_zero_le h0
  simp only [Int.toNat_natCast] at *
  by_cases hr : r = 0
  · subst hr
    have e : d.setH (d.h.set 0 x) = d := rfl
    rw [e] at S2 H1 ⊢
    generalize dA d = D2 at *
    clear o e
    go_enter Tryd.func63, Tryd.ntmps63
    go_wp2_with (first
      | (refine wpList_load_row rfl 81 _ rfl _ rfl _ _ _ _ (heap_alloc2_old w _ _) Tryd.underlying81 rfl (by rw [S2.out]; exact iD) ?_)
      | (refine wpList_store_row rfl 81 _ _ rfl _ _ rfl rfl _ _ (heap_alloc2_new w _ _) (by rw [S2.out]; exact iD) (by rw [S2.out]; rfl) H1.out ?_))
    refine bodyPost_ret (v := .agg D2) (results_cell_row rfl _ _ _ _ _ (0, 0) _ rfl (heap_setRow2 w _ _ _ _) Tryd.underlying81 rfl (by rw [S2.out]; exact iD)) rfl ⟨rfl, ?_⟩
    exact gr_setRow (((Gr.refl _).alloc _).alloc _) (Nat.le_succ _) _
  · have e1 : (dA d).setIfInBounds r (.int .u32 x) = dA (d.setH (d.h.set r x)) := by
      have : d.h.set r x = { d.h with regs := d.h.regs.set r x } := if_neg hr
      rw [this]
      exact dA_set o.h (by omega) (set_reg o.h (by omega) x)
    have hr' : ¬ (r : Int) = 0 := by omega
    have hr2 : r < 32 := by omega
    have hget : (dA d)[r]? = some (.int .u32 (rg d.h r)) := by rw [dA_get o.h (by omega)]; exact hL_reg o.h hr2
    generalize rg d.h r = y at *
    generalize dA (d.setH (d.h.set r x)) = D2 at *
    generalize dA d = D0 at *
    clear o
    clear hs
    go_enter Tryd.func63, Tryd.ntmps63
    go_wp2_with (first
      | (refine wpList_load_row rfl 81 _ rfl _ rfl _ _ _ _ (heap_alloc2_old w _ _) Tryd.underlying81 rfl (by rw [S2.out]; exact iD) ?_)
      | (refine wpList_store_row rfl 81 _ _ rfl _ _ rfl rfl _ _ (heap_alloc2_new w _ _) (by rw [S2.out]; exact iD) (by rw [S2.out]; rfl) H1.out ?_))
    refine bodyPost_ret (v := .agg D2) (results_cell_row rfl _ _ _ _ _ (0, 0) _ rfl (heap_setRow2 w _ _ _ _) Tryd.underlying81 rfl (by rw [S2.out]; exact iD)) rfl ⟨rfl, ?_⟩
    exact gr_setRow (((Gr.refl _).alloc _).alloc _) (Nat.le_succ _) _
end Go.Proofs.YtdiofidmlgliiaaDoor.Hr
