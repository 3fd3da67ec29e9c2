/-
  A strings.Builder that is written on (its own methods, walked), and the text that package asm writes behind a name ('wrB'). Printed by tools/mkay.py.
-/
import Derived.Test.YtkdghgiajifbdaaDoorAx
import Derived.Lib.FrozenHead2
import Derived.Lib.OthersKept
namespace Go.Proofs.YtkdghgiajifbdaaDoor.As
open Go.ChangeShapes Go.WideShapes Go.ChangeAt Go.RowKit Mm
set_option linter.unusedVariables false

variable {w w' : World}
theorem bInfo : (Tryd.prog.info? 141).map (·.size) = some 2 := by kernel_rfl
theorem bLies : liesAt Tryd.prog Tryd.prog.depth 141 (2 / Tryd.prog.cellsOf 141) 0 141 1 = true := by kernel_rfl
theorem iByte : (Tryd.prog.info? 5).map (fun i => (i.zero, i.size, i.bytes)) = some (some (.int .u8 0), 1, 1) := by kernel_rfl
set_option maxHeartbeats 1000000 in
set_option maxRecDepth 100000 in
theorem check_new {b : Nat} (h0 : w.cell? ⟨b, 0, none⟩ = some (.pointer none)) (hsh : w.shape? b = some (141, 2)) (hfz : w.frozen? ⟨b, 0, none⟩ = false) :
    Calls Tryd.prog 105 #[.pointer (some ⟨b, 0, none⟩)] w fun e w' => e = .returned (.tuple #[]) ∧ w' = w.setCell ⟨b, 0, none⟩ (.pointer (some ⟨b, 0, none⟩)) := by
  obtain ⟨j, hj, hjs⟩ := Option.map_eq_some_iff.1 bInfo
  go_enter Tryd.func105, Tryd.ntmps105
  go_wp2
  rw [Lib.run_to_unsafe w ⟨b, 0, none⟩ Tryd.underlying139 Tryd.underlying173 hj (by rw [hjs]; decide) hsh (Nat.zero_lt_succ 1)]
  simp only [Result.andThen]
  rw [Oper.upon_value]
  go_wp2
  rw [run_callFunc_extern Tryd.func113 (by kernel_rfl) (by kernel_rfl) (by kernel_rfl) (e := Extern.AbiNoEscape.same) (by kernel_rfl), Lib.run_noEscape]
  simp only [Result.andThen]
  rw [Oper.upon_value]
  go_wp2
  rw [Lib.run_from_unsafe w ⟨b, 0, none⟩ Tryd.underlying173 Tryd.underlying139 hj hsh bLies]
  simp only [Result.andThen]
  rw [Oper.upon_value]
  go_wp2
  go_end0
  exact ⟨rfl, rfl⟩
set_option maxHeartbeats 1000000 in
set_option maxRecDepth 100000 in
theorem check_old {b : Nat} (h0 : w.cell? ⟨b, 0, none⟩ = some (.pointer (some ⟨b, 0, none⟩))) :
    Calls Tryd.prog 105 #[.pointer (some ⟨b, 0, none⟩)] w fun e w' => e = .returned (.tuple #[]) ∧ w' = w := by
  obtain ⟨j, hj, _⟩ := Option.map_eq_some_iff.1 bInfo
  go_enter Tryd.func105, Tryd.ntmps105
  go_wp2
  rw [Lib.run_neq_ptr_same w _ Tryd.underlying139 hj]
  go_wp2
  go_end0
  exact ⟨rfl, rfl⟩
/-- A builder as the library's own word has it. -/
abbrev Bq (B b : Nat) (l : List UInt8) (w : World) : Prop := Lib.IsBuilderF 141 5 B b (Lib.byteCells l) w
theorem check_any {B b : Nat} {bs : List Value} (h : Lib.IsBuilderF 141 5 B b bs w) :
    Calls Tryd.prog 105 #[.pointer (some ⟨b, 0, none⟩)] w fun e w' => e = .returned (.tuple #[]) ∧ Lib.BuilderAtF 141 5 B b (.pointer (some ⟨b, 0, none⟩)) bs w' ∧ Below B w w' ∧ Lib.OthersKept 5 (some b) w w' := by
  rcases h with h | h
  · refine (check_new h.cell0 h.shape h.frozen0).mono ?_
    rintro e w' ⟨rfl, rfl⟩
    exact ⟨rfl, h.used _, (Below.refl B w).setCell (p := ⟨b, 0, none⟩) h.1 _, (Lib.OthersKept.refl _ _ w).setCell ⟨b, 0, none⟩ rfl _⟩
  · refine (check_old h.cell0).mono ?_
    rintro e w' ⟨rfl, rfl⟩
    exact ⟨rfl, h, Below.refl B _, Lib.OthersKept.refl _ _ _⟩
set_option maxHeartbeats 2000000 in
set_option maxRecDepth 100000 in
theorem write_any {B b : Nat} {bs : List Value} (s : ByteArray) (h : Lib.IsBuilderF 141 5 B b bs w) (hlen : bs.length + s.size ≤ 140737488355328) (hBw : B ≤ w.heap.size) :
    Calls Tryd.prog 85 #[.pointer (some ⟨b, 0, none⟩), .string s] w fun e w' => e = .returned (.tuple #[.int .i64 s.size, .nilIface]) ∧ Lib.IsBuilderF 141 5 B b (bs ++ Lib.strCells s) w' ∧ Below B w w' ∧ Lib.OthersKept 5 (some b) w w' := by
  obtain ⟨i0, hi, hz0, hz1, hz2⟩ := info_parts iByte
  have H : Hid (Calls Tryd.prog 105 #[.pointer (some ⟨b, 0, none⟩)] w fun e w' => e = .returned (.tuple #[]) ∧ Lib.BuilderAtF 141 5 B b (.pointer (some ⟨b, 0, none⟩)) bs w' ∧ Below B w w' ∧ Lib.OthersKept 5 (some b) w w') := check_any h
  clear h
  go_enter Tryd.func85, Tryd.ntmps85
  go_wp2_with fail
  refine H.out.mono ?_
  rintro e w1 ⟨rfl, h1, hb1, hk1⟩
  obtain ⟨hB, v, hbk, hown, hne⟩ := h1
  have c0 : w1.cell? ⟨b, 0, none⟩ = some (.pointer (some ⟨b, 0, none⟩)) := (cr hbk).trans rfl
  have c1 : w1.cell? ⟨b, 1, none⟩ = some v := (cr hbk).trans rfl
  go_wp2_with (at_builtin; refine Lib.wpList_append_own_stringF _ rfl _ _ 35 9 rfl B 5 i0 Tryd.underlying35 Tryd.underlying9 hi hz0 hz1 hz2 _ _ _ rfl hown s rfl ?c3 ?c4 ?c5 ?_)
  case c3 => unfold maxLen; omega
  case c4 => omega
  case c5 => have := hb1.size; omega
  intro v' w2 hown' hgrow _
  have hlt : b < w1.heap.size := (gs hbk).1
  have hb2 : w2.heap[b]? = some (.cells #[.pointer (some ⟨b, 0, none⟩), v] 141 (0, 0)) := by
    rw [hgrow.block b hlt (fun e => hne e.symm)]
    exact hbk
  have d0 : w2.cell? ⟨b, 0, none⟩ = some (.pointer (some ⟨b, 0, none⟩)) := (cr hb2).trans rfl
  have d1 : w2.cell? ⟨b, 1, none⟩ = some v := (cr hb2).trans rfl
  have f1 : w2.frozen? ⟨b, 1, none⟩ = false := fzr hb2
  obtain ⟨ao, n', cap, rfl⟩ : ∃ ao n' cap, v' = .slice ao n' cap := by
    rcases hown'.2 with ⟨hv, _⟩ | ⟨g, cap, cur, fz, hv, _⟩
    · exact ⟨_, _, _, hv⟩
    · exact ⟨_, _, _, hv⟩
  go_wp2
  go_ret2
  refine ⟨rfl, .inr ?_, ?_, (hk1.grown hgrow (Lib.ownsRowF_kind hown)).setCell ⟨b, 1, none⟩ rfl _⟩
  · exact Lib.BuilderAtF.put hB hb2 (bs' := bs ++ Lib.strCells s) (by simpa [Lib.strCells_length] using hown') (by decide)
  · exact (hb1.grown hgrow (by have := hb1.size; omega) (fun k hk => (hown.lt k hk).1)).setCell (p := ⟨b, 1, none⟩) hB _

/-! ### within, shape -/
set_option maxHeartbeats 1000000 in
theorem within_yes {op a b : Int} (h1 : a ≤ op) (h2 : op ≤ b) (w : World) : Calls Tryd.prog 104 #[.int .i64 op, .int .i64 a, .int .i64 b] w fun e w' => e = .returned (.bool true) ∧ w = w' := by
  go_enter Tryd.func104, Tryd.ntmps104
  go_wp2
  go_ret
  exact ⟨rfl, rfl⟩
set_option maxHeartbeats 1000000 in
theorem within_no {op a b : Int} (h : op < a ∨ b < op) (w : World) : Calls Tryd.prog 104 #[.int .i64 op, .int .i64 a, .int .i64 b] w fun e w' => e = .returned (.bool false) ∧ w = w' := by
  by_cases h1 : a ≤ op
  · have h2 : ¬ op ≤ b := by omega
    clear h
    go_enter Tryd.func104, Tryd.ntmps104
    go_wp2
    go_ret
    exact ⟨rfl, rfl⟩
  · clear h
    go_enter Tryd.func104, Tryd.ntmps104
    go_wp2
    go_ret
    exact ⟨rfl, rfl⟩
set_option maxHeartbeats 1000000 in
set_option maxRecDepth 100000 in
theorem shape_t0 {op : Int} (h1 : 1 ≤ op) (h2 : op ≤ 2) (w : World) : Calls Tryd.prog 84 #[.int .i64 op] w fun e w' => e = .returned (str (shp op)) ∧ w = w' := by
  rw [shp0 (by omega)]
  have H0 : Hid (∀ w : World, Calls Tryd.prog 104 #[.int .i64 op, .int .i64 1, .int .i64 2] w fun e w' => e = .returned (.bool true) ∧ w = w') := within_yes h1 h2
  clear h1 h2
  go_enter Tryd.func84, Tryd.ntmps84
  go_wp2_with fail
  refine (H0.out _).mono ?_
  rintro e _ ⟨rfl, rfl⟩
  go_wp2_with fail
  go_ret
  exact ⟨rfl, rfl⟩
set_option maxHeartbeats 1000000 in
set_option maxRecDepth 100000 in
theorem shape_t1 {op : Int} (h : op = 3) (w : World) : Calls Tryd.prog 84 #[.int .i64 op] w fun e w' => e = .returned (str (shp op)) ∧ w = w' := by
  rw [shp1 (by omega)]
  have H0 : Hid (∀ w : World, Calls Tryd.prog 104 #[.int .i64 op, .int .i64 1, .int .i64 2] w fun e w' => e = .returned (.bool false) ∧ w = w') := within_no (by omega)
  have e3 : (op == 3) = true := by simp; omega
  clear h
  go_enter Tryd.func84, Tryd.ntmps84
  go_wp2_with fail
  refine (H0.out _).mono ?_
  rintro e _ ⟨rfl, rfl⟩
  go_wp2_with fail
  go_ret
  exact ⟨rfl, rfl⟩
set_option maxHeartbeats 1000000 in
set_option maxRecDepth 100000 in
theorem shape_t2 {op : Int} (h : op = 4) (w : World) : Calls Tryd.prog 84 #[.int .i64 op] w fun e w' => e = .returned (str (shp op)) ∧ w = w' := by
  rw [shp2 (by unfold F2; omega)]
  have H0 : Hid (∀ w : World, Calls Tryd.prog 104 #[.int .i64 op, .int .i64 1, .int .i64 2] w fun e w' => e = .returned (.bool false) ∧ w = w') := within_no (by omega)
  have e3 : (op == 3) = false := by simp; omega
  have e4 : (op == 4) = true := by simp; omega
  clear h
  go_enter Tryd.func84, Tryd.ntmps84
  go_wp2_with fail
  refine (H0.out _).mono ?_
  rintro e _ ⟨rfl, rfl⟩
  go_wp2_with fail
  go_ret
  exact ⟨rfl, rfl⟩
set_option maxHeartbeats 1000000 in
set_option maxRecDepth 100000 in
theorem shape_t3 {op : Int} (h1 : 19 ≤ op) (h2 : op ≤ 27) (w : World) : Calls Tryd.prog 84 #[.int .i64 op] w fun e w' => e = .returned (str (shp op)) ∧ w = w' := by
  rw [shp2 (by unfold F2; omega)]
  have H0 : Hid (∀ w : World, Calls Tryd.prog 104 #[.int .i64 op, .int .i64 1, .int .i64 2] w fun e w' => e = .returned (.bool false) ∧ w = w') := within_no (by omega)
  have e3 : (op == 3) = false := by simp; omega
  have e4 : (op == 4) = false := by simp; omega
  have H3 : Hid (∀ w : World, Calls Tryd.prog 104 #[.int .i64 op, .int .i64 19, .int .i64 27] w fun e w' => e = .returned (.bool true) ∧ w = w') := within_yes h1 h2
  clear h1 h2
  go_enter Tryd.func84, Tryd.ntmps84
  go_wp2_with fail
  refine (H0.out _).mono ?_
  rintro e _ ⟨rfl, rfl⟩
  go_wp2_with fail
  refine (H3.out _).mono ?_
  rintro e _ ⟨rfl, rfl⟩
  go_wp2_with fail
  go_ret
  exact ⟨rfl, rfl⟩
set_option maxHeartbeats 1000000 in
set_option maxRecDepth 100000 in
theorem shape_t4 {op : Int} (h : op = 57) (w : World) : Calls Tryd.prog 84 #[.int .i64 op] w fun e w' => e = .returned (str (shp op)) ∧ w = w' := by
  rw [shp2 (by unfold F2; omega)]
  have H0 : Hid (∀ w : World, Calls Tryd.prog 104 #[.int .i64 op, .int .i64 1, .int .i64 2] w fun e w' => e = .returned (.bool false) ∧ w = w') := within_no (by omega)
  have e3 : (op == 3) = false := by simp; omega
  have e4 : (op == 4) = false := by simp; omega
  have H3 : Hid (∀ w : World, Calls Tryd.prog 104 #[.int .i64 op, .int .i64 19, .int .i64 27] w fun e w' => e = .returned (.bool false) ∧ w = w') := within_no (by omega)
  have e57 : (op == 57) = true := by simp; omega
  clear h
  go_enter Tryd.func84, Tryd.ntmps84
  go_wp2_with fail
  refine (H0.out _).mono ?_
  rintro e _ ⟨rfl, rfl⟩
  go_wp2_with fail
  refine (H3.out _).mono ?_
  rintro e _ ⟨rfl, rfl⟩
  go_wp2_with fail
  go_ret
  exact ⟨rfl, rfl⟩
set_option maxHeartbeats 1000000 in
set_option maxRecDepth 100000 in
theorem shape_t5 {op : Int} (h1 : 5 ≤ op) (h2 : op ≤ 10) (w : World) : Calls Tryd.prog 84 #[.int .i64 op] w fun e w' => e = .returned (str (shp op)) ∧ w = w' := by
  rw [shp3 (by omega)]
  have H0 : Hid (∀ w : World, Calls Tryd.prog 104 #[.int .i64 op, .int .i64 1, .int .i64 2] w fun e w' => e = .returned (.bool false) ∧ w = w') := within_no (by omega)
  have e3 : (op == 3) = false := by simp; omega
  have e4 : (op == 4) = false := by simp; omega
  have H3 : Hid (∀ w : World, Calls Tryd.prog 104 #[.int .i64 op, .int .i64 19, .int .i64 27] w fun e w' => e = .returned (.bool false) ∧ w = w') := within_no (by omega)
  have e57 : (op == 57) = false := by simp; omega
  have H5 : Hid (∀ w : World, Calls Tryd.prog 104 #[.int .i64 op, .int .i64 5, .int .i64 10] w fun e w' => e = .returned (.bool true) ∧ w = w') := within_yes h1 h2
  clear h1 h2
  go_enter Tryd.func84, Tryd.ntmps84
  go_wp2_with fail
  refine (H0.out _).mono ?_
  rintro e _ ⟨rfl, rfl⟩
  go_wp2_with fail
  refine (H3.out _).mono ?_
  rintro e _ ⟨rfl, rfl⟩
  go_wp2_with fail
  refine (H5.out _).mono ?_
  rintro e _ ⟨rfl, rfl⟩
  go_wp2_with fail
  go_ret
  exact ⟨rfl, rfl⟩
set_option maxHeartbeats 1000000 in
set_option maxRecDepth 100000 in
theorem shape_t6 {op : Int} (h1 : 11 ≤ op) (h2 : op ≤ 15) (w : World) : Calls Tryd.prog 84 #[.int .i64 op] w fun e w' => e = .returned (str (shp op)) ∧ w = w' := by
  rw [shp4 (by omega)]
  have H0 : Hid (∀ w : World, Calls Tryd.prog 104 #[.int .i64 op, .int .i64 1, .int .i64 2] w fun e w' => e = .returned (.bool false) ∧ w = w') := within_no (by omega)
  have e3 : (op == 3) = false := by simp; omega
  have e4 : (op == 4) = false := by simp; omega
  have H3 : Hid (∀ w : World, Calls Tryd.prog 104 #[.int .i64 op, .int .i64 19, .int .i64 27] w fun e w' => e = .returned (.bool false) ∧ w = w') := within_no (by omega)
  have e57 : (op == 57) = false := by simp; omega
  have H5 : Hid (∀ w : World, Calls Tryd.prog 104 #[.int .i64 op, .int .i64 5, .int .i64 10] w fun e w' => e = .returned (.bool false) ∧ w = w') := within_no (by omega)
  have H6 : Hid (∀ w : World, Calls Tryd.prog 104 #[.int .i64 op, .int .i64 11, .int .i64 15] w fun e w' => e = .returned (.bool true) ∧ w = w') := within_yes h1 h2
  clear h1 h2
  go_enter Tryd.func84, Tryd.ntmps84
  go_wp2_with fail
  refine (H0.out _).mono ?_
  rintro e _ ⟨rfl, rfl⟩
  go_wp2_with fail
  refine (H3.out _).mono ?_
  rintro e _ ⟨rfl, rfl⟩
  go_wp2_with fail
  refine (H5.out _).mono ?_
  rintro e _ ⟨rfl, rfl⟩
  go_wp2_with fail
  refine (H6.out _).mono ?_
  rintro e _ ⟨rfl, rfl⟩
  go_wp2_with fail
  go_ret
  exact ⟨rfl, rfl⟩
set_option maxHeartbeats 1000000 in
set_option maxRecDepth 100000 in
theorem shape_t7 {op : Int} (h1 : 16 ≤ op) (h2 : op ≤ 18) (w : World) : Calls Tryd.prog 84 #[.int .i64 op] w fun e w' => e = .returned (str (shp op)) ∧ w = w' := by
  rw [shp5 (by omega)]
  have H0 : Hid (∀ w : World, Calls Tryd.prog 104 #[.int .i64 op, .int .i64 1, .int .i64 2] w fun e w' => e = .returned (.bool false) ∧ w = w') := within_no (by omega)
  have e3 : (op == 3) = false := by simp; omega
  have e4 : (op == 4) = false := by simp; omega
  have H3 : Hid (∀ w : World, Calls Tryd.prog 104 #[.int .i64 op, .int .i64 19, .int .i64 27] w fun e w' => e = .returned (.bool false) ∧ w = w') := within_no (by omega)
  have e57 : (op == 57) = false := by simp; omega
  have H5 : Hid (∀ w : World, Calls Tryd.prog 104 #[.int .i64 op, .int .i64 5, .int .i64 10] w fun e w' => e = .returned (.bool false) ∧ w = w') := within_no (by omega)
  have H6 : Hid (∀ w : World, Calls Tryd.prog 104 #[.int .i64 op, .int .i64 11, .int .i64 15] w fun e w' => e = .returned (.bool false) ∧ w = w') := within_no (by omega)
  have H7 : Hid (∀ w : World, Calls Tryd.prog 104 #[.int .i64 op, .int .i64 16, .int .i64 18] w fun e w' => e = .returned (.bool true) ∧ w = w') := within_yes h1 h2
  clear h1 h2
  go_enter Tryd.func84, Tryd.ntmps84
  go_wp2_with fail
  refine (H0.out _).mono ?_
  rintro e _ ⟨rfl, rfl⟩
  go_wp2_with fail
  refine (H3.out _).mono ?_
  rintro e _ ⟨rfl, rfl⟩
  go_wp2_with fail
  refine (H5.out _).mono ?_
  rintro e _ ⟨rfl, rfl⟩
  go_wp2_with fail
  refine (H6.out _).mono ?_
  rintro e _ ⟨rfl, rfl⟩
  go_wp2_with fail
  refine (H7.out _).mono ?_
  rintro e _ ⟨rfl, rfl⟩
  go_wp2_with fail
  go_ret
  exact ⟨rfl, rfl⟩
set_option maxHeartbeats 1000000 in
set_option maxRecDepth 100000 in
theorem shape_t8 {op : Int} (h1 : 28 ≤ op) (h2 : op ≤ 45) (w : World) : Calls Tryd.prog 84 #[.int .i64 op] w fun e w' => e = .returned (str (shp op)) ∧ w = w' := by
  rw [shp6 (by omega)]
  have H0 : Hid (∀ w : World, Calls Tryd.prog 104 #[.int .i64 op, .int .i64 1, .int .i64 2] w fun e w' => e = .returned (.bool false) ∧ w = w') := within_no (by omega)
  have e3 : (op == 3) = false := by simp; omega
  have e4 : (op == 4) = false := by simp; omega
  have H3 : Hid (∀ w : World, Calls Tryd.prog 104 #[.int .i64 op, .int .i64 19, .int .i64 27] w fun e w' => e = .returned (.bool false) ∧ w = w') := within_no (by omega)
  have e57 : (op == 57) = false := by simp; omega
  have H5 : Hid (∀ w : World, Calls Tryd.prog 104 #[.int .i64 op, .int .i64 5, .int .i64 10] w fun e w' => e = .returned (.bool false) ∧ w = w') := within_no (by omega)
  have H6 : Hid (∀ w : World, Calls Tryd.prog 104 #[.int .i64 op, .int .i64 11, .int .i64 15] w fun e w' => e = .returned (.bool false) ∧ w = w') := within_no (by omega)
  have H7 : Hid (∀ w : World, Calls Tryd.prog 104 #[.int .i64 op, .int .i64 16, .int .i64 18] w fun e w' => e = .returned (.bool false) ∧ w = w') := within_no (by omega)
  have H8 : Hid (∀ w : World, Calls Tryd.prog 104 #[.int .i64 op, .int .i64 28, .int .i64 45] w fun e w' => e = .returned (.bool true) ∧ w = w') := within_yes h1 h2
  clear h1 h2
  go_enter Tryd.func84, Tryd.ntmps84
  go_wp2_with fail
  refine (H0.out _).mono ?_
  rintro e _ ⟨rfl, rfl⟩
  go_wp2_with fail
  refine (H3.out _).mono ?_
  rintro e _ ⟨rfl, rfl⟩
  go_wp2_with fail
  refine (H5.out _).mono ?_
  rintro e _ ⟨rfl, rfl⟩
  go_wp2_with fail
  refine (H6.out _).mono ?_
  rintro e _ ⟨rfl, rfl⟩
  go_wp2_with fail
  refine (H7.out _).mono ?_
  rintro e _ ⟨rfl, rfl⟩
  go_wp2_with fail
  refine (H8.out _).mono ?_
  rintro e _ ⟨rfl, rfl⟩
  go_wp2_with fail
  go_ret
  exact ⟨rfl, rfl⟩
set_option maxHeartbeats 1000000 in
set_option maxRecDepth 100000 in
theorem shape_t9 {op : Int} (h : op = 46) (w : World) : Calls Tryd.prog 84 #[.int .i64 op] w fun e w' => e = .returned (str (shp op)) ∧ w = w' := by
  rw [shp7 (by omega)]
  have H0 : Hid (∀ w : World, Calls Tryd.prog 104 #[.int .i64 op, .int .i64 1, .int .i64 2] w fun e w' => e = .returned (.bool false) ∧ w = w') := within_no (by omega)
  have e3 : (op == 3) = false := by simp; omega
  have e4 : (op == 4) = false := by simp; omega
  have H3 : Hid (∀ w : World, Calls Tryd.prog 104 #[.int .i64 op, .int .i64 19, .int .i64 27] w fun e w' => e = .returned (.bool false) ∧ w = w') := within_no (by omega)
  have e57 : (op == 57) = false := by simp; omega
  have H5 : Hid (∀ w : World, Calls Tryd.prog 104 #[.int .i64 op, .int .i64 5, .int .i64 10] w fun e w' => e = .returned (.bool false) ∧ w = w') := within_no (by omega)
  have H6 : Hid (∀ w : World, Calls Tryd.prog 104 #[.int .i64 op, .int .i64 11, .int .i64 15] w fun e w' => e = .returned (.bool false) ∧ w = w') := within_no (by omega)
  have H7 : Hid (∀ w : World, Calls Tryd.prog 104 #[.int .i64 op, .int .i64 16, .int .i64 18] w fun e w' => e = .returned (.bool false) ∧ w = w') := within_no (by omega)
  have H8 : Hid (∀ w : World, Calls Tryd.prog 104 #[.int .i64 op, .int .i64 28, .int .i64 45] w fun e w' => e = .returned (.bool false) ∧ w = w') := within_no (by omega)
  have e46 : (op == 46) = true := by simp; omega
  clear h
  go_enter Tryd.func84, Tryd.ntmps84
  go_wp2_with fail
  refine (H0.out _).mono ?_
  rintro e _ ⟨rfl, rfl⟩
  go_wp2_with fail
  refine (H3.out _).mono ?_
  rintro e _ ⟨rfl, rfl⟩
  go_wp2_with fail
  refine (H5.out _).mono ?_
  rintro e _ ⟨rfl, rfl⟩
  go_wp2_with fail
  refine (H6.out _).mono ?_
  rintro e _ ⟨rfl, rfl⟩
  go_wp2_with fail
  refine (H7.out _).mono ?_
  rintro e _ ⟨rfl, rfl⟩
  go_wp2_with fail
  refine (H8.out _).mono ?_
  rintro e _ ⟨rfl, rfl⟩
  go_wp2_with fail
  go_ret
  exact ⟨rfl, rfl⟩
set_option maxHeartbeats 1000000 in
set_option maxRecDepth 100000 in
theorem shape_t10 {op : Int} (h1 : 47 ≤ op) (h2 : op ≤ 56) (w : World) : Calls Tryd.prog 84 #[.int .i64 op] w fun e w' => e = .returned (str (shp op)) ∧ w = w' := by
  rw [shp8 (by omega)]
  have H0 : Hid (∀ w : World, Calls Tryd.prog 104 #[.int .i64 op, .int .i64 1, .int .i64 2] w fun e w' => e = .returned (.bool false) ∧ w = w') := within_no (by omega)
  have e3 : (op == 3) = false := by simp; omega
  have e4 : (op == 4) = false := by simp; omega
  have H3 : Hid (∀ w : World, Calls Tryd.prog 104 #[.int .i64 op, .int .i64 19, .int .i64 27] w fun e w' => e = .returned (.bool false) ∧ w = w') := within_no (by omega)
  have e57 : (op == 57) = false := by simp; omega
  have H5 : Hid (∀ w : World, Calls Tryd.prog 104 #[.int .i64 op, .int .i64 5, .int .i64 10] w fun e w' => e = .returned (.bool false) ∧ w = w') := within_no (by omega)
  have H6 : Hid (∀ w : World, Calls Tryd.prog 104 #[.int .i64 op, .int .i64 11, .int .i64 15] w fun e w' => e = .returned (.bool false) ∧ w = w') := within_no (by omega)
  have H7 : Hid (∀ w : World, Calls Tryd.prog 104 #[.int .i64 op, .int .i64 16, .int .i64 18] w fun e w' => e = .returned (.bool false) ∧ w = w') := within_no (by omega)
  have H8 : Hid (∀ w : World, Calls Tryd.prog 104 #[.int .i64 op, .int .i64 28, .int .i64 45] w fun e w' => e = .returned (.bool false) ∧ w = w') := within_no (by omega)
  have e46 : (op == 46) = false := by simp; omega
  have H10 : Hid (∀ w : World, Calls Tryd.prog 104 #[.int .i64 op, .int .i64 47, .int .i64 56] w fun e w' => e = .returned (.bool true) ∧ w = w') := within_yes h1 h2
  clear h1 h2
  go_enter Tryd.func84, Tryd.ntmps84
  go_wp2_with fail
  refine (H0.out _).mono ?_
  rintro e _ ⟨rfl, rfl⟩
  go_wp2_with fail
  refine (H3.out _).mono ?_
  rintro e _ ⟨rfl, rfl⟩
  go_wp2_with fail
  refine (H5.out _).mono ?_
  rintro e _ ⟨rfl, rfl⟩
  go_wp2_with fail
  refine (H6.out _).mono ?_
  rintro e _ ⟨rfl, rfl⟩
  go_wp2_with fail
  refine (H7.out _).mono ?_
  rintro e _ ⟨rfl, rfl⟩
  go_wp2_with fail
  refine (H8.out _).mono ?_
  rintro e _ ⟨rfl, rfl⟩
  go_wp2_with fail
  refine (H10.out _).mono ?_
  rintro e _ ⟨rfl, rfl⟩
  go_wp2_with fail
  go_ret
  exact ⟨rfl, rfl⟩
set_option maxHeartbeats 1000000 in
set_option maxRecDepth 100000 in
theorem shape_no {op : Int} (h : op < 1 ∨ 58 ≤ op) (w : World) : Calls Tryd.prog 84 #[.int .i64 op] w fun e w' => e = .returned (str (shp op)) ∧ w = w' := by
  rw [shp9 h]
  have H0 : Hid (∀ w : World, Calls Tryd.prog 104 #[.int .i64 op, .int .i64 1, .int .i64 2] w fun e w' => e = .returned (.bool false) ∧ w = w') := within_no (by omega)
  have e3 : (op == 3) = false := by simp; omega
  have e4 : (op == 4) = false := by simp; omega
  have H3 : Hid (∀ w : World, Calls Tryd.prog 104 #[.int .i64 op, .int .i64 19, .int .i64 27] w fun e w' => e = .returned (.bool false) ∧ w = w') := within_no (by omega)
  have e57 : (op == 57) = false := by simp; omega
  have H5 : Hid (∀ w : World, Calls Tryd.prog 104 #[.int .i64 op, .int .i64 5, .int .i64 10] w fun e w' => e = .returned (.bool false) ∧ w = w') := within_no (by omega)
  have H6 : Hid (∀ w : World, Calls Tryd.prog 104 #[.int .i64 op, .int .i64 11, .int .i64 15] w fun e w' => e = .returned (.bool false) ∧ w = w') := within_no (by omega)
  have H7 : Hid (∀ w : World, Calls Tryd.prog 104 #[.int .i64 op, .int .i64 16, .int .i64 18] w fun e w' => e = .returned (.bool false) ∧ w = w') := within_no (by omega)
  have H8 : Hid (∀ w : World, Calls Tryd.prog 104 #[.int .i64 op, .int .i64 28, .int .i64 45] w fun e w' => e = .returned (.bool false) ∧ w = w') := within_no (by omega)
  have e46 : (op == 46) = false := by simp; omega
  have H10 : Hid (∀ w : World, Calls Tryd.prog 104 #[.int .i64 op, .int .i64 47, .int .i64 56] w fun e w' => e = .returned (.bool false) ∧ w = w') := within_no (by omega)
  clear h
  go_enter Tryd.func84, Tryd.ntmps84
  go_wp2_with fail
  refine (H0.out _).mono ?_
  rintro e _ ⟨rfl, rfl⟩
  go_wp2_with fail
  refine (H3.out _).mono ?_
  rintro e _ ⟨rfl, rfl⟩
  go_wp2_with fail
  refine (H5.out _).mono ?_
  rintro e _ ⟨rfl, rfl⟩
  go_wp2_with fail
  refine (H6.out _).mono ?_
  rintro e _ ⟨rfl, rfl⟩
  go_wp2_with fail
  refine (H7.out _).mono ?_
  rintro e _ ⟨rfl, rfl⟩
  go_wp2_with fail
  refine (H8.out _).mono ?_
  rintro e _ ⟨rfl, rfl⟩
  go_wp2_with fail
  refine (H10.out _).mono ?_
  rintro e _ ⟨rfl, rfl⟩
  go_wp2_with fail
  go_ret
  exact ⟨rfl, rfl⟩
theorem shape_any (op : Int) (w : World) : Calls Tryd.prog 84 #[.int .i64 op] w fun e w' => e = .returned (str (shp op)) ∧ w = w' := by
  by_cases c0 : 1 ≤ op ∧ op ≤ 2
  · exact shape_t0 c0.1 c0.2 w
  by_cases c1 : op = 3
  · exact shape_t1 c1 w
  by_cases c2 : op = 4
  · exact shape_t2 c2 w
  by_cases c3 : 19 ≤ op ∧ op ≤ 27
  · exact shape_t3 c3.1 c3.2 w
  by_cases c4 : op = 57
  · exact shape_t4 c4 w
  by_cases c5 : 5 ≤ op ∧ op ≤ 10
  · exact shape_t5 c5.1 c5.2 w
  by_cases c6 : 11 ≤ op ∧ op ≤ 15
  · exact shape_t6 c6.1 c6.2 w
  by_cases c7 : 16 ≤ op ∧ op ≤ 18
  · exact shape_t7 c7.1 c7.2 w
  by_cases c8 : 28 ≤ op ∧ op ≤ 45
  · exact shape_t8 c8.1 c8.2 w
  by_cases c9 : op = 46
  · exact shape_t9 c9 w
  by_cases c10 : 47 ≤ op ∧ op ≤ 56
  · exact shape_t10 c10.1 c10.2 w
  exact shape_no (by omega) w
theorem shp_ch (op : Int) : ∀ c ∈ shp op, c = 100 ∨ c = 115 ∨ c = 116 ∨ c = 105 ∨ c = 117 ∨ c = 44 ∨ c = 40 ∨ c = 41 := by
  unfold shp
  repeat' split
  all_goals decide
theorem shp_len (op : Int) : (shp op).length ≤ 7 := by
  unfold shp
  repeat' split
  all_goals decide

/-! ### told -/
abbrev insV (f : Fi) : Value := .agg #[.int .i64 f.1, .int .i64 f.2.1, .int .i64 f.2.2.1, .int .i64 f.2.2.2.1, .int .i32 f.2.2.2.2]
/-- An instruction whose registers are such. -/
structure Rgs (rd a b n : Int) : Prop where
  d0 : 0 ≤ rd
  d1 : rd ≤ 31
  a0 : 0 ≤ a
  a1 : a ≤ 31
  b0 : 0 ≤ b
  b1 : b ≤ 31
  n0 : -2147483648 ≤ n
  n1 : n < 2147483648
theorem Rgs.of {op rd a b n : Int} (h : Re.IsP op rd a b n) (n0 : -2147483648 ≤ n) (n1 : n < 2147483648) : Rgs rd a b n := ⟨h.1.2.2.1, h.1.2.2.2.1, h.1.2.2.2.2.1, h.1.2.2.2.2.2.1, h.1.2.2.2.2.2.2.1, h.1.2.2.2.2.2.2.2, n0, n1⟩
set_option maxHeartbeats 1000000 in
set_option maxRecDepth 100000 in
theorem told_100 {op rd a b n : Int} (R : Rgs rd a b n) (T : Tas w) : Calls Tryd.prog 86 #[.agg #[.int .i64 op, .int .i64 rd, .int .i64 a, .int .i64 b, .int .i32 n], .int .i32 100] w fun e w' => e = .returned (str (rg rd)) ∧ Gr w w' := by
  have HC : Hid (∀ w : World, Tas w → Calls Tryd.prog 106 #[.int .i64 rd] w fun e w' => e = .returned (str (rg rd)) ∧ Gr w w') := fun w T => register_any (by have := R.d0; omega) (by have := R.d1; omega) T
  have HT : Hid (Tas w) := T
  have n0 := R.n0
  have n1 := R.n1
  clear R T
  generalize str (rg rd) = V at *
  go_enter Tryd.func86, Tryd.ntmps86
  go_wp2_with fail
  refine (HC.out _ (HT.out.of ((Gr.refl _).alloc _))).mono ?_
  rintro e w1 ⟨rfl, G1⟩
  go_wp2_with fail
  go_ret
  exact ⟨rfl, ((Gr.refl _).alloc _).trans G1⟩
set_option maxHeartbeats 1000000 in
set_option maxRecDepth 100000 in
theorem told_115 {op rd a b n : Int} (R : Rgs rd a b n) (T : Tas w) : Calls Tryd.prog 86 #[.agg #[.int .i64 op, .int .i64 rd, .int .i64 a, .int .i64 b, .int .i32 n], .int .i32 115] w fun e w' => e = .returned (str (rg a)) ∧ Gr w w' := by
  have HC : Hid (∀ w : World, Tas w → Calls Tryd.prog 106 #[.int .i64 a] w fun e w' => e = .returned (str (rg a)) ∧ Gr w w') := fun w T => register_any (by have := R.a0; omega) (by have := R.a1; omega) T
  have HT : Hid (Tas w) := T
  have n0 := R.n0
  have n1 := R.n1
  clear R T
  generalize str (rg a) = V at *
  go_enter Tryd.func86, Tryd.ntmps86
  go_wp2_with fail
  refine (HC.out _ (HT.out.of ((Gr.refl _).alloc _))).mono ?_
  rintro e w1 ⟨rfl, G1⟩
  go_wp2_with fail
  go_ret
  exact ⟨rfl, ((Gr.refl _).alloc _).trans G1⟩
set_option maxHeartbeats 1000000 in
set_option maxRecDepth 100000 in
theorem told_116 {op rd a b n : Int} (R : Rgs rd a b n) (T : Tas w) : Calls Tryd.prog 86 #[.agg #[.int .i64 op, .int .i64 rd, .int .i64 a, .int .i64 b, .int .i32 n], .int .i32 116] w fun e w' => e = .returned (str (rg b)) ∧ Gr w w' := by
  have HC : Hid (∀ w : World, Tas w → Calls Tryd.prog 106 #[.int .i64 b] w fun e w' => e = .returned (str (rg b)) ∧ Gr w w') := fun w T => register_any (by have := R.b0; omega) (by have := R.b1; omega) T
  have HT : Hid (Tas w) := T
  have n0 := R.n0
  have n1 := R.n1
  clear R T
  generalize str (rg b) = V at *
  go_enter Tryd.func86, Tryd.ntmps86
  go_wp2_with fail
  refine (HC.out _ (HT.out.of ((Gr.refl _).alloc _))).mono ?_
  rintro e w1 ⟨rfl, G1⟩
  go_wp2_with fail
  go_ret
  exact ⟨rfl, ((Gr.refl _).alloc _).trans G1⟩
set_option maxHeartbeats 1000000 in
set_option maxRecDepth 100000 in
theorem told_105 {op rd a b n : Int} (R : Rgs rd a b n) (T : Tas w) : Calls Tryd.prog 86 #[.agg #[.int .i64 op, .int .i64 rd, .int .i64 a, .int .i64 b, .int .i32 n], .int .i32 105] w fun e w' => e = .returned (str (num n)) ∧ Gr w w' := by
  have HC : Hid (∀ w : World, Tas w → Calls Tryd.prog 107 #[.int .i64 n] w fun e w' => e = .returned (str (num n)) ∧ Gr w w') := fun w T => Itoa_any (by have := R.n0; omega) (by have := R.n1; omega) T
  have HT : Hid (Tas w) := T
  have n0 := R.n0
  have n1 := R.n1
  clear R T
  generalize str (num n) = V at *
  go_enter Tryd.func86, Tryd.ntmps86
  go_wp2_with fail
  refine (HC.out _ (HT.out.of ((Gr.refl _).alloc _))).mono ?_
  rintro e w1 ⟨rfl, G1⟩
  go_wp2_with fail
  go_ret
  exact ⟨rfl, ((Gr.refl _).alloc _).trans G1⟩
set_option maxHeartbeats 1000000 in
set_option maxRecDepth 100000 in
theorem told_117 {op rd a b n : Int} (R : Rgs rd a b n) (T : Tas w) : Calls Tryd.prog 86 #[.agg #[.int .i64 op, .int .i64 rd, .int .i64 a, .int .i64 b, .int .i32 n], .int .i32 117] w fun e w' => e = .returned (str (num (n / 4096))) ∧ Gr w w' := by
  have HC : Hid (∀ w : World, Tas w → Calls Tryd.prog 107 #[.int .i64 (n / 4096)] w fun e w' => e = .returned (str (num (n / 4096))) ∧ Gr w w') := fun w T => Itoa_any (by have := R.n0; omega) (by have := R.n1; omega) T
  have HT : Hid (Tas w) := T
  have n0 := R.n0
  have n1 := R.n1
  clear R T
  generalize str (num (n / 4096)) = V at *
  go_enter Tryd.func86, Tryd.ntmps86
  go_wp2_with fail
  refine (HC.out _ (HT.out.of ((Gr.refl _).alloc _))).mono ?_
  rintro e w1 ⟨rfl, G1⟩
  go_wp2_with fail
  go_ret
  exact ⟨rfl, ((Gr.refl _).alloc _).trans G1⟩
theorem told_any {op rd a b n : Int} (R : Rgs rd a b n) (T : Tas w) {c : Nat} (hc : c = 100 ∨ c = 115 ∨ c = 116 ∨ c = 105 ∨ c = 117 ∨ c = 44 ∨ c = 40 ∨ c = 41) :
    Calls Tryd.prog 86 #[.agg #[.int .i64 op, .int .i64 rd, .int .i64 a, .int .i64 b, .int .i32 n], .int .i32 (c : Int)] w fun e w' => e = .returned (str (toldB rd a b n c)) ∧ Gr w w' := by
  rcases hc with rfl | rfl | rfl | rfl | rfl | hc
  · exact told_100 R T
  · exact told_115 R T
  · exact told_116 R T
  · exact told_105 R T
  · exact told_117 R T
  · clear T R
    rcases hc with rfl | rfl | rfl
    all_goals
      go_enter Tryd.func86, Tryd.ntmps86
      go_wp2_with fail
      go_ret
      exact ⟨rfl, (Gr.refl _).alloc _⟩
end Go.Proofs.YtkdghgiajifbdaaDoor.As
