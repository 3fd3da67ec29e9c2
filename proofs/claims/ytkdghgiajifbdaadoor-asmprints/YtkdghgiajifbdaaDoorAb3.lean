/-
  The document's Text, whole (of JALR here; the other forms: Av), and the walk of the law AsmPrints.
-/
import Derived.Test.YtkdghgiajifbdaaDoorAa1
import Derived.Test.YtkdghgiajifbdaaDoorRef2dd
namespace Go.Proofs.YtkdghgiajifbdaaDoor.As
open Go.ChangeShapes Go.WideShapes Go.ChangeAt Go.RowKit Mm
set_option linter.unusedVariables false

variable {w w' : World}
set_option maxHeartbeats 2000000 in
set_option maxRecDepth 100000 in
theorem text_f4 {rd a b n : Int} {A N D X Y U : List Nat} (P : TP 4 rd a b n A N D X Y U) (w : World) :
    Calls Tryd.prog 23 #[.agg #[.int .i64 4, .int .i64 rd, .int .i64 a, .int .i64 b, .int .i32 n]] w fun e w' => e = .returned (str (A ++ 32 :: (D ++ 44 :: (X ++ 44 :: N)))) ∧ Gr w w' := by
  have HP : Hid (TP 4 rd a b n A N D X Y U) := P
  have n0 := P.n0
  have n1 := P.n1
  have l := P.l
  have ha1 : ∀ w : World, (binOp .add 9 (str A) (.string ⟨#[32]⟩)).run Tryd.prog w = .ok (str (A ++ [32])) w := fun w => add_is (B := [32]) (by simp; omega) w
  have ha2 : ∀ w : World, (binOp .add 9 (str (A ++ [32])) (str D)).run Tryd.prog w = .ok (str (A ++ [32] ++ D)) w := fun w => add_is (by simp; omega) w
  have ha3 : ∀ w : World, (binOp .add 9 (str (A ++ [32] ++ D)) (.string ⟨#[44]⟩)).run Tryd.prog w = .ok (str (A ++ [32] ++ D ++ [44])) w := fun w => add_is (B := [44]) (by simp; omega) w
  have ha4 : ∀ w : World, (binOp .add 9 (str (A ++ [32] ++ D ++ [44])) (str X)).run Tryd.prog w = .ok (str (A ++ [32] ++ D ++ [44] ++ X)) w := fun w => add_is (by simp; omega) w
  have ha5 : ∀ w : World, (binOp .add 9 (str (A ++ [32] ++ D ++ [44] ++ X)) (.string ⟨#[44]⟩)).run Tryd.prog w = .ok (str (A ++ [32] ++ D ++ [44] ++ X ++ [44])) w := fun w => add_is (B := [44]) (by simp; omega) w
  have ha6 : ∀ w : World, (binOp .add 9 (str (A ++ [32] ++ D ++ [44] ++ X ++ [44])) (str N)).run Tryd.prog w = .ok (str (A ++ [32] ++ D ++ [44] ++ X ++ [44] ++ N)) w := fun w => add_is (by simp; omega) w
  have HF : Hid (str (A ++ [32] ++ D ++ [44] ++ X ++ [44] ++ N) = str (A ++ 32 :: (D ++ 44 :: (X ++ 44 :: N)))) := by unfold Hid; simp
  rw [← HF.out]
  clear P l HF
  generalize str (A ++ [32] ++ D ++ [44] ++ X ++ [44] ++ N) = V6 at *
  generalize str (A ++ [32] ++ D ++ [44] ++ X ++ [44]) = V5 at *
  generalize str (A ++ [32] ++ D ++ [44] ++ X) = V4 at *
  generalize str (A ++ [32] ++ D ++ [44]) = V3 at *
  generalize str (A ++ [32] ++ D) = V2 at *
  generalize str (A ++ [32]) = V1 at *
  go_enter Tryd.func23, Tryd.ntmps23
  go_wp2_with fail
  refine (HP.out.nm _).mono ?_
  rintro e w1 ⟨rfl, G1⟩
  have HB1 : Hid (w1.heap[w.heap.size]? = some (.cells #[.int .i64 4, .int .i64 rd, .int .i64 a, .int .i64 b, .int .i32 n] 23 (0, 0))) := upA G1 (heap_alloc_new w _)
  have HG1 : Hid (Gr w w1) := ((Gr.refl _).alloc _).trans G1
  have z0 := cr0 HB1.out
  have z1 := cr1 HB1.out
  have z2 := cr2 HB1.out
  have z3 := cr3 HB1.out
  have z4 := cr4 HB1.out
  clear G1
  go_wp2_with fail
  refine (HP.out.dn _).mono ?_
  rintro e w2 ⟨rfl, G2⟩
  have HB2 : Hid (w2.heap[w.heap.size]? = some (.cells #[.int .i64 4, .int .i64 rd, .int .i64 a, .int .i64 b, .int .i32 n] 23 (0, 0))) := upA G2 (HB1.out)
  have HG2 : Hid (Gr w w2) := HG1.out.trans G2
  have z0 := cr0 HB2.out
  have z1 := cr1 HB2.out
  have z2 := cr2 HB2.out
  have z3 := cr3 HB2.out
  have z4 := cr4 HB2.out
  clear G2 HB1 HG1
  go_wp2_with fail
  refine (HP.out.d _).mono ?_
  rintro e w3 ⟨rfl, G3⟩
  have HB3 : Hid (w3.heap[w.heap.size]? = some (.cells #[.int .i64 4, .int .i64 rd, .int .i64 a, .int .i64 b, .int .i32 n] 23 (0, 0))) := upA G3 (HB2.out)
  have HG3 : Hid (Gr w w3) := HG2.out.trans G3
  have z0 := cr0 HB3.out
  have z1 := cr1 HB3.out
  have z2 := cr2 HB3.out
  have z3 := cr3 HB3.out
  have z4 := cr4 HB3.out
  clear G3 HB2 HG2
  go_wp2_with fail
  refine (HP.out.x _).mono ?_
  rintro e w4 ⟨rfl, G4⟩
  have HB4 : Hid (w4.heap[w.heap.size]? = some (.cells #[.int .i64 4, .int .i64 rd, .int .i64 a, .int .i64 b, .int .i32 n] 23 (0, 0))) := upA G4 (HB3.out)
  have HG4 : Hid (Gr w w4) := HG3.out.trans G4
  have z0 := cr0 HB4.out
  have z1 := cr1 HB4.out
  have z2 := cr2 HB4.out
  have z3 := cr3 HB4.out
  have z4 := cr4 HB4.out
  clear G4 HB3 HG3
  go_wp2_with fail
  refine (HP.out.y _).mono ?_
  rintro e w5 ⟨rfl, G5⟩
  have HB5 : Hid (w5.heap[w.heap.size]? = some (.cells #[.int .i64 4, .int .i64 rd, .int .i64 a, .int .i64 b, .int .i32 n] 23 (0, 0))) := upA G5 (HB4.out)
  have HG5 : Hid (Gr w w5) := HG4.out.trans G5
  have z0 := cr0 HB5.out
  have z1 := cr1 HB5.out
  have z2 := cr2 HB5.out
  have z3 := cr3 HB5.out
  have z4 := cr4 HB5.out
  clear G5 HB4 HG4
  go_wp2_with fail
  go_ret
  exact ⟨rfl, HG5.out⟩

/-- The text of an instruction, as the document writes it. -/
theorem Text_any {op rd a b n : Int} (n0 : -2147483648 ≤ n) (n1 : n < 2147483648) (h : Re.IsP op rd a b n) (w : World) :
    Calls Tryd.prog 23 #[.agg #[.int .i64 op, .int .i64 rd, .int .i64 a, .int .i64 b, .int .i32 n]] w fun e w' => e = .returned (str (textB op rd a b n)) ∧ Gr w w' := by
  have h' := h
  obtain ⟨⟨o1, o2, d0, d1, a0, a1, b0, b1⟩, hf⟩ := h'
  have hz : op ≤ 2 → n.tdiv 4096 = n / 4096 := fun h => Int.tdiv_eq_ediv_of_dvd (Int.dvd_of_tmod_eq_zero (by rcases hf with h | h | h | h | h | h | h | h | h | h | h | h <;> first | exact h.2.2.2.2 | (exfalso; omega)))
  have hu : -1000000000000 < n.tdiv 4096 ∧ n.tdiv 4096 < 1000000000000 := by
    have h3 : (n.tdiv 4096).natAbs ≤ n.natAbs := by rw [Int.natAbs_tdiv]; exact Nat.div_le_self _ _
    omega
  have P : TP op rd a b n (nameB op n) (num n) (rg rd) (rg a) (rg b) (num (n.tdiv 4096)) := by
    refine ⟨name_any o1 o2 n, Digits_any (by omega) (by omega), Digits_any hu.1 hu.2, x_any (by omega) (by omega), x_any (by omega) (by omega), x_any (by omega) (by omega), ?_, n0, n1⟩
    have l0 := name_len o1 o2 n
    have l1 := num_len (n := n) (by omega) (by omega)
    have l2 := num_len (n := rd) (by omega) (by omega)
    have l3 := num_len (n := a) (by omega) (by omega)
    have l4 := num_len (n := b) (by omega) (by omega)
    have l5 := num_len (n := n.tdiv 4096) hu.1 hu.2
    unfold rg
    simp only [List.length_cons]
    omega
  unfold textB
  rw [body_shp o1 o2]
  rcases cls o1 o2 with h | h | h | h | h | h | h | h | h | h
  · have := text_lui P h.1 h.2 w
    rw [wr0 h, if_neg (by simp [rg])]
    rw [hz h.2] at this
    exact this
  · have := text_jal P (by omega) (by omega) w
    rw [wr1 h, if_neg (by simp [rg])]
    exact this
  · rw [wr2 h, if_neg (by simp [rg])]
    unfold F2 at h
    rcases h with h | h | h
    · subst h; exact text_f4 P w
    · exact text_f19 P h.1 h.2 w
    · exact text_f57 P (by omega) (by omega) w
  · have := text_br P (by omega) (by omega) w
    rw [wr3 h, if_neg (by simp [rg])]
    exact this
  · have := text_ld P (by omega) (by omega) w
    rw [wr4 h, if_neg (by simp [rg])]
    exact this
  · have := text_st P (by omega) (by omega) w
    rw [wr5 h, if_neg (by simp [rg])]
    exact this
  · have := text_rr P (by omega) (by omega) w
    rw [wr6 h, if_neg (by simp [rg])]
    exact this
  · have := text_lr P (by omega) (by omega) w
    rw [wr7 h, if_neg (by simp [rg])]
    exact this
  · have := text_amo P (by omega) (by omega) w
    rw [wr8 h, if_neg (by simp [rg])]
    exact this
  · have := text_sys P (by omega) (by omega) w
    rw [wr9 h, if_pos rfl, List.append_nil]
    exact this

/-! ### The law AsmPrints -/
set_option maxHeartbeats 1000000 in
set_option maxRecDepth 100000 in
theorem prints_no {op rd a b n : Int} (n0 : -2147483648 ≤ n) (n1 : n < 2147483648) (hn : ¬ Re.IsP op rd a b n) (T : Tas w) :
    Calls Tryd.prog 7 #[.agg #[.int .i64 op, .int .i64 rd, .int .i64 a, .int .i64 b, .int .i32 n]] w fun e w' => e = .returned (.bool true) ∧ Gr w w' := by
  have H0 : Hid (∀ W : World, Tas W → Calls Tryd.prog 22 #[.agg #[.int .i64 op, .int .i64 rd, .int .i64 a, .int .i64 b, .int .i32 n]] W fun e w' => e = .returned (.tuple #[.string ⟨#[]⟩, .int .i64 2]) ∧ Gr W w') := fun W T => Print_no n0 n1 hn T
  have H1 : Hid (∀ W : World, Calls Tryd.prog 12 #[.agg #[.int .i64 op, .int .i64 rd, .int .i64 a, .int .i64 b, .int .i32 n]] W fun e w' => e = .returned (.bool false) ∧ Gr W w') := fun w =>
    (Re.Is_any op rd a b n w n0 n1).mono fun e w' ⟨⟨b, he, hb⟩, g⟩ => ⟨by cases b; exact he; exact absurd (hb.1 rfl) hn, g.1⟩
  have HT : Hid (Tas w) := T
  clear hn T
  go_enter Tryd.func7, Tryd.ntmps7
  go_wp2_with fail
  refine (H0.out _ (HT.out.of ((Gr.refl _).alloc _))).mono ?_
  rintro e w1 ⟨rfl, G1⟩
  have HB1 : Hid (w1.heap[w.heap.size]? = some (.cells #[.int .i64 op, .int .i64 rd, .int .i64 a, .int .i64 b, .int .i32 n] 23 (0, 0))) := upA G1 (heap_alloc_new w _)
  have HG1 : Hid (Gr w w1) := ((Gr.refl _).alloc _).trans G1
  have z0 := cr0 HB1.out
  have z1 := cr1 HB1.out
  have z2 := cr2 HB1.out
  have z3 := cr3 HB1.out
  have z4 := cr4 HB1.out
  clear G1
  go_wp2_with fail
  refine (H1.out _).mono ?_
  rintro e w2 ⟨rfl, G2⟩
  have HG2 : Hid (Gr w w2) := HG1.out.trans G2
  clear G2
  go_wp2_with fail
  go_ret
  exact ⟨rfl, HG2.out⟩
set_option maxHeartbeats 1000000 in
set_option maxRecDepth 100000 in
theorem prints_yes {op rd a b n : Int} (n0 : -2147483648 ≤ n) (n1 : n < 2147483648) (hy : Re.IsP op rd a b n) (T : Tas w) :
    Calls Tryd.prog 7 #[.agg #[.int .i64 op, .int .i64 rd, .int .i64 a, .int .i64 b, .int .i32 n]] w fun e w' => e = .returned (.bool true) ∧ Gr w w' := by
  have H0 : Hid (∀ W : World, Tas W → Calls Tryd.prog 22 #[.agg #[.int .i64 op, .int .i64 rd, .int .i64 a, .int .i64 b, .int .i32 n]] W fun e w' => e = .returned (.tuple #[.string (bs (textB op rd a b n)), .int .i64 0]) ∧ Gr W w') := fun W T => Print_yes n0 n1 hy T
  have H1 : Hid (∀ W : World, Calls Tryd.prog 12 #[.agg #[.int .i64 op, .int .i64 rd, .int .i64 a, .int .i64 b, .int .i32 n]] W fun e w' => e = .returned (.bool true) ∧ Gr W w') := fun w =>
    (Re.Is_any op rd a b n w n0 n1).mono fun e w' ⟨⟨b, he, hb⟩, g⟩ => ⟨by have := hb.2 hy; subst this; exact he, g.1⟩
  have H2 : Hid (∀ W : World, Calls Tryd.prog 23 #[.agg #[.int .i64 op, .int .i64 rd, .int .i64 a, .int .i64 b, .int .i32 n]] W fun e w' => e = .returned (.string (bs (textB op rd a b n))) ∧ Gr W w') := Text_any n0 n1 hy
  have HT : Hid (Tas w) := T
  clear hy T
  generalize bs (textB op rd a b n) = s at *
  go_enter Tryd.func7, Tryd.ntmps7
  go_wp2_with fail
  refine (H0.out _ (HT.out.of ((Gr.refl _).alloc _))).mono ?_
  rintro e w1 ⟨rfl, G1⟩
  have HB1 : Hid (w1.heap[w.heap.size]? = some (.cells #[.int .i64 op, .int .i64 rd, .int .i64 a, .int .i64 b, .int .i32 n] 23 (0, 0))) := upA G1 (heap_alloc_new w _)
  have HG1 : Hid (Gr w w1) := ((Gr.refl _).alloc _).trans G1
  have z0 := cr0 HB1.out
  have z1 := cr1 HB1.out
  have z2 := cr2 HB1.out
  have z3 := cr3 HB1.out
  have z4 := cr4 HB1.out
  clear G1
  go_wp2_with fail
  refine (H1.out _).mono ?_
  rintro e w2 ⟨rfl, G2⟩
  have HB2 : Hid (w2.heap[w.heap.size]? = some (.cells #[.int .i64 op, .int .i64 rd, .int .i64 a, .int .i64 b, .int .i32 n] 23 (0, 0))) := upA G2 HB1.out
  have HG2 : Hid (Gr w w2) := HG1.out.trans G2
  have y0 := cr0 HB2.out
  have y1 := cr1 HB2.out
  have y2 := cr2 HB2.out
  have y3 := cr3 HB2.out
  have y4 := cr4 HB2.out
  clear G2
  go_wp2_with fail
  refine (H2.out _).mono ?_
  rintro e w3 ⟨rfl, G3⟩
  have HG3 : Hid (Gr w w3) := HG2.out.trans G3
  clear G3
  go_wp2_with fail
  go_ret
  exact ⟨rfl, HG3.out⟩
end Go.Proofs.YtkdghgiajifbdaaDoor.As
