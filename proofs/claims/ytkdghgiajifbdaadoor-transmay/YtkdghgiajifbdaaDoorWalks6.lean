/-
  What written and Encode return. Conditions: the tables hold what their initialisers lay ('Tab'); Imm is of 32 bits.
-/
import Derived.Test.YtkdghgiajifbdaaDoorWalks4
import Derived.Test.YtkdghgiajifbdaaDoorWalks5
namespace Go.Proofs.YtkdghgiajifbdaaDoor.Dw
open Go.ChangeShapes Go.WideShapes Go.ChangeAt Go.RowKit
set_option linter.unusedVariables false
set_option linter.unusedSimpArgs false

/-- The word that is laid together of an instruction's fields. -/
def Wv (op rd rs1 rs2 imm : Int) : Int :=
  bits .or .u32 (bits .or .u32 (Dc.tbits op) (bits .or .u32 (bits .or .u32 (rd % 4294967296 * 128 % 4294967296) (rs1 % 4294967296 * 32768 % 4294967296)) (rs2 % 4294967296 * 1048576 % 4294967296))) (wI (Dc.frm op) (imm % 4294967296))
theorem Wv_bd (op rd rs1 rs2 imm : Int) : 0 ≤ Wv op rd rs1 rs2 imm ∧ Wv op rd rs1 rs2 imm < 4294967296 := by
  have h : (Lit.int .u32 (Wv op rd rs1 rs2 imm)).wf = true := wf_bits _ _ _ _
  have h' : 0 ≤ Wv op rd rs1 rs2 imm ∧ Wv op rd rs1 rs2 imm ≤ 4294967295 := by simpa [Lit.wf, IntKind.min, IntKind.max, IntKind.signed, IntKind.bits] using h
  omega
set_option maxHeartbeats 1000000 in
theorem written_any (op rd rs1 rs2 imm : Int) (w : World) (T : Tab w) (h0 : -2147483648 ≤ imm) (h1 : imm < 2147483648) :
    Calls Tryd.prog 26 #[insV op rd rs1 rs2 imm] w fun e w' => e = .returned (.int .u32 (Wv op rd rs1 rs2 imm)) ∧ Gr w w' := by
  unfold insV
  go_enter Tryd.func26, Tryd.ntmps26
  go_wp2_with fail
  refine (told_any op _ (T.of ((Gr.refl _).alloc _ _))).mono ?_
  rintro e w1 ⟨rfl, g⟩
  have hfb := Dc.frm_bd op
  have T1 := (T.of ((Gr.refl _).alloc _ _)).of g
  obtain ⟨f1, f2, f3⟩ := fresh_of g
  have r0 := f1 0 _ rfl
  have r1 := f1 1 _ rfl
  have r2 := f1 2 _ rfl
  have r3 := f1 3 _ rfl
  have r4 := f1 4 _ rfl
  have G1 : Hid (Gr w w1) := ((Gr.refl _).alloc _ _).trans g
  have W1 : Hid (WrittenImm (Dc.frm op)) := writtenImm_any (Dc.frm op) hfb.1 hfb.2
  clear f1 g T
  go_wp2_with fail
  refine (W1.out imm _ T1 h0 h1).mono ?_
  rintro e w2 ⟨rfl, g2⟩
  clear T1
  go_wp2_with fail
  go_ret
  exact ⟨rfl, G1.out.trans g2⟩
/-- The word v is read as the instruction of these fields. -/
def Same (op rd rs1 rs2 imm v : Int) : Prop := decOk v = true ∧ Dc.dop v = op ∧ Dc.rdF (Dc.frm (Dc.dop v)) v = rd ∧ Dc.rs1F (Dc.frm (Dc.dop v)) v = rs1 ∧ Dc.rs2F (Dc.frm (Dc.dop v)) v = rs2 ∧ Dc.immF (Dc.frm (Dc.dop v)) v = imm
set_option maxHeartbeats 1000000 in
theorem Encode_no (op rd rs1 rs2 imm : Int) (w : World) (T : Tab w) (h0 : -2147483648 ≤ imm) (h1 : imm < 2147483648) (hn : ¬ Same op rd rs1 rs2 imm (Wv op rd rs1 rs2 imm)) :
    Calls Tryd.prog 11 #[insV op rd rs1 rs2 imm] w fun e w' => e = .returned (.tuple #[.int .u32 0, .int .i64 2]) ∧ Gr w w' := by
  have hb := Wv_bd op rd rs1 rs2 imm
  have HW := fun w T => written_any op rd rs1 rs2 imm w T h0 h1
  have HD := fun w T => Decode_any (Wv op rd rs1 rs2 imm) w T hb.1 hb.2
  generalize Wv op rd rs1 rs2 imm = v at *
  unfold decV at HD
  unfold Same at hn
  generalize Dc.rdF (Dc.frm (Dc.dop v)) v = x1 at *
  generalize Dc.rs1F (Dc.frm (Dc.dop v)) v = x2 at *
  generalize Dc.rs2F (Dc.frm (Dc.dop v)) v = x3 at *
  generalize Dc.immF (Dc.frm (Dc.dop v)) v = x4 at *
  generalize Dc.dop v = x0 at *
  generalize decOk v = b at *
  have N : Hid (¬ (b = true ∧ x0 = op ∧ x1 = rd ∧ x2 = rs1 ∧ x3 = rs2 ∧ x4 = imm)) := hn
  clear hn
  unfold insV at *
  have HW' : Hid (∀ w : World, Tab w → Calls Tryd.prog 26 #[.agg #[.int .i64 op, .int .i64 rd, .int .i64 rs1, .int .i64 rs2, .int .i32 imm]] w fun e w' => e = .returned (.int .u32 v) ∧ Gr w w') := HW
  have HD' : Hid (∀ w : World, Tab w → Calls Tryd.prog 14 #[.int .u32 v] w fun e w' => e = .returned (.tuple #[.agg #[.int .i64 x0, .int .i64 x1, .int .i64 x2, .int .i64 x3, .int .i32 x4], .bool b]) ∧ Gr w w') := HD
  clear HW HD
  go_enter Tryd.func11, Tryd.ntmps11
  go_wp2_with fail
  refine (HW'.out _ (T.of ((Gr.refl _).alloc _ _))).mono ?_
  rintro e w1 ⟨rfl, g⟩
  have T1 := (T.of ((Gr.refl _).alloc _ _)).of g
  have G1 : Hid (Gr (w.alloc (.cells #[.int .i64 op, .int .i64 rd, .int .i64 rs1, .int .i64 rs2, .int .i32 imm] 23)) w1) := g
  clear g T HW'
  go_wp2_with fail
  refine (HD'.out _ T1).mono ?_
  rintro e w2 ⟨rfl, g2⟩
  have g := G1.out.trans g2
  obtain ⟨f1, f2, f3⟩ := fresh_of g
  have r0 := f1 0 _ rfl
  have r1 := f1 1 _ rfl
  have r2 := f1 2 _ rfl
  have r3 := f1 3 _ rfl
  have r4 := f1 4 _ rfl
  have G2 : Hid (Gr w w2) := ((Gr.refl _).alloc _ _).trans g
  clear f1 g g2 T1 G1 HD'
  cases b
  · go_wp2_with fail
    all_goals
      go_ret2
      exact ⟨rfl, G2.out.alloc _ _⟩
  · go_wp2_with fail
    all_goals
      first
        | (go_ret2; exact ⟨rfl, G2.out.alloc _ _⟩)
        | exact (N.out ⟨(by first | rfl | trivial | assumption), (by first | rfl | trivial | assumption), (by first | rfl | trivial | assumption), (by first | rfl | trivial | assumption), (by first | rfl | trivial | assumption), (by first | rfl | trivial | assumption)⟩).elim
set_option maxHeartbeats 1000000 in
theorem Encode_yes (op rd rs1 rs2 imm : Int) (w : World) (T : Tab w) (h0 : -2147483648 ≤ imm) (h1 : imm < 2147483648) (hy : Same op rd rs1 rs2 imm (Wv op rd rs1 rs2 imm)) :
    Calls Tryd.prog 11 #[insV op rd rs1 rs2 imm] w fun e w' => e = .returned (.tuple #[.int .u32 (Wv op rd rs1 rs2 imm), .int .i64 0]) ∧ Gr w w' := by
  have hb := Wv_bd op rd rs1 rs2 imm
  have HW := fun w T => written_any op rd rs1 rs2 imm w T h0 h1
  have HD := fun w T => Decode_any (Wv op rd rs1 rs2 imm) w T hb.1 hb.2
  generalize Wv op rd rs1 rs2 imm = v at *
  unfold decV at HD
  unfold Same at hy
  generalize Dc.rdF (Dc.frm (Dc.dop v)) v = x1 at *
  generalize Dc.rs1F (Dc.frm (Dc.dop v)) v = x2 at *
  generalize Dc.rs2F (Dc.frm (Dc.dop v)) v = x3 at *
  generalize Dc.immF (Dc.frm (Dc.dop v)) v = x4 at *
  generalize Dc.dop v = x0 at *
  generalize decOk v = b at *
  obtain ⟨hb1, e0, e1, e2, e3, e4⟩ := hy
  subst hb1
  rw [e0, e1, e2, e3, e4] at HD
  clear e0 e1 e2 e3 e4
  unfold insV at *
  have HW' : Hid (∀ w : World, Tab w → Calls Tryd.prog 26 #[.agg #[.int .i64 op, .int .i64 rd, .int .i64 rs1, .int .i64 rs2, .int .i32 imm]] w fun e w' => e = .returned (.int .u32 v) ∧ Gr w w') := HW
  have HD' : Hid (∀ w : World, Tab w → Calls Tryd.prog 14 #[.int .u32 v] w fun e w' => e = .returned (.tuple #[.agg #[.int .i64 op, .int .i64 rd, .int .i64 rs1, .int .i64 rs2, .int .i32 imm], .bool true]) ∧ Gr w w') := HD
  clear HW HD
  go_enter Tryd.func11, Tryd.ntmps11
  go_wp2_with fail
  refine (HW'.out _ (T.of ((Gr.refl _).alloc _ _))).mono ?_
  rintro e w1 ⟨rfl, g⟩
  have T1 := (T.of ((Gr.refl _).alloc _ _)).of g
  have G1 : Hid (Gr (w.alloc (.cells #[.int .i64 op, .int .i64 rd, .int .i64 rs1, .int .i64 rs2, .int .i32 imm] 23)) w1) := g
  clear g T HW'
  go_wp2_with fail
  refine (HD'.out _ T1).mono ?_
  rintro e w2 ⟨rfl, g2⟩
  have g := G1.out.trans g2
  obtain ⟨f1, f2, f3⟩ := fresh_of g
  have r0 := f1 0 _ rfl
  have r1 := f1 1 _ rfl
  have r2 := f1 2 _ rfl
  have r3 := f1 3 _ rfl
  have r4 := f1 4 _ rfl
  have G2 : Hid (Gr w w2) := ((Gr.refl _).alloc _ _).trans g
  clear f1 g g2 T1 G1 HD'
  go_wp2_with fail
  go_ret2
  exact ⟨rfl, G2.out.alloc _ _⟩
end Go.Proofs.YtkdghgiajifbdaaDoor.Dw
