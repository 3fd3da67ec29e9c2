/-
  What the document's chapter 2 answers of a word: the same instruction that 'Dc' tells (B1, B3). Conditions: words are from 0 to 2^32 - 1.
-/
import Derived.Test.YtdiofidmlgliiaaDoorRef2b
import Derived.Test.YtdiofidmlgliiaaDoorWalks4
namespace Go.Proofs.YtdiofidmlgliiaaDoor.Re
open Go.ChangeShapes Go.WideShapes Go.ChangeAt Go.RowKit Dw
set_option linter.unusedVariables false
set_option linter.unusedSimpArgs false

variable {a : Int} {w : World}
theorem dop_bd (h0 : 0 ≤ a) (h1 : a < 4294967296) : 0 ≤ Dc.dop a ∧ Dc.dop a ≤ 59 := by
  have := Dc.raw_bd h0 h1
  unfold Dc.dop; split <;> omega
set_option maxHeartbeats 2000000 in
theorem frm_pos (k : Int) (h1 : 1 ≤ k) (h2 : k ≤ 59) : 1 ≤ Dc.frm k := by
  unfold Dc.frm; repeat' split
  all_goals omega
/-- What the document's Decode answers of a word. -/
def RDec (a : Int) : Prop := ∀ w : World, Calls Tryd.prog 60 #[.int .u32 a] w fun e w' => e = .returned (.tuple #[decV a, .bool (decOk a)]) ∧ Gr w w'
theorem form_some {k f l : Int} (h0 : 0 ≤ a) (h1 : a < 4294967296) (hk : Dc.dop a = k) (hk1 : 1 ≤ k) (hf : Dc.frm k = f) (hl : letter f = l) :
    Calls Tryd.prog 90 #[.int .u32 a] w fun e w' => e = .returned (.tuple #[.int .i64 k, .int .u8 l]) ∧ Gr w w' := by
  refine (form_any a h0 h1 w).mono ?_
  rintro e w' ⟨⟨l', rfl, h⟩, g⟩
  have e1 := h (by omega)
  rw [hk, hf, hl] at e1
  subst e1
  refine ⟨?_, g⟩
  unfold rop; rw [hk, if_neg (by omega)]
theorem form_zero (h0 : 0 ≤ a) (h1 : a < 4294967296) (hk : Dc.dop a = 0) :
    Calls Tryd.prog 90 #[.int .u32 a] w fun e w' => (∃ l, e = .returned (.tuple #[.int .i64 (-1), .int .u8 l])) ∧ Gr w w' := by
  refine (form_any a h0 h1 w).mono ?_
  rintro e w' ⟨⟨l', rfl, h⟩, g⟩
  refine ⟨⟨l', ?_⟩, g⟩
  unfold rop; rw [hk]; rfl

set_option maxHeartbeats 1000000 in
theorem rdec_none (a : Int) (h0 : 0 ≤ a) (h1 : a < 4294967296) (hk : Dc.dop a = 0) : RDec a := by
  intro w
  obtain ⟨DV0, DO0⟩ := dec_none hk
  have DV : Hid _ := DV0
  have DO : Hid _ := DO0
  have HK : Hid _ := hk
  clear DV0 DO0 hk
  go_enter Tryd.func60, Tryd.ntmps60
  go_wp2_with fail
  refine (form_zero h0 h1 HK.out).mono ?_
  rintro e w1 ⟨⟨l, rfl⟩, g⟩
  obtain ⟨f1, f2, f3⟩ := fresh_of g
  have r0 := f1 0 _ rfl
  have r1 := f1 1 _ rfl
  have r2 := f1 2 _ rfl
  have r3 := f1 3 _ rfl
  have r4 := f1 4 _ rfl
  have G : Hid (Gr w w1) := ((Gr.refl _).alloc _ _).trans g
  clear f1 g
  go_wp2_with fail
  refine bodyPost_ret (v := .tuple #[insV 0 0 0 0 0, .bool false]) (by simp [results, Tryd.results60, go_sem, r0, r1, r2, r3, r4, f3, insV]) rfl ⟨by rw [DV.out, DO.out], ?_⟩
  exact (((((G.out.setCell (by simp) _).setCell (by simp) _).setCell (by simp) _).setCell (by simp) _).setCell (by simp) _)
set_option maxHeartbeats 2000000 in
theorem rdec_1 (a k : Int) (h0 : 0 ≤ a) (h1 : a < 4294967296) (hk : Dc.dop a = k) (hk1 : 1 ≤ k) (hk2 : k ≤ 59) (hf : Dc.frm k = 1) : RDec a := by
  intro w
  obtain ⟨DV0, DO0⟩ := dec_some hk hk1
  rw [hf] at DV0
  have DV : Hid _ := DV0
  have DO : Hid _ := DO0
  have HK : Hid _ := hk
  have HF : Hid _ := hf
  clear DV0 DO0 hk hf
  have sb := Wd.sg_bd h0 h1
  have sb2 : -2147483648 ≤ Wd.sg a - a % 4096 := by unfold Wd.sg; split <;> omega
  go_enter Tryd.func60, Tryd.ntmps60
  go_wp2_with fail
  refine (form_some (l := 85) h0 h1 HK.out hk1 HF.out (by decide)).mono ?_
  rintro e w1 ⟨rfl, g⟩
  obtain ⟨f1, f2, f3⟩ := fresh_of g
  have r0 := f1 0 _ rfl
  have r1 := f1 1 _ rfl
  have r2 := f1 2 _ rfl
  have r3 := f1 3 _ rfl
  have r4 := f1 4 _ rfl
  have G : Hid (Gr w w1) := ((Gr.refl _).alloc _ _).trans g
  clear f1 g
  go_wp2_with fail
  refine (Cut_7_11 a _ h0 h1).mono ?_
  rintro e w' ⟨rfl, rfl⟩
  go_wp2_with fail
  refine (Cut_15_19 a _ h0 h1).mono ?_
  rintro e w' ⟨rfl, rfl⟩
  go_wp2_with fail
  refine (Cut_20_24 a _ h0 h1).mono ?_
  rintro e w' ⟨rfl, rfl⟩
  go_wp2_with fail
  refine (Cut_31_31 a _ h0 h1).mono ?_
  rintro e w' ⟨rfl, rfl⟩
  go_wp2_with fail
  refine (Signed_any a _ h0 h1).mono ?_
  rintro e w' ⟨rfl, rfl⟩
  go_wp2_with fail
  refine (Cut_0_11 a _ h0 h1).mono ?_
  rintro e w' ⟨rfl, rfl⟩
  go_wp2_with fail
  refine bodyPost_ret (v := .tuple #[insV k (Dc.rdF 1 a) (Dc.rs1F 1 a) (Dc.rs2F 1 a) (Dc.immF 1 a), .bool true]) (by simp [results, Tryd.results60, go_sem, r0, r1, r2, r3, r4, f3, insV, Dc.rdF, Dc.rs1F, Dc.rs2F, Dc.hasRd, Dc.hasRs1, Dc.hasRs2, Dc.immF]) rfl ⟨by rw [DV.out, DO.out], ?_⟩
  exact (((((G.out.setCell (by simp) _).setCell (by simp) _).setCell (by simp) _).setCell (by simp) _).setCell (by simp) _).alloc _ _
set_option maxHeartbeats 2000000 in
theorem rdec_2 (a k : Int) (h0 : 0 ≤ a) (h1 : a < 4294967296) (hk : Dc.dop a = k) (hk1 : 1 ≤ k) (hk2 : k ≤ 59) (hf : Dc.frm k = 2) : RDec a := by
  intro w
  obtain ⟨DV0, DO0⟩ := dec_some hk hk1
  rw [hf] at DV0
  have DV : Hid _ := DV0
  have DO : Hid _ := DO0
  have HK : Hid _ := hk
  have HF : Hid _ := hf
  clear DV0 DO0 hk hf
  go_enter Tryd.func60, Tryd.ntmps60
  go_wp2_with fail
  refine (form_some (l := 74) h0 h1 HK.out hk1 HF.out (by decide)).mono ?_
  rintro e w1 ⟨rfl, g⟩
  obtain ⟨f1, f2, f3⟩ := fresh_of g
  have r0 := f1 0 _ rfl
  have r1 := f1 1 _ rfl
  have r2 := f1 2 _ rfl
  have r3 := f1 3 _ rfl
  have r4 := f1 4 _ rfl
  have G : Hid (Gr w w1) := ((Gr.refl _).alloc _ _).trans g
  clear f1 g
  go_wp2_with fail
  refine (Cut_7_11 a _ h0 h1).mono ?_
  rintro e w' ⟨rfl, rfl⟩
  go_wp2_with fail
  refine (Cut_15_19 a _ h0 h1).mono ?_
  rintro e w' ⟨rfl, rfl⟩
  go_wp2_with fail
  refine (Cut_20_24 a _ h0 h1).mono ?_
  rintro e w' ⟨rfl, rfl⟩
  go_wp2_with fail
  refine (Cut_31_31 a _ h0 h1).mono ?_
  rintro e w' ⟨rfl, rfl⟩
  go_wp2_with fail
  refine (Cut_12_19 a _ h0 h1).mono ?_
  rintro e w' ⟨rfl, rfl⟩
  go_wp2_with fail
  refine (Cut_20_20 a _ h0 h1).mono ?_
  rintro e w' ⟨rfl, rfl⟩
  go_wp2_with fail
  refine (Cut_21_30 a _ h0 h1).mono ?_
  rintro e w' ⟨rfl, rfl⟩
  go_wp2_with fail
  refine (signed_21 _ _ (by omega) (by omega)).mono ?_
  rintro e w' ⟨rfl, rfl⟩
  go_wp2_with fail
  refine bodyPost_ret (v := .tuple #[insV k (Dc.rdF 2 a) (Dc.rs1F 2 a) (Dc.rs2F 2 a) (Dc.immF 2 a), .bool true]) (by simp [results, Tryd.results60, go_sem, r0, r1, r2, r3, r4, f3, insV, Dc.rdF, Dc.rs1F, Dc.rs2F, Dc.hasRd, Dc.hasRs1, Dc.hasRs2, Dc.immF]) rfl ⟨by rw [DV.out, DO.out], ?_⟩
  exact (((((G.out.setCell (by simp) _).setCell (by simp) _).setCell (by simp) _).setCell (by simp) _).setCell (by simp) _).alloc _ _
set_option maxHeartbeats 2000000 in
theorem rdec_3 (a k : Int) (h0 : 0 ≤ a) (h1 : a < 4294967296) (hk : Dc.dop a = k) (hk1 : 1 ≤ k) (hk2 : k ≤ 59) (hf : Dc.frm k = 3) : RDec a := by
  intro w
  obtain ⟨DV0, DO0⟩ := dec_some hk hk1
  rw [hf] at DV0
  have DV : Hid _ := DV0
  have DO : Hid _ := DO0
  have HK : Hid _ := hk
  have HF : Hid _ := hf
  clear DV0 DO0 hk hf
  go_enter Tryd.func60, Tryd.ntmps60
  go_wp2_with fail
  refine (form_some (l := 73) h0 h1 HK.out hk1 HF.out (by decide)).mono ?_
  rintro e w1 ⟨rfl, g⟩
  obtain ⟨f1, f2, f3⟩ := fresh_of g
  have r0 := f1 0 _ rfl
  have r1 := f1 1 _ rfl
  have r2 := f1 2 _ rfl
  have r3 := f1 3 _ rfl
  have r4 := f1 4 _ rfl
  have G : Hid (Gr w w1) := ((Gr.refl _).alloc _ _).trans g
  clear f1 g
  go_wp2_with fail
  refine (Cut_7_11 a _ h0 h1).mono ?_
  rintro e w' ⟨rfl, rfl⟩
  go_wp2_with fail
  refine (Cut_15_19 a _ h0 h1).mono ?_
  rintro e w' ⟨rfl, rfl⟩
  go_wp2_with fail
  refine (Cut_20_24 a _ h0 h1).mono ?_
  rintro e w' ⟨rfl, rfl⟩
  go_wp2_with fail
  refine (Cut_31_31 a _ h0 h1).mono ?_
  rintro e w' ⟨rfl, rfl⟩
  go_wp2_with fail
  refine (Cut_20_31 a _ h0 h1).mono ?_
  rintro e w' ⟨rfl, rfl⟩
  go_wp2_with fail
  refine (signed_12 _ _ (by omega) (by omega)).mono ?_
  rintro e w' ⟨rfl, rfl⟩
  go_wp2_with fail
  refine bodyPost_ret (v := .tuple #[insV k (Dc.rdF 3 a) (Dc.rs1F 3 a) (Dc.rs2F 3 a) (Dc.immF 3 a), .bool true]) (by simp [results, Tryd.results60, go_sem, r0, r1, r2, r3, r4, f3, insV, Dc.rdF, Dc.rs1F, Dc.rs2F, Dc.hasRd, Dc.hasRs1, Dc.hasRs2, Dc.immF]) rfl ⟨by rw [DV.out, DO.out], ?_⟩
  exact (((((G.out.setCell (by simp) _).setCell (by simp) _).setCell (by simp) _).setCell (by simp) _).setCell (by simp) _).alloc _ _
set_option maxHeartbeats 2000000 in
theorem rdec_4 (a k : Int) (h0 : 0 ≤ a) (h1 : a < 4294967296) (hk : Dc.dop a = k) (hk1 : 1 ≤ k) (hk2 : k ≤ 59) (hf : Dc.frm k = 4) : RDec a := by
  intro w
  obtain ⟨DV0, DO0⟩ := dec_some hk hk1
  rw [hf] at DV0
  have DV : Hid _ := DV0
  have DO : Hid _ := DO0
  have HK : Hid _ := hk
  have HF : Hid _ := hf
  clear DV0 DO0 hk hf
  go_enter Tryd.func60, Tryd.ntmps60
  go_wp2_with fail
  refine (form_some (l := 72) h0 h1 HK.out hk1 HF.out (by decide)).mono ?_
  rintro e w1 ⟨rfl, g⟩
  obtain ⟨f1, f2, f3⟩ := fresh_of g
  have r0 := f1 0 _ rfl
  have r1 := f1 1 _ rfl
  have r2 := f1 2 _ rfl
  have r3 := f1 3 _ rfl
  have r4 := f1 4 _ rfl
  have G : Hid (Gr w w1) := ((Gr.refl _).alloc _ _).trans g
  clear f1 g
  go_wp2_with fail
  refine (Cut_7_11 a _ h0 h1).mono ?_
  rintro e w' ⟨rfl, rfl⟩
  go_wp2_with fail
  refine (Cut_15_19 a _ h0 h1).mono ?_
  rintro e w' ⟨rfl, rfl⟩
  go_wp2_with fail
  refine (Cut_20_24 a _ h0 h1).mono ?_
  rintro e w' ⟨rfl, rfl⟩
  go_wp2_with fail
  refine (Cut_31_31 a _ h0 h1).mono ?_
  rintro e w' ⟨rfl, rfl⟩
  go_wp2_with fail
  refine bodyPost_ret (v := .tuple #[insV k (Dc.rdF 4 a) (Dc.rs1F 4 a) (Dc.rs2F 4 a) (Dc.immF 4 a), .bool true]) (by simp [results, Tryd.results60, go_sem, r0, r1, r2, r3, r4, f3, insV, Dc.rdF, Dc.rs1F, Dc.rs2F, Dc.hasRd, Dc.hasRs1, Dc.hasRs2, Dc.immF]) rfl ⟨by rw [DV.out, DO.out], ?_⟩
  exact (((((G.out.setCell (by simp) _).setCell (by simp) _).setCell (by simp) _).setCell (by simp) _).setCell (by simp) _).alloc _ _
set_option maxHeartbeats 2000000 in
theorem rdec_5 (a k : Int) (h0 : 0 ≤ a) (h1 : a < 4294967296) (hk : Dc.dop a = k) (hk1 : 1 ≤ k) (hk2 : k ≤ 59) (hf : Dc.frm k = 5) : RDec a := by
  intro w
  obtain ⟨DV0, DO0⟩ := dec_some hk hk1
  rw [hf] at DV0
  have DV : Hid _ := DV0
  have DO : Hid _ := DO0
  have HK : Hid _ := hk
  have HF : Hid _ := hf
  clear DV0 DO0 hk hf
  go_enter Tryd.func60, Tryd.ntmps60
  go_wp2_with fail
  refine (form_some (l := 66) h0 h1 HK.out hk1 HF.out (by decide)).mono ?_
  rintro e w1 ⟨rfl, g⟩
  obtain ⟨f1, f2, f3⟩ := fresh_of g
  have r0 := f1 0 _ rfl
  have r1 := f1 1 _ rfl
  have r2 := f1 2 _ rfl
  have r3 := f1 3 _ rfl
  have r4 := f1 4 _ rfl
  have G : Hid (Gr w w1) := ((Gr.refl _).alloc _ _).trans g
  clear f1 g
  go_wp2_with fail
  refine (Cut_7_11 a _ h0 h1).mono ?_
  rintro e w' ⟨rfl, rfl⟩
  go_wp2_with fail
  refine (Cut_15_19 a _ h0 h1).mono ?_
  rintro e w' ⟨rfl, rfl⟩
  go_wp2_with fail
  refine (Cut_20_24 a _ h0 h1).mono ?_
  rintro e w' ⟨rfl, rfl⟩
  go_wp2_with fail
  refine (Cut_31_31 a _ h0 h1).mono ?_
  rintro e w' ⟨rfl, rfl⟩
  go_wp2_with fail
  refine (Cut_7_7 a _ h0 h1).mono ?_
  rintro e w' ⟨rfl, rfl⟩
  go_wp2_with fail
  refine (Cut_25_30 a _ h0 h1).mono ?_
  rintro e w' ⟨rfl, rfl⟩
  go_wp2_with fail
  refine (Cut_8_11 a _ h0 h1).mono ?_
  rintro e w' ⟨rfl, rfl⟩
  go_wp2_with fail
  refine (signed_13 _ _ (by omega) (by omega)).mono ?_
  rintro e w' ⟨rfl, rfl⟩
  go_wp2_with fail
  refine bodyPost_ret (v := .tuple #[insV k (Dc.rdF 5 a) (Dc.rs1F 5 a) (Dc.rs2F 5 a) (Dc.immF 5 a), .bool true]) (by simp [results, Tryd.results60, go_sem, r0, r1, r2, r3, r4, f3, insV, Dc.rdF, Dc.rs1F, Dc.rs2F, Dc.hasRd, Dc.hasRs1, Dc.hasRs2, Dc.immF]) rfl ⟨by rw [DV.out, DO.out], ?_⟩
  exact (((((G.out.setCell (by simp) _).setCell (by simp) _).setCell (by simp) _).setCell (by simp) _).setCell (by simp) _).alloc _ _
set_option maxHeartbeats 2000000 in
theorem rdec_6 (a k : Int) (h0 : 0 ≤ a) (h1 : a < 4294967296) (hk : Dc.dop a = k) (hk1 : 1 ≤ k) (hk2 : k ≤ 59) (hf : Dc.frm k = 6) : RDec a := by
  intro w
  obtain ⟨DV0, DO0⟩ := dec_some hk hk1
  rw [hf] at DV0
  have DV : Hid _ := DV0
  have DO : Hid _ := DO0
  have HK : Hid _ := hk
  have HF : Hid _ := hf
  clear DV0 DO0 hk hf
  go_enter Tryd.func60, Tryd.ntmps60
  go_wp2_with fail
  refine (form_some (l := 83) h0 h1 HK.out hk1 HF.out (by decide)).mono ?_
  rintro e w1 ⟨rfl, g⟩
  obtain ⟨f1, f2, f3⟩ := fresh_of g
  have r0 := f1 0 _ rfl
  have r1 := f1 1 _ rfl
  have r2 := f1 2 _ rfl
  have r3 := f1 3 _ rfl
  have r4 := f1 4 _ rfl
  have G : Hid (Gr w w1) := ((Gr.refl _).alloc _ _).trans g
  clear f1 g
  go_wp2_with fail
  refine (Cut_7_11 a _ h0 h1).mono ?_
  rintro e w' ⟨rfl, rfl⟩
  go_wp2_with fail
  refine (Cut_15_19 a _ h0 h1).mono ?_
  rintro e w' ⟨rfl, rfl⟩
  go_wp2_with fail
  refine (Cut_20_24 a _ h0 h1).mono ?_
  rintro e w' ⟨rfl, rfl⟩
  go_wp2_with fail
  refine (Cut_31_31 a _ h0 h1).mono ?_
  rintro e w' ⟨rfl, rfl⟩
  go_wp2_with fail
  refine (Cut_25_31 a _ h0 h1).mono ?_
  rintro e w' ⟨rfl, rfl⟩
  go_wp2_with fail
  refine (Cut_7_11 a _ h0 h1).mono ?_
  rintro e w' ⟨rfl, rfl⟩
  go_wp2_with fail
  refine (signed_12 _ _ (by omega) (by omega)).mono ?_
  rintro e w' ⟨rfl, rfl⟩
  go_wp2_with fail
  refine bodyPost_ret (v := .tuple #[insV k (Dc.rdF 6 a) (Dc.rs1F 6 a) (Dc.rs2F 6 a) (Dc.immF 6 a), .bool true]) (by simp [results, Tryd.results60, go_sem, r0, r1, r2, r3, r4, f3, insV, Dc.rdF, Dc.rs1F, Dc.rs2F, Dc.hasRd, Dc.hasRs1, Dc.hasRs2, Dc.immF]) rfl ⟨by rw [DV.out, DO.out], ?_⟩
  exact (((((G.out.setCell (by simp) _).setCell (by simp) _).setCell (by simp) _).setCell (by simp) _).setCell (by simp) _).alloc _ _
set_option maxHeartbeats 2000000 in
theorem rdec_7 (a k : Int) (h0 : 0 ≤ a) (h1 : a < 4294967296) (hk : Dc.dop a = k) (hk1 : 1 ≤ k) (hk2 : k ≤ 59) (hf : Dc.frm k = 7) : RDec a := by
  intro w
  obtain ⟨DV0, DO0⟩ := dec_some hk hk1
  rw [hf] at DV0
  have DV : Hid _ := DV0
  have DO : Hid _ := DO0
  have HK : Hid _ := hk
  have HF : Hid _ := hf
  clear DV0 DO0 hk hf
  go_enter Tryd.func60, Tryd.ntmps60
  go_wp2_with fail
  refine (form_some (l := 82) h0 h1 HK.out hk1 HF.out (by decide)).mono ?_
  rintro e w1 ⟨rfl, g⟩
  obtain ⟨f1, f2, f3⟩ := fresh_of g
  have r0 := f1 0 _ rfl
  have r1 := f1 1 _ rfl
  have r2 := f1 2 _ rfl
  have r3 := f1 3 _ rfl
  have r4 := f1 4 _ rfl
  have G : Hid (Gr w w1) := ((Gr.refl _).alloc _ _).trans g
  clear f1 g
  go_wp2_with fail
  refine (Cut_7_11 a _ h0 h1).mono ?_
  rintro e w' ⟨rfl, rfl⟩
  go_wp2_with fail
  refine (Cut_15_19 a _ h0 h1).mono ?_
  rintro e w' ⟨rfl, rfl⟩
  go_wp2_with fail
  refine (Cut_20_24 a _ h0 h1).mono ?_
  rintro e w' ⟨rfl, rfl⟩
  go_wp2_with fail
  refine (Cut_31_31 a _ h0 h1).mono ?_
  rintro e w' ⟨rfl, rfl⟩
  go_wp2_with fail
  refine bodyPost_ret (v := .tuple #[insV k (Dc.rdF 7 a) (Dc.rs1F 7 a) (Dc.rs2F 7 a) (Dc.immF 7 a), .bool true]) (by simp [results, Tryd.results60, go_sem, r0, r1, r2, r3, r4, f3, insV, Dc.rdF, Dc.rs1F, Dc.rs2F, Dc.hasRd, Dc.hasRs1, Dc.hasRs2, Dc.immF]) rfl ⟨by rw [DV.out, DO.out], ?_⟩
  exact (((((G.out.setCell (by simp) _).setCell (by simp) _).setCell (by simp) _).setCell (by simp) _).setCell (by simp) _).alloc _ _
set_option maxHeartbeats 2000000 in
theorem rdec_8 (a k : Int) (h0 : 0 ≤ a) (h1 : a < 4294967296) (hk : Dc.dop a = k) (hk1 : 1 ≤ k) (hk2 : k ≤ 59) (hf : Dc.frm k = 8) : RDec a := by
  intro w
  obtain ⟨DV0, DO0⟩ := dec_some hk hk1
  rw [hf] at DV0
  have DV : Hid _ := DV0
  have DO : Hid _ := DO0
  have HK : Hid _ := hk
  have HF : Hid _ := hf
  clear DV0 DO0 hk hf
  go_enter Tryd.func60, Tryd.ntmps60
  go_wp2_with fail
  refine (form_some (l := 65) h0 h1 HK.out hk1 HF.out (by decide)).mono ?_
  rintro e w1 ⟨rfl, g⟩
  obtain ⟨f1, f2, f3⟩ := fresh_of g
  have r0 := f1 0 _ rfl
  have r1 := f1 1 _ rfl
  have r2 := f1 2 _ rfl
  have r3 := f1 3 _ rfl
  have r4 := f1 4 _ rfl
  have G : Hid (Gr w w1) := ((Gr.refl _).alloc _ _).trans g
  clear f1 g
  go_wp2_with fail
  refine (Cut_7_11 a _ h0 h1).mono ?_
  rintro e w' ⟨rfl, rfl⟩
  go_wp2_with fail
  refine (Cut_15_19 a _ h0 h1).mono ?_
  rintro e w' ⟨rfl, rfl⟩
  go_wp2_with fail
  refine (Cut_20_24 a _ h0 h1).mono ?_
  rintro e w' ⟨rfl, rfl⟩
  go_wp2_with fail
  refine (Cut_31_31 a _ h0 h1).mono ?_
  rintro e w' ⟨rfl, rfl⟩
  go_wp2_with fail
  refine (Cut_25_26 a _ h0 h1).mono ?_
  rintro e w' ⟨rfl, rfl⟩
  go_wp2_with fail
  refine bodyPost_ret (v := .tuple #[insV k (Dc.rdF 8 a) (Dc.rs1F 8 a) (Dc.rs2F 8 a) (Dc.immF 8 a), .bool true]) (by simp [results, Tryd.results60, go_sem, r0, r1, r2, r3, r4, f3, insV, Dc.rdF, Dc.rs1F, Dc.rs2F, Dc.hasRd, Dc.hasRs1, Dc.hasRs2, Dc.immF]) rfl ⟨by rw [DV.out, DO.out], ?_⟩
  exact (((((G.out.setCell (by simp) _).setCell (by simp) _).setCell (by simp) _).setCell (by simp) _).setCell (by simp) _).alloc _ _
set_option maxHeartbeats 2000000 in
theorem rdec_9 (a k : Int) (h0 : 0 ≤ a) (h1 : a < 4294967296) (hk : Dc.dop a = k) (hk1 : 1 ≤ k) (hk2 : k ≤ 59) (hf : Dc.frm k = 9) : RDec a := by
  intro w
  obtain ⟨DV0, DO0⟩ := dec_some hk hk1
  rw [hf] at DV0
  have DV : Hid _ := DV0
  have DO : Hid _ := DO0
  have HK : Hid _ := hk
  have HF : Hid _ := hf
  clear DV0 DO0 hk hf
  go_enter Tryd.func60, Tryd.ntmps60
  go_wp2_with fail
  refine (form_some (l := 69) h0 h1 HK.out hk1 HF.out (by decide)).mono ?_
  rintro e w1 ⟨rfl, g⟩
  obtain ⟨f1, f2, f3⟩ := fresh_of g
  have r0 := f1 0 _ rfl
  have r1 := f1 1 _ rfl
  have r2 := f1 2 _ rfl
  have r3 := f1 3 _ rfl
  have r4 := f1 4 _ rfl
  have G : Hid (Gr w w1) := ((Gr.refl _).alloc _ _).trans g
  clear f1 g
  go_wp2_with fail
  refine bodyPost_ret (v := .tuple #[insV k (Dc.rdF 9 a) (Dc.rs1F 9 a) (Dc.rs2F 9 a) (Dc.immF 9 a), .bool true]) (by simp [results, Tryd.results60, go_sem, r0, r1, r2, r3, r4, f3, insV, Dc.rdF, Dc.rs1F, Dc.rs2F, Dc.hasRd, Dc.hasRs1, Dc.hasRs2, Dc.immF]) rfl ⟨by rw [DV.out, DO.out], ?_⟩
  exact (((((G.out.setCell (by simp) _).setCell (by simp) _).setCell (by simp) _).setCell (by simp) _).setCell (by simp) _).alloc _ _
theorem RDecode_any (a : Int) (h0 : 0 ≤ a) (h1 : a < 4294967296) : RDec a := by
  by_cases hk : Dc.dop a = 0
  · exact rdec_none a h0 h1 hk
  have hb := dop_bd h0 h1
  have hf := frm_pos (Dc.dop a) (by omega) hb.2
  have h : Dc.frm (Dc.dop a) = 1 ∨ Dc.frm (Dc.dop a) = 2 ∨ Dc.frm (Dc.dop a) = 3 ∨ Dc.frm (Dc.dop a) = 4 ∨ Dc.frm (Dc.dop a) = 5 ∨ Dc.frm (Dc.dop a) = 6 ∨ Dc.frm (Dc.dop a) = 7 ∨ Dc.frm (Dc.dop a) = 8 ∨ Dc.frm (Dc.dop a) = 9 := by
    have := Dc.frm_bd (Dc.dop a); omega
  rcases h with h | h | h | h | h | h | h | h | h
  · exact rdec_1 a _ h0 h1 rfl (by omega) hb.2 h
  · exact rdec_2 a _ h0 h1 rfl (by omega) hb.2 h
  · exact rdec_3 a _ h0 h1 rfl (by omega) hb.2 h
  · exact rdec_4 a _ h0 h1 rfl (by omega) hb.2 h
  · exact rdec_5 a _ h0 h1 rfl (by omega) hb.2 h
  · exact rdec_6 a _ h0 h1 rfl (by omega) hb.2 h
  · exact rdec_7 a _ h0 h1 rfl (by omega) hb.2 h
  · exact rdec_8 a _ h0 h1 rfl (by omega) hb.2 h
  · exact rdec_9 a _ h0 h1 rfl (by omega) hb.2 h
end Go.Proofs.YtdiofidmlgliiaaDoor.Re
