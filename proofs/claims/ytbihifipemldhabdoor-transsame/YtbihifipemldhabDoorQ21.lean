/-
  Ref2c, Ref4g, Sp: texts of ours that lie in one file.
-/
import Derived.Test.YtbihifipemldhabDoorQ20
import Derived.Test.YtbihifipemldhabDoorQ13
import Derived.Test.YtbihifipemldhabDoorQ15
import Derived.Test.YtbihifipemldhabDoorQ16
import Derived.Test.YtbihifipemldhabDoorQ17
import Derived.Test.YtbihifipemldhabDoorQ18
import Derived.Test.YtbihifipemldhabDoorQ19
import Derived.Test.YtbihifipemldhabDoorQ10
import Derived.Maps.AppendAt
set_option linter.unusedVariables false
set_option linter.unusedSimpArgs false
set_option maxHeartbeats 8000000
set_option maxRecDepth 100000
/-
  What the document's chapter 2 answers of a word: the same instruction that 'Dc' tells (B1, B3). Conditions: words are from 0 to 2^32 - 1.
-/
namespace Go.Proofs.YtbihifipemldhabDoor.Re
open Go.ChangeShapes Go.WideShapes Go.ChangeAt Go.RowKit Dw

theorem dop_bd {a : Int} (h0 : 0 ≤ a) (h1 : a < 4294967296) : 0 ≤ Dc.dop a ∧ Dc.dop a ≤ 59 := by
  have := Dc.raw_bd h0 h1
  unfold Dc.dop; split <;> omega
theorem frm_pos (k : Int) (h1 : 1 ≤ k) (h2 : k ≤ 59) : 1 ≤ Dc.frm k := by
  unfold Dc.frm; repeat' split
  all_goals omega
/-- What the document's Decode answers of a word. -/
def RDec (a : Int) : Prop := ∀ w : World, Calls Tryd.prog 30 #[.int .u32 a] w fun e w' => e = .returned (.tuple #[decV a, .bool (decOk a)]) ∧ Gr w w'
theorem form_some {a k f l : Int} {w : World} (h0 : 0 ≤ a) (h1 : a < 4294967296) (hk : Dc.dop a = k) (hk1 : 1 ≤ k) (hf : Dc.frm k = f) (hl : letter f = l) :
    Calls Tryd.prog 52 #[.int .u32 a] w fun e w' => e = .returned (.tuple #[.int .i64 k, .int .u8 l]) ∧ Gr w w' := by
  refine (form_any a h0 h1 w).mono ?_
  rintro e w' ⟨⟨l', rfl, h⟩, g⟩
  have e1 := h (by omega)
  rw [hk, hf, hl] at e1
  subst e1
  refine ⟨?_, g⟩
  unfold rop; rw [hk, if_neg (by omega)]
theorem form_zero {a : Int} {w : World} (h0 : 0 ≤ a) (h1 : a < 4294967296) (hk : Dc.dop a = 0) :
    Calls Tryd.prog 52 #[.int .u32 a] w fun e w' => (∃ l, e = .returned (.tuple #[.int .i64 (-1), .int .u8 l])) ∧ Gr w w' := by
  refine (form_any a h0 h1 w).mono ?_
  rintro e w' ⟨⟨l', rfl, h⟩, g⟩
  refine ⟨⟨l', ?_⟩, g⟩
  unfold rop; rw [hk]; rfl

theorem rdec_none (a : Int) (h0 : 0 ≤ a) (h1 : a < 4294967296) (hk : Dc.dop a = 0) : RDec a := by
  intro w
  obtain ⟨DV0, DO0⟩ := dec_none hk
  have DV : Hid (decV a = _) := DV0
  have DO : Hid (decOk a = false) := DO0
  have HK : Hid (Dc.dop a = 0) := hk
  clear DV0 DO0 hk
  go_enter Tryd.func30, Tryd.ntmps30
  go_wp2_with fail
  refine (form_zero h0 h1 HK.out).mono ?_
  rintro e w1 ⟨⟨l, rfl⟩, g⟩
  obtain ⟨f1, f2, f3⟩ := fresh_of g
  have r0 := f1 0 _ rfl
  have r1 := f1 1 _ rfl
  have r2 := f1 2 _ rfl
  have r3 := f1 3 _ rfl
  have r4 := f1 4 _ rfl
  have G : Hid (Gr w w1) := ((Gr.refl _).alloc _ _).trans g
  clear f1 g
  go_wp2_with fail
  refine bodyPost_ret (v := .tuple #[insV 0 0 0 0 0, .bool false]) (by simp [results, Tryd.results30, go_sem, r0, r1, r2, r3, r4, f3, insV]) rfl ⟨by rw [DV.out, DO.out], ?_⟩
  exact (((((G.out.setCell (by simp) _).setCell (by simp) _).setCell (by simp) _).setCell (by simp) _).setCell (by simp) _)
theorem rdec_1 (a k : Int) (h0 : 0 ≤ a) (h1 : a < 4294967296) (hk : Dc.dop a = k) (hk1 : 1 ≤ k) (hk2 : k ≤ 59) (hf : Dc.frm k = 1) : RDec a := by
  intro w
  obtain ⟨DV0, DO0⟩ := dec_some hk hk1
  rw [hf] at DV0
  have DV : Hid (decV a = _) := DV0
  have DO : Hid (decOk a = true) := DO0
  have HK : Hid (Dc.dop a = k) := hk
  have HF : Hid (Dc.frm k = 1) := hf
  clear DV0 DO0 hk hf
  have sb := Wd.sg_bd h0 h1
  have sb2 : -2147483648 ≤ Wd.sg a - a % 4096 := by unfold Wd.sg; split <;> omega
  go_enter Tryd.func30, Tryd.ntmps30
  go_wp2_with fail
  refine (form_some (l := 85) h0 h1 HK.out hk1 HF.out (by decide)).mono ?_
  rintro e w1 ⟨rfl, g⟩
  obtain ⟨f1, f2, f3⟩ := fresh_of g
  have r0 := f1 0 _ rfl
  have r1 := f1 1 _ rfl
  have r2 := f1 2 _ rfl
  have r3 := f1 3 _ rfl
  have r4 := f1 4 _ rfl
  have G : Hid (Gr w w1) := ((Gr.refl _).alloc _ _).trans g
  clear f1 g
  go_wp2_with fail
  refine (Cut_7_11 a _ h0 h1).mono ?_
  rintro e w' ⟨rfl, rfl⟩
  go_wp2_with fail
  refine (Cut_15_19 a _ h0 h1).mono ?_
  rintro e w' ⟨rfl, rfl⟩
  go_wp2_with fail
  refine (Cut_20_24 a _ h0 h1).mono ?_
  rintro e w' ⟨rfl, rfl⟩
  go_wp2_with fail
  refine (Cut_31_31 a _ h0 h1).mono ?_
  rintro e w' ⟨rfl, rfl⟩
  go_wp2_with fail
  refine (Signed_any a _ h0 h1).mono ?_
  rintro e w' ⟨rfl, rfl⟩
  go_wp2_with fail
  refine (Cut_0_11 a _ h0 h1).mono ?_
  rintro e w' ⟨rfl, rfl⟩
  go_wp2_with fail
  refine bodyPost_ret (v := .tuple #[insV k (Dc.rdF 1 a) (Dc.rs1F 1 a) (Dc.rs2F 1 a) (Dc.immF 1 a), .bool true]) (by simp [results, Tryd.results30, go_sem, r0, r1, r2, r3, r4, f3, insV, Dc.rdF, Dc.rs1F, Dc.rs2F, Dc.hasRd, Dc.hasRs1, Dc.hasRs2, Dc.immF]) rfl ⟨by rw [DV.out, DO.out], ?_⟩
  exact (((((G.out.setCell (by simp) _).setCell (by simp) _).setCell (by simp) _).setCell (by simp) _).setCell (by simp) _).alloc _ _
theorem rdec_2 (a k : Int) (h0 : 0 ≤ a) (h1 : a < 4294967296) (hk : Dc.dop a = k) (hk1 : 1 ≤ k) (hk2 : k ≤ 59) (hf : Dc.frm k = 2) : RDec a := by
  intro w
  obtain ⟨DV0, DO0⟩ := dec_some hk hk1
  rw [hf] at DV0
  have DV : Hid (decV a = _) := DV0
  have DO : Hid (decOk a = true) := DO0
  have HK : Hid (Dc.dop a = k) := hk
  have HF : Hid (Dc.frm k = 2) := hf
  clear DV0 DO0 hk hf
  go_enter Tryd.func30, Tryd.ntmps30
  go_wp2_with fail
  refine (form_some (l := 74) h0 h1 HK.out hk1 HF.out (by decide)).mono ?_
  rintro e w1 ⟨rfl, g⟩
  obtain ⟨f1, f2, f3⟩ := fresh_of g
  have r0 := f1 0 _ rfl
  have r1 := f1 1 _ rfl
  have r2 := f1 2 _ rfl
  have r3 := f1 3 _ rfl
  have r4 := f1 4 _ rfl
  have G : Hid (Gr w w1) := ((Gr.refl _).alloc _ _).trans g
  clear f1 g
  go_wp2_with fail
  refine (Cut_7_11 a _ h0 h1).mono ?_
  rintro e w' ⟨rfl, rfl⟩
  go_wp2_with fail
  refine (Cut_15_19 a _ h0 h1).mono ?_
  rintro e w' ⟨rfl, rfl⟩
  go_wp2_with fail
  refine (Cut_20_24 a _ h0 h1).mono ?_
  rintro e w' ⟨rfl, rfl⟩
  go_wp2_with fail
  refine (Cut_31_31 a _ h0 h1).mono ?_
  rintro e w' ⟨rfl, rfl⟩
  go_wp2_with fail
  refine (Cut_12_19 a _ h0 h1).mono ?_
  rintro e w' ⟨rfl, rfl⟩
  go_wp2_with fail
  refine (Cut_20_20 a _ h0 h1).mono ?_
  rintro e w' ⟨rfl, rfl⟩
  go_wp2_with fail
  refine (Cut_21_30 a _ h0 h1).mono ?_
  rintro e w' ⟨rfl, rfl⟩
  go_wp2_with fail
  refine (signed_21 _ _ (by omega) (by omega)).mono ?_
  rintro e w' ⟨rfl, rfl⟩
  go_wp2_with fail
  refine bodyPost_ret (v := .tuple #[insV k (Dc.rdF 2 a) (Dc.rs1F 2 a) (Dc.rs2F 2 a) (Dc.immF 2 a), .bool true]) (by simp [results, Tryd.results30, go_sem, r0, r1, r2, r3, r4, f3, insV, Dc.rdF, Dc.rs1F, Dc.rs2F, Dc.hasRd, Dc.hasRs1, Dc.hasRs2, Dc.immF]) rfl ⟨by rw [DV.out, DO.out], ?_⟩
  exact (((((G.out.setCell (by simp) _).setCell (by simp) _).setCell (by simp) _).setCell (by simp) _).setCell (by simp) _).alloc _ _
theorem rdec_3 (a k : Int) (h0 : 0 ≤ a) (h1 : a < 4294967296) (hk : Dc.dop a = k) (hk1 : 1 ≤ k) (hk2 : k ≤ 59) (hf : Dc.frm k = 3) : RDec a := by
  intro w
  obtain ⟨DV0, DO0⟩ := dec_some hk hk1
  rw [hf] at DV0
  have DV : Hid (decV a = _) := DV0
  have DO : Hid (decOk a = true) := DO0
  have HK : Hid (Dc.dop a = k) := hk
  have HF : Hid (Dc.frm k = 3) := hf
  clear DV0 DO0 hk hf
  go_enter Tryd.func30, Tryd.ntmps30
  go_wp2_with fail
  refine (form_some (l := 73) h0 h1 HK.out hk1 HF.out (by decide)).mono ?_
  rintro e w1 ⟨rfl, g⟩
  obtain ⟨f1, f2, f3⟩ := fresh_of g
  have r0 := f1 0 _ rfl
  have r1 := f1 1 _ rfl
  have r2 := f1 2 _ rfl
  have r3 := f1 3 _ rfl
  have r4 := f1 4 _ rfl
  have G : Hid (Gr w w1) := ((Gr.refl _).alloc _ _).trans g
  clear f1 g
  go_wp2_with fail
  refine (Cut_7_11 a _ h0 h1).mono ?_
  rintro e w' ⟨rfl, rfl⟩
  go_wp2_with fail
  refine (Cut_15_19 a _ h0 h1).mono ?_
  rintro e w' ⟨rfl, rfl⟩
  go_wp2_with fail
  refine (Cut_20_24 a _ h0 h1).mono ?_
  rintro e w' ⟨rfl, rfl⟩
  go_wp2_with fail
  refine (Cut_31_31 a _ h0 h1).mono ?_
  rintro e w' ⟨rfl, rfl⟩
  go_wp2_with fail
  refine (Cut_20_31 a _ h0 h1).mono ?_
  rintro e w' ⟨rfl, rfl⟩
  go_wp2_with fail
  refine (signed_12 _ _ (by omega) (by omega)).mono ?_
  rintro e w' ⟨rfl, rfl⟩
  go_wp2_with fail
  refine bodyPost_ret (v := .tuple #[insV k (Dc.rdF 3 a) (Dc.rs1F 3 a) (Dc.rs2F 3 a) (Dc.immF 3 a), .bool true]) (by simp [results, Tryd.results30, go_sem, r0, r1, r2, r3, r4, f3, insV, Dc.rdF, Dc.rs1F, Dc.rs2F, Dc.hasRd, Dc.hasRs1, Dc.hasRs2, Dc.immF]) rfl ⟨by rw [DV.out, DO.out], ?_⟩
  exact (((((G.out.setCell (by simp) _).setCell (by simp) _).setCell (by simp) _).setCell (by simp) _).setCell (by simp) _).alloc _ _
theorem rdec_4 (a k : Int) (h0 : 0 ≤ a) (h1 : a < 4294967296) (hk : Dc.dop a = k) (hk1 : 1 ≤ k) (hk2 : k ≤ 59) (hf : Dc.frm k = 4) : RDec a := by
  intro w
  obtain ⟨DV0, DO0⟩ := dec_some hk hk1
  rw [hf] at DV0
  have DV : Hid (decV a = _) := DV0
  have DO : Hid (decOk a = true) := DO0
  have HK : Hid (Dc.dop a = k) := hk
  have HF : Hid (Dc.frm k = 4) := hf
  clear DV0 DO0 hk hf
  go_enter Tryd.func30, Tryd.ntmps30
  go_wp2_with fail
  refine (form_some (l := 72) h0 h1 HK.out hk1 HF.out (by decide)).mono ?_
  rintro e w1 ⟨rfl, g⟩
  obtain ⟨f1, f2, f3⟩ := fresh_of g
  have r0 := f1 0 _ rfl
  have r1 := f1 1 _ rfl
  have r2 := f1 2 _ rfl
  have r3 := f1 3 _ rfl
  have r4 := f1 4 _ rfl
  have G : Hid (Gr w w1) := ((Gr.refl _).alloc _ _).trans g
  clear f1 g
  go_wp2_with fail
  refine (Cut_7_11 a _ h0 h1).mono ?_
  rintro e w' ⟨rfl, rfl⟩
  go_wp2_with fail
  refine (Cut_15_19 a _ h0 h1).mono ?_
  rintro e w' ⟨rfl, rfl⟩
  go_wp2_with fail
  refine (Cut_20_24 a _ h0 h1).mono ?_
  rintro e w' ⟨rfl, rfl⟩
  go_wp2_with fail
  refine (Cut_31_31 a _ h0 h1).mono ?_
  rintro e w' ⟨rfl, rfl⟩
  go_wp2_with fail
  refine bodyPost_ret (v := .tuple #[insV k (Dc.rdF 4 a) (Dc.rs1F 4 a) (Dc.rs2F 4 a) (Dc.immF 4 a), .bool true]) (by simp [results, Tryd.results30, go_sem, r0, r1, r2, r3, r4, f3, insV, Dc.rdF, Dc.rs1F, Dc.rs2F, Dc.hasRd, Dc.hasRs1, Dc.hasRs2, Dc.immF]) rfl ⟨by rw [DV.out, DO.out], ?_⟩
  exact (((((G.out.setCell (by simp) _).setCell (by simp) _).setCell (by simp) _).setCell (by simp) _).setCell (by simp) _).alloc _ _
theorem rdec_5 (a k : Int) (h0 : 0 ≤ a) (h1 : a < 4294967296) (hk : Dc.dop a = k) (hk1 : 1 ≤ k) (hk2 : k ≤ 59) (hf : Dc.frm k = 5) : RDec a := by
  intro w
  obtain ⟨DV0, DO0⟩ := dec_some hk hk1
  rw [hf] at DV0
  have DV : Hid (decV a = _) := DV0
  have DO : Hid (decOk a = true) := DO0
  have HK : Hid (Dc.dop a = k) := hk
  have HF : Hid (Dc.frm k = 5) := hf
  clear DV0 DO0 hk hf
  go_enter Tryd.func30, Tryd.ntmps30
  go_wp2_with fail
  refine (form_some (l := 66) h0 h1 HK.out hk1 HF.out (by decide)).mono ?_
  rintro e w1 ⟨rfl, g⟩
  obtain ⟨f1, f2, f3⟩ := fresh_of g
  have r0 := f1 0 _ rfl
  have r1 := f1 1 _ rfl
  have r2 := f1 2 _ rfl
  have r3 := f1 3 _ rfl
  have r4 := f1 4 _ rfl
  have G : Hid (Gr w w1) := ((Gr.refl _).alloc _ _).trans g
  clear f1 g
  go_wp2_with fail
  refine (Cut_7_11 a _ h0 h1).mono ?_
  rintro e w' ⟨rfl, rfl⟩
  go_wp2_with fail
  refine (Cut_15_19 a _ h0 h1).mono ?_
  rintro e w' ⟨rfl, rfl⟩
  go_wp2_with fail
  refine (Cut_20_24 a _ h0 h1).mono ?_
  rintro e w' ⟨rfl, rfl⟩
  go_wp2_with fail
  refine (Cut_31_31 a _ h0 h1).mono ?_
  rintro e w' ⟨rfl, rfl⟩
  go_wp2_with fail
  refine (Cut_7_7 a _ h0 h1).mono ?_
  rintro e w' ⟨rfl, rfl⟩
  go_wp2_with fail
  refine (Cut_25_30 a _ h0 h1).mono ?_
  rintro e w' ⟨rfl, rfl⟩
  go_wp2_with fail
  refine (Cut_8_11 a _ h0 h1).mono ?_
  rintro e w' ⟨rfl, rfl⟩
  go_wp2_with fail
  refine (signed_13 _ _ (by omega) (by omega)).mono ?_
  rintro e w' ⟨rfl, rfl⟩
  go_wp2_with fail
  refine bodyPost_ret (v := .tuple #[insV k (Dc.rdF 5 a) (Dc.rs1F 5 a) (Dc.rs2F 5 a) (Dc.immF 5 a), .bool true]) (by simp [results, Tryd.results30, go_sem, r0, r1, r2, r3, r4, f3, insV, Dc.rdF, Dc.rs1F, Dc.rs2F, Dc.hasRd, Dc.hasRs1, Dc.hasRs2, Dc.immF]) rfl ⟨by rw [DV.out, DO.out], ?_⟩
  exact (((((G.out.setCell (by simp) _).setCell (by simp) _).setCell (by simp) _).setCell (by simp) _).setCell (by simp) _).alloc _ _
theorem rdec_6 (a k : Int) (h0 : 0 ≤ a) (h1 : a < 4294967296) (hk : Dc.dop a = k) (hk1 : 1 ≤ k) (hk2 : k ≤ 59) (hf : Dc.frm k = 6) : RDec a := by
  intro w
  obtain ⟨DV0, DO0⟩ := dec_some hk hk1
  rw [hf] at DV0
  have DV : Hid (decV a = _) := DV0
  have DO : Hid (decOk a = true) := DO0
  have HK : Hid (Dc.dop a = k) := hk
  have HF : Hid (Dc.frm k = 6) := hf
  clear DV0 DO0 hk hf
  go_enter Tryd.func30, Tryd.ntmps30
  go_wp2_with fail
  refine (form_some (l := 83) h0 h1 HK.out hk1 HF.out (by decide)).mono ?_
  rintro e w1 ⟨rfl, g⟩
  obtain ⟨f1, f2, f3⟩ := fresh_of g
  have r0 := f1 0 _ rfl
  have r1 := f1 1 _ rfl
  have r2 := f1 2 _ rfl
  have r3 := f1 3 _ rfl
  have r4 := f1 4 _ rfl
  have G : Hid (Gr w w1) := ((Gr.refl _).alloc _ _).trans g
  clear f1 g
  go_wp2_with fail
  refine (Cut_7_11 a _ h0 h1).mono ?_
  rintro e w' ⟨rfl, rfl⟩
  go_wp2_with fail
  refine (Cut_15_19 a _ h0 h1).mono ?_
  rintro e w' ⟨rfl, rfl⟩
  go_wp2_with fail
  refine (Cut_20_24 a _ h0 h1).mono ?_
  rintro e w' ⟨rfl, rfl⟩
  go_wp2_with fail
  refine (Cut_31_31 a _ h0 h1).mono ?_
  rintro e w' ⟨rfl, rfl⟩
  go_wp2_with fail
  refine (Cut_25_31 a _ h0 h1).mono ?_
  rintro e w' ⟨rfl, rfl⟩
  go_wp2_with fail
  refine (Cut_7_11 a _ h0 h1).mono ?_
  rintro e w' ⟨rfl, rfl⟩
  go_wp2_with fail
  refine (signed_12 _ _ (by omega) (by omega)).mono ?_
  rintro e w' ⟨rfl, rfl⟩
  go_wp2_with fail
  refine bodyPost_ret (v := .tuple #[insV k (Dc.rdF 6 a) (Dc.rs1F 6 a) (Dc.rs2F 6 a) (Dc.immF 6 a), .bool true]) (by simp [results, Tryd.results30, go_sem, r0, r1, r2, r3, r4, f3, insV, Dc.rdF, Dc.rs1F, Dc.rs2F, Dc.hasRd, Dc.hasRs1, Dc.hasRs2, Dc.immF]) rfl ⟨by rw [DV.out, DO.out], ?_⟩
  exact (((((G.out.setCell (by simp) _).setCell (by simp) _).setCell (by simp) _).setCell (by simp) _).setCell (by simp) _).alloc _ _
theorem rdec_7 (a k : Int) (h0 : 0 ≤ a) (h1 : a < 4294967296) (hk : Dc.dop a = k) (hk1 : 1 ≤ k) (hk2 : k ≤ 59) (hf : Dc.frm k = 7) : RDec a := by
  intro w
  obtain ⟨DV0, DO0⟩ := dec_some hk hk1
  rw [hf] at DV0
  have DV : Hid (decV a = _) := DV0
  have DO : Hid (decOk a = true) := DO0
  have HK : Hid (Dc.dop a = k) := hk
  have HF : Hid (Dc.frm k = 7) := hf
  clear DV0 DO0 hk hf
  go_enter Tryd.func30, Tryd.ntmps30
  go_wp2_with fail
  refine (form_some (l := 82) h0 h1 HK.out hk1 HF.out (by decide)).mono ?_
  rintro e w1 ⟨rfl, g⟩
  obtain ⟨f1, f2, f3⟩ := fresh_of g
  have r0 := f1 0 _ rfl
  have r1 := f1 1 _ rfl
  have r2 := f1 2 _ rfl
  have r3 := f1 3 _ rfl
  have r4 := f1 4 _ rfl
  have G : Hid (Gr w w1) := ((Gr.refl _).alloc _ _).trans g
  clear f1 g
  go_wp2_with fail
  refine (Cut_7_11 a _ h0 h1).mono ?_
  rintro e w' ⟨rfl, rfl⟩
  go_wp2_with fail
  refine (Cut_15_19 a _ h0 h1).mono ?_
  rintro e w' ⟨rfl, rfl⟩
  go_wp2_with fail
  refine (Cut_20_24 a _ h0 h1).mono ?_
  rintro e w' ⟨rfl, rfl⟩
  go_wp2_with fail
  refine (Cut_31_31 a _ h0 h1).mono ?_
  rintro e w' ⟨rfl, rfl⟩
  go_wp2_with fail
  refine bodyPost_ret (v := .tuple #[insV k (Dc.rdF 7 a) (Dc.rs1F 7 a) (Dc.rs2F 7 a) (Dc.immF 7 a), .bool true]) (by simp [results, Tryd.results30, go_sem, r0, r1, r2, r3, r4, f3, insV, Dc.rdF, Dc.rs1F, Dc.rs2F, Dc.hasRd, Dc.hasRs1, Dc.hasRs2, Dc.immF]) rfl ⟨by rw [DV.out, DO.out], ?_⟩
  exact (((((G.out.setCell (by simp) _).setCell (by simp) _).setCell (by simp) _).setCell (by simp) _).setCell (by simp) _).alloc _ _
theorem rdec_8 (a k : Int) (h0 : 0 ≤ a) (h1 : a < 4294967296) (hk : Dc.dop a = k) (hk1 : 1 ≤ k) (hk2 : k ≤ 59) (hf : Dc.frm k = 8) : RDec a := by
  intro w
  obtain ⟨DV0, DO0⟩ := dec_some hk hk1
  rw [hf] at DV0
  have DV : Hid (decV a = _) := DV0
  have DO : Hid (decOk a = true) := DO0
  have HK : Hid (Dc.dop a = k) := hk
  have HF : Hid (Dc.frm k = 8) := hf
  clear DV0 DO0 hk hf
  go_enter Tryd.func30, Tryd.ntmps30
  go_wp2_with fail
  refine (form_some (l := 65) h0 h1 HK.out hk1 HF.out (by decide)).mono ?_
  rintro e w1 ⟨rfl, g⟩
  obtain ⟨f1, f2, f3⟩ := fresh_of g
  have r0 := f1 0 _ rfl
  have r1 := f1 1 _ rfl
  have r2 := f1 2 _ rfl
  have r3 := f1 3 _ rfl
  have r4 := f1 4 _ rfl
  have G : Hid (Gr w w1) := ((Gr.refl _).alloc _ _).trans g
  clear f1 g
  go_wp2_with fail
  refine (Cut_7_11 a _ h0 h1).mono ?_
  rintro e w' ⟨rfl, rfl⟩
  go_wp2_with fail
  refine (Cut_15_19 a _ h0 h1).mono ?_
  rintro e w' ⟨rfl, rfl⟩
  go_wp2_with fail
  refine (Cut_20_24 a _ h0 h1).mono ?_
  rintro e w' ⟨rfl, rfl⟩
  go_wp2_with fail
  refine (Cut_31_31 a _ h0 h1).mono ?_
  rintro e w' ⟨rfl, rfl⟩
  go_wp2_with fail
  refine (Cut_25_26 a _ h0 h1).mono ?_
  rintro e w' ⟨rfl, rfl⟩
  go_wp2_with fail
  refine bodyPost_ret (v := .tuple #[insV k (Dc.rdF 8 a) (Dc.rs1F 8 a) (Dc.rs2F 8 a) (Dc.immF 8 a), .bool true]) (by simp [results, Tryd.results30, go_sem, r0, r1, r2, r3, r4, f3, insV, Dc.rdF, Dc.rs1F, Dc.rs2F, Dc.hasRd, Dc.hasRs1, Dc.hasRs2, Dc.immF]) rfl ⟨by rw [DV.out, DO.out], ?_⟩
  exact (((((G.out.setCell (by simp) _).setCell (by simp) _).setCell (by simp) _).setCell (by simp) _).setCell (by simp) _).alloc _ _
theorem rdec_9 (a k : Int) (h0 : 0 ≤ a) (h1 : a < 4294967296) (hk : Dc.dop a = k) (hk1 : 1 ≤ k) (hk2 : k ≤ 59) (hf : Dc.frm k = 9) : RDec a := by
  intro w
  obtain ⟨DV0, DO0⟩ := dec_some hk hk1
  rw [hf] at DV0
  have DV : Hid (decV a = _) := DV0
  have DO : Hid (decOk a = true) := DO0
  have HK : Hid (Dc.dop a = k) := hk
  have HF : Hid (Dc.frm k = 9) := hf
  clear DV0 DO0 hk hf
  go_enter Tryd.func30, Tryd.ntmps30
  go_wp2_with fail
  refine (form_some (l := 69) h0 h1 HK.out hk1 HF.out (by decide)).mono ?_
  rintro e w1 ⟨rfl, g⟩
  obtain ⟨f1, f2, f3⟩ := fresh_of g
  have r0 := f1 0 _ rfl
  have r1 := f1 1 _ rfl
  have r2 := f1 2 _ rfl
  have r3 := f1 3 _ rfl
  have r4 := f1 4 _ rfl
  have G : Hid (Gr w w1) := ((Gr.refl _).alloc _ _).trans g
  clear f1 g
  go_wp2_with fail
  refine bodyPost_ret (v := .tuple #[insV k (Dc.rdF 9 a) (Dc.rs1F 9 a) (Dc.rs2F 9 a) (Dc.immF 9 a), .bool true]) (by simp [results, Tryd.results30, go_sem, r0, r1, r2, r3, r4, f3, insV, Dc.rdF, Dc.rs1F, Dc.rs2F, Dc.hasRd, Dc.hasRs1, Dc.hasRs2, Dc.immF]) rfl ⟨by rw [DV.out, DO.out], ?_⟩
  exact (((((G.out.setCell (by simp) _).setCell (by simp) _).setCell (by simp) _).setCell (by simp) _).setCell (by simp) _).alloc _ _
theorem RDecode_any (a : Int) (h0 : 0 ≤ a) (h1 : a < 4294967296) : RDec a := by
  by_cases hk : Dc.dop a = 0
  · exact rdec_none a h0 h1 hk
  have hb := dop_bd h0 h1
  have hf := frm_pos (Dc.dop a) (by omega) hb.2
  have h : Dc.frm (Dc.dop a) = 1 ∨ Dc.frm (Dc.dop a) = 2 ∨ Dc.frm (Dc.dop a) = 3 ∨ Dc.frm (Dc.dop a) = 4 ∨ Dc.frm (Dc.dop a) = 5 ∨ Dc.frm (Dc.dop a) = 6 ∨ Dc.frm (Dc.dop a) = 7 ∨ Dc.frm (Dc.dop a) = 8 ∨ Dc.frm (Dc.dop a) = 9 := by
    have := Dc.frm_bd (Dc.dop a); omega
  rcases h with h | h | h | h | h | h | h | h | h
  · exact rdec_1 a _ h0 h1 rfl (by omega) hb.2 h
  · exact rdec_2 a _ h0 h1 rfl (by omega) hb.2 h
  · exact rdec_3 a _ h0 h1 rfl (by omega) hb.2 h
  · exact rdec_4 a _ h0 h1 rfl (by omega) hb.2 h
  · exact rdec_5 a _ h0 h1 rfl (by omega) hb.2 h
  · exact rdec_6 a _ h0 h1 rfl (by omega) hb.2 h
  · exact rdec_7 a _ h0 h1 rfl (by omega) hb.2 h
  · exact rdec_8 a _ h0 h1 rfl (by omega) hb.2 h
  · exact rdec_9 a _ h0 h1 rfl (by omega) hb.2 h
end Go.Proofs.YtbihifipemldhabDoor.Re
/-
  What ferrybridgeref4.Step answers, of every hart that runs and every memory: one step ('stp').
-/
namespace Go.Proofs.YtbihifipemldhabDoor.Hr
open Go.ChangeShapes Go.WideShapes Go.ChangeAt Go.RowKit Mm Hh

theorem on_set {h : Hv} (hs : h.state = 0) (r : Nat) (x y : Int) : (h.set r x).on y = (h.set r x).go y := by
  unfold Hv.on; rw [if_pos]; unfold Hv.set; split <;> exact hs
theorem on_of {h : Hv} (hs : h.state = 0) (y : Int) : h.on y = h.go y := by unfold Hv.on; rw [if_pos hs]
theorem on_trap {h : Hv} (c y : Int) : (h.trap c).on y = h.trap c := if_neg (by show ¬ (2 : Int) = 0; omega)
theorem on_halt {h : Hv} (y : Int) : h.halt.on y = h.halt := if_neg (by show ¬ (1 : Int) = 0; omega)
theorem holds_no {op a b : Int} (h : ¬ (5 ≤ op ∧ op ≤ 10)) : Wd.holds op a b = false := by
  unfold Wd.holds
  repeat' (rw [if_neg (by omega)])
theorem nxt_plain {h : Hv} {op a b n : Int} (h3 : ¬ op = 3) (h4 : ¬ op = 4) (hb : ¬ (5 ≤ op ∧ op ≤ 10)) : nxt h op a b n = Wd.lo (h.pc + 4) := by
  unfold nxt; rw [if_neg h4, if_neg]; rw [holds_no hb]; simp [h3]

/-- An instruction, by its kind. -/
theorem rs_ins {h : Hv} {ao : Option Addr} {n cap : Nat} {l : List UInt8} {w : World} {x op rd : Int} {r1 r2 : Nat} {im : Int} (P : Pr h ao n cap l w x op rd r1 r2 im) (hs : h.state = 0) (h0 : 1 ≤ op) (h1 : op ≤ 59) :
    RStep h ao n cap w (ins h l op rd r1 r2 im) := by
  unfold ins eff
  simp only [Int.toNat_natCast]
  by_cases e1 : op = 1
  · have := rs_1 P e1
    rw [if_pos e1, nxt_plain (by omega) (by omega) (by omega)]
    unfold done Hv.put; simp only; rw [on_set hs]; exact this
  rw [if_neg e1]
  by_cases e2 : op = 2
  · have := rs_2 P e2
    rw [if_pos e2, nxt_plain (by omega) (by omega) (by omega)]
    unfold done Hv.put; simp only; rw [on_set hs]; exact this
  rw [if_neg e2]
  by_cases e3 : op = 3
  · have := rs_3 P e3
    rw [if_pos (.inl e3)]
    unfold done Hv.put nxt; simp only; rw [on_set hs, if_neg (by omega), if_pos (.inl e3)]; exact this
  by_cases e4 : op = 4
  · have := rs_4 P e4
    rw [if_pos (.inr e4)]
    unfold done Hv.put nxt; simp only; rw [on_set hs, if_pos e4]; exact this
  rw [if_neg (by omega)]
  by_cases eb : 5 ≤ op ∧ op ≤ 10
  · rw [if_neg (by omega), if_neg (by omega), if_neg (by omega), if_neg (by omega), if_neg (by omega), if_neg (by omega), if_neg (by omega)]
    unfold done Hv.put nxt; simp only
    rw [on_of hs, if_neg (by omega)]
    cases hb : Wd.holds op (rg h r1) (rg h r2) with
    | true => rw [if_pos (.inr rfl)]; exact rs_bry P eb hb
    | false => rw [if_neg (by simp [e3])]; exact rs_brn P eb hb
  rw [nxt_plain e3 e4 eb]
  by_cases el : 11 ≤ op ∧ op ≤ 15
  · rw [if_pos el]
    unfold efLoad
    cases hb : ldOk l op (Wd.lo (rg h r1 + Wd.lo im)) with
    | true => rw [if_pos rfl]; unfold done Hv.put; simp only; rw [on_set hs]; exact rs_loady P el hb
    | false => rw [if_neg (by simp)]; unfold done Hv.put; simp only; rw [on_trap]; exact rs_loadn P el hb
  rw [if_neg el]
  by_cases es : 16 ≤ op ∧ op ≤ 18
  · rw [if_pos es]
    unfold efStore
    cases hb : stOk l op (Wd.lo (rg h r1 + Wd.lo im)) with
    | true => rw [if_pos rfl]; unfold done Hv.put; simp only; rw [on_of hs]; exact rs_storey P es hb
    | false => rw [if_neg (by simp)]; unfold done Hv.put; simp only; rw [on_trap]; exact rs_storen P es hb
  rw [if_neg es]
  by_cases ei : 19 ≤ op ∧ op ≤ 27
  · rw [if_pos ei]; unfold done Hv.put; simp only; rw [on_set hs]; exact rs_alun P ei
  rw [if_neg ei]
  by_cases ea : 28 ≤ op ∧ op ≤ 45
  · rw [if_pos ea]; unfold done Hv.put; simp only; rw [on_set hs]; exact rs_alu P ea
  rw [if_neg ea]
  by_cases et : 46 ≤ op ∧ op ≤ 56
  · rw [if_pos et]
    unfold efAtom efLr efSc efAmo
    cases hb : ldOk l 13 (rg h r1) with
    | false =>
      have := rs_atf P et hb _ rfl
      by_cases k : op = 46
      · rw [if_pos k] at this ⊢; rw [if_neg (by simp)]; unfold done Hv.put; simp only; rw [on_trap]; exact this
      · rw [if_neg k] at this; rw [if_neg k]; simp only [Bool.false_eq_true, if_false, ite_self]; unfold done Hv.put; simp only; rw [on_trap]; exact this
    | true =>
      by_cases k : op = 46
      · rw [if_pos k, if_pos rfl]; unfold done Hv.put; simp only; rw [on_set (by exact hs)]; exact rs_atlr P k hb
      · rw [if_neg k]
        by_cases k2 : op = 47
        · rw [if_pos k2, if_pos rfl]
          by_cases mi : h.held = true ∧ h.heldAt = rg h r1
          · rw [if_pos mi]; unfold done Hv.put; simp only; rw [on_set (by exact hs)]; exact rs_atscy P k2 hb mi
          · rw [if_neg mi]; unfold done Hv.put; simp only; rw [on_set (by exact hs)]; exact rs_atscn P k2 hb mi
        · rw [if_neg k2, if_pos rfl]; unfold done Hv.put; simp only; rw [on_set hs]; exact rs_atamo P (by omega) hb
  rw [if_neg et]
  by_cases ec : op = 58
  · rw [if_pos ec]
    unfold efCall
    by_cases q0 : rg h 17 = 0
    · rw [if_pos q0]; unfold done Hv.put; simp only; rw [on_halt]; exact rs_callh P ec q0
    · by_cases q1 : rg h 17 = 1
      · rw [if_neg q0, if_pos q1]; unfold done Hv.put; simp only; rw [on_of hs]; exact rs_callo P ec q1
      · rw [if_neg q0, if_neg q1]; unfold done Hv.put; simp only; rw [on_trap]; exact rs_callt P ec ⟨q0, q1⟩
  rw [if_neg ec]
  by_cases ee : op = 59
  · rw [if_pos ee]; unfold done Hv.put; simp only; rw [on_trap]; exact rs_break P ee
  rw [if_neg ee]
  unfold done Hv.put; simp only; rw [on_of hs]; exact rs_fence P (by omega)

theorem r1_bd (f x : Int) : 0 ≤ Dc.rs1F f x ∧ Dc.rs1F f x < 32 := by unfold Dc.rs1F; split <;> omega
theorem r2_bd (f x : Int) : 0 ≤ Dc.rs2F f x ∧ Dc.rs2F f x < 32 := by unfold Dc.rs2F; split <;> omega
theorem rd_bd (f x : Int) : 0 ≤ Dc.rdF f x ∧ Dc.rdF f x < 32 := by unfold Dc.rdF; split <;> omega
theorem imm_bd {v : Int} (f : Int) (h0 : 0 ≤ v) (h1 : v < 4294967296) : -2147483648 ≤ Dc.immF f v ∧ Dc.immF f v < 2147483648 := by
  unfold Dc.immF Wd.sg Dc.sgn
  repeat' split
  all_goals omega
/-- A step of a hart that runs. -/
theorem rstep_any {h : Hv} {ao : Option Addr} {n cap : Nat} {l : List UInt8} {w : World} (o : h.Ok) (M : Mem w ao n l) (hn : n ≤ 140737488351232) (hs : h.state = 0) : RStep h ao n cap w (stp h l) := by
  unfold stp
  cases ok : ldOk l 13 h.pc with
  | false => rw [if_neg (by simp)]; exact rs_fetch o M hn ok
  | true =>
    rw [if_pos rfl]
    have wx := W.ldV l 13 h.pc
    have R := Re.RDecode_any (ldV l 13 h.pc) wx.1 wx.2
    unfold Re.RDec at R
    generalize hx : ldV l 13 h.pc = x at *
    unfold insW
    by_cases hd : Dc.dop x = 0
    · rw [if_pos hd]
      obtain ⟨d1, d2⟩ := Dw.dec_none hd
      refine rs_word o M hn ok fun W => ?_
      rw [hx]
      have := R W
      rw [d1, d2] at this
      exact this.mono fun e w' h => ⟨h.1, h.2.1⟩
    · rw [if_neg hd]
      have d2 : Dw.decOk x = true := by unfold Dw.decOk; simp [hd]
      have hb := Re.dop_bd wx.1 wx.2
      have ib := imm_bd (Dc.frm (Dc.dop x)) wx.1 wx.2
      have a1 := r1_bd (Dc.frm (Dc.dop x)) x
      have a2 := r2_bd (Dc.frm (Dc.dop x)) x
      obtain ⟨r1, e1⟩ := Int.eq_ofNat_of_zero_le a1.1
      obtain ⟨r2, e2⟩ := Int.eq_ofNat_of_zero_le a2.1
      rw [e1, e2]
      rw [e1] at a1
      rw [e2] at a2
      refine rs_ins (x := x) ⟨o, M, hn, ok, hx.symm, fun W => ?_, (rd_bd _ _).1, (rd_bd _ _).2, by omega, by omega, ib.1, ib.2⟩ hs (by omega) hb.2
      have := R W
      unfold Dw.decV Dw.insV at this
      rw [d2, e1, e2] at this
      exact this.mono fun e w' h => ⟨h.1, h.2.1⟩
end Go.Proofs.YtbihifipemldhabDoor.Hr
/-
  A Did (api.Did) that is written over step by step, as cells of memory ('Sd').
-/
namespace Go.Proofs.YtbihifipemldhabDoor.Ts
open Go.ChangeShapes Go.WideShapes Go.ChangeAt Go.RowKit Mm Hh Hc Mi

theorem stp_len {h : Hv} (o : h.Ok) (l : List UInt8) : (stp h l).m.length = l.length ∧ (stp h l).out.length ≤ 1 ∧ (stp h l).sto.length ≤ 1 := by
  refine ⟨?_, ?_, (Mc.stp_sto o l).2⟩
  · unfold stp insW ins done
    split
    · split
      · rfl
      · exact (eff_ok o l (W.reg o _) (W.reg o _) (W.lo _)).m
    · rfl
  · unfold stp insW ins done
    split
    · split
      · simp
      · exact (eff_ok o l (W.reg o _) (W.reg o _) (W.lo _)).out
    · simp
section
variable {P : Program} {w : World} {base e size bytes n m : Nat} {i : TypeInfo} {z : Value} {t : TypeId}
theorem run_append_src_at (ty : TypeId) (h1 : P.underlying t = some (.slice e)) (h2 : P.info? e = some i) (h3 : i.zero = some z) (h4 : i.size = size) (h5 : i.bytes = bytes) (h6 : z.cells.size = size) (h7 : 0 < size)
    {v vx : Value} {olds news : List Value} (hown : w.ownsRow base e size v n olds) (hsrc : Mc.Src w vx m size news) (h1c : ∀ u ∈ news, u.oneCell' = true) (b1 : n + m ≤ maxLen) (b2 : (n + m) * bytes ≤ 140737488355328) (hbase : base ≤ w.heap.size) :
    ∃ v' w', (Builtin.append_ #[t, t] ty #[v, vx]).run P w = .ok v' w' ∧ w'.ownsRow base e size v' (n + m) (olds ++ news) ∧ w.grownBy w' v.ownBlock ∧ (v'.ownBlock = v.ownBlock ∨ v'.ownBlock = some w.heap.size) := by
  rcases hsrc with ⟨rfl, rfl, rfl⟩ | ⟨ad, c, rfl, hl, hc⟩
  · exact ⟨v, w, run_append_owned_none w base t ty e i size h1 h2 v n olds hown, by simpa using hown, ⟨rfl, rfl, rfl, Nat.le_refl _, fun _ _ _ => rfl⟩, .inl rfl⟩
  · obtain ⟨v', w', hrun, r1, r2, _, r4⟩ := run_append_own_at (P := P) w base t ty e i z size bytes h1 h2 h3 h4 h5 h6 h7 v n olds hown ad m c news hl hc h1c b1 b2 hbase
    exact ⟨v', w', hrun, r1, r2, r4⟩
theorem wpList_append_src_at {ops : Array Oper} {rest : List Oper} {o : Oper} {a : Act} {Q : Exit → Act → World → Prop}
    (hg : o.guard = none) (s x : Operand) (hop : o.op = Op.call { callee := Callee.builtin Builtin.append, args := #[s, x], argTypes := #[t, t] })
    (h1 : P.underlying t = some (.slice e)) (h2 : P.info? e = some i) (h3 : i.zero = some z) (h4 : i.size = size) (h5 : i.bytes = bytes) (h6 : z.cells.size = size) (h7 : 0 < size)
    {v vx : Value} {olds news : List Value} (hs : a.eval s = v) (hx : a.eval x = vx) (hown : w.ownsRow base e size v n olds) (hsrc : Mc.Src w vx m size news) (h1c : ∀ u ∈ news, u.oneCell' = true) (b1 : n + m ≤ maxLen) (b2 : (n + m) * bytes ≤ 140737488355328) (hbase : base ≤ w.heap.size)
    (hK : ∀ v' w', w'.ownsRow base e size v' (n + m) (olds ++ news) → w.grownBy w' v.ownBlock → (v'.ownBlock = v.ownBlock ∨ v'.ownBlock = some w.heap.size) → wpList P ops Q rest (a.put o.dst v') w') : wpList P ops Q (o :: rest) a w := by
  refine wpList_plain hg fun K hk => ?_
  obtain ⟨v', w', hrun, r1, r2, r3⟩ := run_append_src_at (P := P) o.type h1 h2 h3 h4 h5 h6 h7 hown hsrc h1c b1 b2 hbase
  unfold Oper.wp
  simp [execOp, hop, resolve, invoke, builtin, hs, hx, hrun, Result.andThen]
  exact hk _ _ (hK v' w' r1 r2 r3)
end
/-- Bytes stay as they are where their block does. -/
theorem mem_keep {w w' : World} {ma : Option Addr} {mn : Nat} {l : List UInt8} (M : Mem w ma mn l) (h : ∀ ad, ma = some ad → 0 < mn → ad.block < w.heap.size → w'.heap[ad.block]? = w.heap[ad.block]?) : Mem w' ma mn l := by
  by_cases h0 : mn = 0
  · exact ⟨M.len, M.nil, fun ad e t ht => absurd ht (by omega)⟩
  · refine M.apart fun ad e => h ad e (by omega) ?_
    have := World.block_lt_of_cell? w _ (M.cell ad e 0 (by omega))
    rwa [add_block] at this
theorem outv_to {w w' : World} {v : Value} {os : List Int} (O : Hr.OutV w v os) (h : ∀ {k : Nat} {o : Array Value} {f : Nat × Nat}, w.heap[k]? = some (.cells o 38 f) → w'.heap[k]? = w.heap[k]?) : Hr.OutV w' v os := by
  rcases O with o | ⟨k, x, e1, e2, e3⟩
  · exact .inl o
  · exact .inr ⟨k, x, e1, e2, (h e3).trans e3⟩
theorem outv_src {w : World} {v : Value} {os : List Int} (O : Hr.OutV w v os) : Mc.Src w v os.length 1 (os.map (Value.int .u32)) := by
  rcases O with ⟨rfl, rfl⟩ | ⟨k, x, rfl, rfl, e3⟩
  · exact .inl ⟨rfl, rfl, rfl⟩
  · refine .inr ⟨⟨k, 0, none⟩, 1, rfl, rfl, fun j u hj => ?_⟩
    have h1 : j < 1 := (List.getElem?_eq_some_iff.1 hj).1
    obtain rfl : j = 0 := by omega
    rw [add_at, cell_of_row _ _ _ _ _ _ e3]
    exact hj
/-- What is left as it was: all below base, and every block but g that is neither of words nor of ranges. -/
structure Fk (base g : Nat) (w w' : World) : Prop where
  below : Below base w w'
  keep : ∀ (k : Nat) (o : Array Value) (t : Nat) (f : Nat × Nat), w.heap[k]? = some (.cells o t f) → k ≠ g → t ≠ 38 → t ≠ 50 → w'.heap[k]? = w.heap[k]?
theorem Fk.trans {base g : Nat} {a b c : World} (h : Fk base g a b) (q : Fk base g b c) : Fk base g a c :=
  ⟨h.below.trans q.below, fun k o t f e n1 n2 n3 => by
    have e1 := h.keep k o t f e n1 n2 n3
    exact (q.keep k o t f (e1.trans e) n1 n2 n3).trans e1⟩
theorem Fk.ofGr {base g : Nat} {w w' : World} (h : Gr w w') (hb : base ≤ w.heap.size) : Fk base g w w' :=
  ⟨Below.mono h hb, fun k o t f e _ _ _ => h.block k (Array.getElem?_eq_some_iff.1 e).1⟩
theorem Fk.ofCh {base g : Nat} {w w' : World} (h : Ch g w w') (hg : base ≤ g) (hb : base ≤ w.heap.size) : Fk base g w w' :=
  ⟨h.below hg hb, fun k o t f e n1 _ _ => h.block k (Array.getElem?_eq_some_iff.1 e).1 (fun x => n1 (by injection x))⟩
theorem Fk.at {base g : Nat} {w w' : World} (h : Fk base g w w') {k : Nat} {o : Array Value} {t : Nat} {f : Nat × Nat} (e : w.heap[k]? = some (.cells o t f)) (n1 : k ≠ g) (n2 : t ≠ 38) (n3 : t ≠ 50) : w'.heap[k]? = some (.cells o t f) := (h.keep k o t f e n1 n2 n3).trans e
/-- A Did at block g that reads as the run r; its memory lies apart from what is written over. -/
structure Sd (w : World) (base g : Nat) (r : Rn) (ao : Option Addr) (mn c : Nat) (O S : Value) : Prop where
  ok : r.Ok
  ml : r.m.length = mn
  bg : base ≤ g
  blk : w.heap[g]? = some (.cells (gA r.h (.slice ao mn c) O r.n S) 54 (0, 0))
  mem : Mem w ao mn r.m
  far : ∀ ad, ao = some ad → 0 < mn → ad.block ≠ g ∧ O.ownBlock ≠ some ad.block ∧ S.ownBlock ≠ some ad.block
  out : w.ownsRow base 38 1 O r.out.length (r.out.map (Value.int .u32))
  sto : w.ownsRow base 50 2 S r.sto.length (rgs r.sto)
section
variable {w : World} {base g : Nat} {r : Rn} {ao : Option Addr} {mn c : Nat} {O S : Value}
theorem Sd.lt (D : Sd w base g r ao mn c O S) : g < w.heap.size := (Array.getElem?_eq_some_iff.1 D.blk).1
theorem Sd.base_le (D : Sd w base g r ao mn c O S) : base ≤ w.heap.size := Nat.le_trans D.bg (Nat.le_of_lt D.lt)
theorem Sd.cell (D : Sd w base g r ao mn c O S) (i : Nat) : w.cell? ⟨g, i, none⟩ = (gA r.h (.slice ao mn c) O r.n S)[i]? := cell_of_row _ _ _ _ _ _ D.blk
theorem Sd.top (D : Sd w base g r ao mn c O S) (j : Nat) : w.cell? ⟨g, 37 + j, none⟩ = [.slice ao mn c, O, Value.int .i64 r.n, S][j]? := by
  rw [D.cell]
  unfold gA gL
  rw [List.getElem?_toArray, List.getElem?_append_right (by simp [hL_len D.ok.h])]
  simp [hL_len D.ok.h]
theorem Sd.fld (D : Sd w base g r ao mn c O S) {j : Nat} (hj : j < 5) : w.cell? ⟨g, 32 + j, none⟩ = [Value.int .u32 r.h.pc, .bool r.h.held, .int .u32 r.h.heldAt, .int .i64 r.h.state, .int .i64 r.h.cause][j]? := by
  rw [D.cell]
  unfold gA gL
  rw [List.getElem?_toArray, List.getElem?_append_left (by rw [hL_len D.ok.h]; omega)]
  exact hL_fld D.ok.h j
theorem Sd.fz (D : Sd w base g r ao mn c O S) (i : Nat) : w.frozen? ⟨g, i, none⟩ = false := frozen_of_row _ _ _ _ _ D.blk
theorem Sd.hart (D : Sd w base g r ao mn c O S) : w.rangeAt g 0 (hL r.h) := fun j v hv => by
  rw [Nat.zero_add, D.cell]
  have hj : j < (hL r.h).length := (List.getElem?_eq_some_iff.1 hv).1
  unfold gA gL
  rw [List.getElem?_toArray, List.getElem?_append_left hj]
  exact hv
theorem Sd.there (D : Sd w base g r ao mn c O S) : w.there g 0 37 := fun j hj => by
  refine ⟨?_, by rw [Nat.zero_add]; exact D.fz j⟩
  rw [Nat.zero_add, D.cell, Array.getElem?_eq_getElem (by rw [gA_size D.ok.h]; omega)]
  rfl
theorem Sd.of {w' : World} (D : Sd w base g r ao mn c O S) (G : Gr w w') : Sd w' base g r ao mn c O S :=
  ⟨D.ok, D.ml, D.bg, heap_up G D.blk, D.mem.of G, D.far, owns_gr D.out G, owns_gr D.sto G⟩
/-- Its own block turned. -/
theorem Sd.ch {w' : World} (D : Sd w base g r ao mn c O S) (q : Ch g w w') {r' : Rn} (hb : w'.heap[g]? = some (.cells (gA r'.h (.slice ao mn c) O r'.n S) 54 (0, 0))) (ok : r'.Ok) (em : r'.m = r.m) (eo : r'.out = r.out) (es : r'.sto = r.sto) : Sd w' base g r' ao mn c O S := by
  have st : ∀ t : Nat, t ≠ 54 → ∀ (k : Nat) (o : Array Value) (f : Nat × Nat), w.heap[k]? = some (.cells o t f) → w'.heap[k]? = w.heap[k]? := fun t ht k o f hk =>
    q.block k (Array.getElem?_eq_some_iff.1 hk).1 (fun e => ne_of_types hk D.blk ht (by injection e))
  refine ⟨ok, by rw [em]; exact D.ml, D.bg, hb, by rw [em]; exact mem_keep D.mem fun ad e h0 hl => q.block _ hl (fun x => (D.far ad e h0).1 (by injection x)), D.far, ?_, ?_⟩
  · rw [eo]; exact owns_to D.out (st _ (by decide))
  · rw [es]; exact owns_to D.sto (st _ (by decide))
theorem gA_setTop {h : Hv} (o : h.Ok) {M O S M' O' S' : Value} {n n' : Int} {j : Nat} {v : Value} (e : [M, O, Value.int .i64 n, S].set j v = [M', O', Value.int .i64 n', S']) : (gA h M O n S).setIfInBounds (37 + j) v = gA h M' O' n' S' := by
  have := hL_len o
  unfold gA gL
  simp only [List.setIfInBounds_toArray]
  rw [List.set_append_right _ _ (by omega), this, show 37 + j - 37 = j by omega, e]
theorem Sd.setN (D : Sd w base g r ao mn c O S) (k : Nat) : Sd (w.setCell ⟨g, 39, none⟩ (.int .i64 k)) base g { r with n := k } ao mn c O S :=
  D.ch ((Ch.refl g w).setCell 39 _) (by rw [heap_setCell_same _ _ _ _ _ _ D.blk]; congr 2; exact gA_setTop (j := 2) D.ok.h rfl) ⟨D.ok.h, D.ok.tl, D.ok.tb, D.ok.h0, D.ok.h1⟩ rfl rfl rfl
theorem Sd.setH (D : Sd w base g r ao mn c O S) {h' : Hv} (o' : h'.Ok) : Sd (w.setCells g 0 (hL h')) base g { r with h := h' } ao mn c O S := by
  refine D.ch (Mc.Ch.setCells (Ch.refl g w) _ _) ?_ (D.ok.hart o') rfl rfl rfl
  have e := Mc.heap_setCells g (hL h') 0 w (gL r.h (.slice ao mn c) O r.n S) D.blk (by rw [gL_len D.ok.h, hL_len o']; omega)
  rw [e]
  congr 2
  have l1 := hL_len D.ok.h
  have l2 := hL_len o'
  unfold gA gL
  rw [List.take_zero, List.nil_append, Nat.zero_add, l2, ← l1, List.drop_left]
/-- Another memory. -/
theorem Sd.setM (D : Sd w base g r ao mn c O S) {a' : Option Addr} (c' : Nat) {m' : List UInt8} (M : Mem w a' mn m') (far : ∀ ad, a' = some ad → 0 < mn → ad.block ≠ g ∧ O.ownBlock ≠ some ad.block ∧ S.ownBlock ≠ some ad.block) : Sd (w.setCell ⟨g, 37, none⟩ (.slice a' mn c')) base g { r with m := m' } a' mn c' O S := by
  have q : Ch g w (w.setCell ⟨g, 37, none⟩ (.slice a' mn c')) := (Ch.refl g w).setCell 37 _
  have st : ∀ t : Nat, t ≠ 54 → ∀ (k : Nat) (o : Array Value) (f : Nat × Nat), w.heap[k]? = some (.cells o t f) → (w.setCell ⟨g, 37, none⟩ (.slice a' mn c')).heap[k]? = w.heap[k]? := fun t ht k o f hk =>
    q.block k (Array.getElem?_eq_some_iff.1 hk).1 (fun e => ne_of_types hk D.blk ht (by injection e))
  refine ⟨D.ok.mem m', M.len, D.bg, ?_, mem_keep M fun ad e h0 hl => q.block _ hl (fun x => (far ad e h0).1 (by injection x)), far, owns_to D.out (st _ (by decide)), owns_to D.sto (st _ (by decide))⟩
  rw [heap_setCell_same _ _ _ _ _ _ D.blk]
  congr 2
  exact gA_setTop (j := 0) D.ok.h rfl
/-- What came out, appended to. -/
theorem Sd.appO {w' : World} (D : Sd w base g r ao mn c O S) (q : w.grownBy w' O.ownBlock) {v : Value} {os : List Int} (ho : w'.ownsRow base 38 1 v os.length (os.map (Value.int .u32))) (hv : v.ownBlock = O.ownBlock ∨ v.ownBlock = some w.heap.size) :
    w'.cell? ⟨g, 38, none⟩ = some O ∧ w'.frozen? ⟨g, 38, none⟩ = false ∧ Sd (w'.setCell ⟨g, 38, none⟩ v) base g { r with out := os } ao mn c v S ∧ Fk base g w (w'.setCell ⟨g, 38, none⟩ v) := by
  have st : ∀ {t : Nat}, t ≠ 38 → ∀ {k : Nat} {o : Array Value} {f : Nat × Nat}, w.heap[k]? = some (.cells o t f) → w'.heap[k]? = w.heap[k]? := fun ht _ _ _ hk => grown_at D.out q ht hk
  have hb := (st (by decide) D.blk).trans D.blk
  have ne : ∀ {t : Nat}, t ≠ 54 → ∀ {k : Nat} {o : Array Value} {f : Nat × Nat}, w'.heap[k]? = some (.cells o t f) → (w'.setCell ⟨g, 38, none⟩ v).heap[k]? = w'.heap[k]? := fun ht _ _ _ hk => heap_setCell_other _ _ _ _ (by exact ne_of_types hk hb ht)
  have M1 : Mem w' ao mn r.m := mem_keep D.mem fun ad e h0 hl => q.block _ hl (fun x => (D.far ad e h0).2.1 x.symm)
  have hml : ∀ ad, ao = some ad → 0 < mn → ad.block < w.heap.size := fun ad e h0 => by
    have := World.block_lt_of_cell? w _ (D.mem.cell ad e 0 h0)
    rwa [add_block] at this
  refine ⟨(cell_of_row _ _ _ _ _ _ hb).trans ((D.cell 38).symm.trans (D.top 1)), frozen_of_row _ _ _ _ _ hb, ⟨⟨D.ok.h, D.ok.tl, D.ok.tb, D.ok.h0, D.ok.h1⟩, D.ml, D.bg, ?_, mem_keep M1 fun ad e h0 _ => heap_setCell_other _ _ _ _ (by exact (D.far ad e h0).1), fun ad e h0 => ⟨(D.far ad e h0).1, ?_, (D.far ad e h0).2.2⟩, owns_to ho fun k o f hk => ne (by decide) hk, owns_to (owns_to D.sto fun k o f hk => st (by decide) hk) fun k o f hk => ne (by decide) hk⟩, ?_⟩
  · rw [heap_setCell_same _ _ _ _ _ _ hb]
    congr 2
    exact gA_setTop (j := 1) D.ok.h rfl
  · rcases hv with hv | hv
    · rw [hv]; exact (D.far ad e h0).2.1
    · rw [hv]; intro x
      have := hml ad e h0
      injection x with x
      omega
  · refine ⟨Below.setCell ((Below.refl base w).grown q D.base_le fun k e => (D.out.lt k e).1) (by exact D.bg) _, fun k o t f e n1 n2 n3 => ?_⟩
    have e1 := st n2 e
    exact (heap_setCell_other _ _ _ _ (by exact n1)).trans e1
/-- Where was stored, appended to. -/
theorem Sd.appS {w' : World} (D : Sd w base g r ao mn c O S) (q : w.grownBy w' S.ownBlock) {v : Value} {ss : List (Int × Int)} (ho : w'.ownsRow base 50 2 v ss.length (rgs ss)) (hv : v.ownBlock = S.ownBlock ∨ v.ownBlock = some w.heap.size) :
    w'.cell? ⟨g, 40, none⟩ = some S ∧ w'.frozen? ⟨g, 40, none⟩ = false ∧ Sd (w'.setCell ⟨g, 40, none⟩ v) base g { r with sto := ss } ao mn c O v ∧ Fk base g w (w'.setCell ⟨g, 40, none⟩ v) := by
  have st : ∀ {t : Nat}, t ≠ 50 → ∀ {k : Nat} {o : Array Value} {f : Nat × Nat}, w.heap[k]? = some (.cells o t f) → w'.heap[k]? = w.heap[k]? := fun ht _ _ _ hk => grown_at D.sto q ht hk
  have hb := (st (by decide) D.blk).trans D.blk
  have ne : ∀ {t : Nat}, t ≠ 54 → ∀ {k : Nat} {o : Array Value} {f : Nat × Nat}, w'.heap[k]? = some (.cells o t f) → (w'.setCell ⟨g, 40, none⟩ v).heap[k]? = w'.heap[k]? := fun ht _ _ _ hk => heap_setCell_other _ _ _ _ (by exact ne_of_types hk hb ht)
  have M1 : Mem w' ao mn r.m := mem_keep D.mem fun ad e h0 hl => q.block _ hl (fun x => (D.far ad e h0).2.2 x.symm)
  have hml : ∀ ad, ao = some ad → 0 < mn → ad.block < w.heap.size := fun ad e h0 => by
    have := World.block_lt_of_cell? w _ (D.mem.cell ad e 0 h0)
    rwa [add_block] at this
  refine ⟨(cell_of_row _ _ _ _ _ _ hb).trans ((D.cell 40).symm.trans (D.top 3)), frozen_of_row _ _ _ _ _ hb, ⟨⟨D.ok.h, D.ok.tl, D.ok.tb, D.ok.h0, D.ok.h1⟩, D.ml, D.bg, ?_, mem_keep M1 fun ad e h0 _ => heap_setCell_other _ _ _ _ (by exact (D.far ad e h0).1), fun ad e h0 => ⟨(D.far ad e h0).1, (D.far ad e h0).2.1, ?_⟩, owns_to (owns_to D.out fun k o f hk => st (by decide) hk) fun k o f hk => ne (by decide) hk, owns_to ho fun k o f hk => ne (by decide) hk⟩, ?_⟩
  · rw [heap_setCell_same _ _ _ _ _ _ hb]
    congr 2
    exact gA_setTop (j := 3) D.ok.h rfl
  · rcases hv with hv | hv
    · rw [hv]; exact (D.far ad e h0).2.2
    · rw [hv]; intro x
      have := hml ad e h0
      injection x with x
      omega
  · refine ⟨Below.setCell ((Below.refl base w).grown q D.base_le fun k e => (D.sto.lt k e).1) (by exact D.bg) _, fun k o t f e n1 n2 n3 => ?_⟩
    have e1 := st n3 e
    exact (heap_setCell_other _ _ _ _ (by exact n1)).trans e1
end
theorem u32_one1 (os : List Int) : ∀ u ∈ os.map (Value.int .u32), u.oneCell' = true := fun u hu => by
  obtain ⟨b, _, rfl⟩ := List.mem_map.1 hu
  rfl
end Go.Proofs.YtbihifipemldhabDoor.Ts
