/-
  Ref2c, Td, Mp: texts of ours that lie in one file.
-/
import Derived.Test.YtchllaeembmioaaGreatDoorQ10
import Derived.Test.YtchllaeembmioaaGreatDoorQ12
import Derived.Test.YtchllaeembmioaaGreatDoorQ09
import Derived.Test.YtchllaeembmioaaGreatDoorQ01
import Derived.Test.YtchllaeembmioaaGreatDoorQ08
set_option linter.unusedVariables false
set_option linter.unusedSimpArgs false
set_option maxHeartbeats 8000000
set_option maxRecDepth 100000
namespace Go.Proofs.YtchllaeembmioaaGreatDoor.Re
open Go.ChangeShapes Go.WideShapes Go.ChangeAt Go.RowKit Dw

theorem dop_bd {a : Int} (h0 : 0 ≤ a) (h1 : a < 4294967296) : 0 ≤ Dc.dop a ∧ Dc.dop a ≤ 59 := by
 have := Dc.raw_bd h0 h1
 unfold Dc.dop; split <;> omega
theorem frm_pos (k : Int) (h1 : 1 ≤ k) (h2 : k ≤ 59) : 1 ≤ Dc.frm k := by
 unfold Dc.frm; repeat' split
 all_goals omega
def RDec (a : Int) : Prop := ∀ w : World, Calls Tryz.prog 25 #[.int .u32 a] w fun e w' => e = .returned (.tuple #[decV a, .bool (decOk a)]) ∧ Gr w w'
theorem form_some {a k f l : Int} {w : World} (h0 : 0 ≤ a) (h1 : a < 4294967296) (hk : Dc.dop a = k) (hk1 : 1 ≤ k) (hf : Dc.frm k = f) (hl : letter f = l) :
  Calls Tryz.prog 45 #[.int .u32 a] w fun e w' => e = .returned (.tuple #[.int .i64 k, .int .u8 l]) ∧ Gr w w' := by
 refine (form_any a h0 h1 w).mono ?_
 rintro e w' ⟨⟨l', rfl, h⟩, g⟩
 have e1 := h (by omega)
 rw [hk, hf, hl] at e1
 subst e1
 refine ⟨?_, g⟩
 unfold rop; rw [hk, if_neg (by omega)]
theorem form_zero {a : Int} {w : World} (h0 : 0 ≤ a) (h1 : a < 4294967296) (hk : Dc.dop a = 0) :
  Calls Tryz.prog 45 #[.int .u32 a] w fun e w' => (∃ l, e = .returned (.tuple #[.int .i64 (-1), .int .u8 l])) ∧ Gr w w' := by
 refine (form_any a h0 h1 w).mono ?_
 rintro e w' ⟨⟨l', rfl, h⟩, g⟩
 refine ⟨⟨l', ?_⟩, g⟩
 unfold rop; rw [hk]; rfl

theorem rdec_none (a : Int) (h0 : 0 ≤ a) (h1 : a < 4294967296) (hk : Dc.dop a = 0) : RDec a := by
 intro w
 obtain ⟨DV0, DO0⟩ := dec_none hk
 have DV : Hid (decV a = _) := DV0
 have DO : Hid (decOk a = false) := DO0
 have HK : Hid (Dc.dop a = 0) := hk
 clear DV0 DO0 hk
 go_enter Tryz.func25, Tryz.ntmps25
 go_wp2_with fail
 refine (form_zero h0 h1 HK.out).mono ?_
 rintro e w1 ⟨⟨l, rfl⟩, g⟩
 obtain ⟨f1, f2, f3⟩ := fresh_of g
 have r0 := f1 0 _ rfl
 have r1 := f1 1 _ rfl
 have r2 := f1 2 _ rfl
 have r3 := f1 3 _ rfl
 have r4 := f1 4 _ rfl
 have G : Hid (Gr w w1) := ((Gr.refl _).alloc _ _).trans g
 clear f1 g
 go_wp2_with fail
 refine bodyPost_ret (v := .tuple #[insV 0 0 0 0 0, .bool false]) (by simp [results, Tryz.results25, go_sem, r0, r1, r2, r3, r4, f3, insV]) rfl ⟨by rw [DV.out, DO.out], ?_⟩
 exact (((((G.out.setCell (by simp) _).setCell (by simp) _).setCell (by simp) _).setCell (by simp) _).setCell (by simp) _)
theorem rdec_1 (a k : Int) (h0 : 0 ≤ a) (h1 : a < 4294967296) (hk : Dc.dop a = k) (hk1 : 1 ≤ k) (hk2 : k ≤ 59) (hf : Dc.frm k = 1) : RDec a := by
 intro w
 obtain ⟨DV0, DO0⟩ := dec_some hk hk1
 rw [hf] at DV0
 have DV : Hid (decV a = _) := DV0
 have DO : Hid (decOk a = true) := DO0
 have HK : Hid (Dc.dop a = k) := hk
 have HF : Hid (Dc.frm k = 1) := hf
 clear DV0 DO0 hk hf
 have sb := Wd.sg_bd h0 h1
 have sb2 : -2147483648 ≤ Wd.sg a - a % 4096 := by unfold Wd.sg; split <;> omega
 go_enter Tryz.func25, Tryz.ntmps25
 go_wp2_with fail
 refine (form_some (l := 85) h0 h1 HK.out hk1 HF.out (by decide)).mono ?_
 rintro e w1 ⟨rfl, g⟩
 obtain ⟨f1, f2, f3⟩ := fresh_of g
 have r0 := f1 0 _ rfl
 have r1 := f1 1 _ rfl
 have r2 := f1 2 _ rfl
 have r3 := f1 3 _ rfl
 have r4 := f1 4 _ rfl
 have G : Hid (Gr w w1) := ((Gr.refl _).alloc _ _).trans g
 clear f1 g
 go_wp2_with fail
 refine (Cut_7_11 a _ h0 h1).mono ?_
 rintro e w' ⟨rfl, rfl⟩
 go_wp2_with fail
 refine (Cut_15_19 a _ h0 h1).mono ?_
 rintro e w' ⟨rfl, rfl⟩
 go_wp2_with fail
 refine (Cut_20_24 a _ h0 h1).mono ?_
 rintro e w' ⟨rfl, rfl⟩
 go_wp2_with fail
 refine (Cut_31_31 a _ h0 h1).mono ?_
 rintro e w' ⟨rfl, rfl⟩
 go_wp2_with fail
 refine (Signed_any a _ h0 h1).mono ?_
 rintro e w' ⟨rfl, rfl⟩
 go_wp2_with fail
 refine (Cut_0_11 a _ h0 h1).mono ?_
 rintro e w' ⟨rfl, rfl⟩
 go_wp2_with fail
 refine bodyPost_ret (v := .tuple #[insV k (Dc.rdF 1 a) (Dc.rs1F 1 a) (Dc.rs2F 1 a) (Dc.immF 1 a), .bool true]) (by simp [results, Tryz.results25, go_sem, r0, r1, r2, r3, r4, f3, insV, Dc.rdF, Dc.rs1F, Dc.rs2F, Dc.hasRd, Dc.hasRs1, Dc.hasRs2, Dc.immF]) rfl ⟨by rw [DV.out, DO.out], ?_⟩
 exact (((((G.out.setCell (by simp) _).setCell (by simp) _).setCell (by simp) _).setCell (by simp) _).setCell (by simp) _).alloc _ _
theorem rdec_2 (a k : Int) (h0 : 0 ≤ a) (h1 : a < 4294967296) (hk : Dc.dop a = k) (hk1 : 1 ≤ k) (hk2 : k ≤ 59) (hf : Dc.frm k = 2) : RDec a := by
 intro w
 obtain ⟨DV0, DO0⟩ := dec_some hk hk1
 rw [hf] at DV0
 have DV : Hid (decV a = _) := DV0
 have DO : Hid (decOk a = true) := DO0
 have HK : Hid (Dc.dop a = k) := hk
 have HF : Hid (Dc.frm k = 2) := hf
 clear DV0 DO0 hk hf
 go_enter Tryz.func25, Tryz.ntmps25
 go_wp2_with fail
 refine (form_some (l := 74) h0 h1 HK.out hk1 HF.out (by decide)).mono ?_
 rintro e w1 ⟨rfl, g⟩
 obtain ⟨f1, f2, f3⟩ := fresh_of g
 have r0 := f1 0 _ rfl
 have r1 := f1 1 _ rfl
 have r2 := f1 2 _ rfl
 have r3 := f1 3 _ rfl
 have r4 := f1 4 _ rfl
 have G : Hid (Gr w w1) := ((Gr.refl _).alloc _ _).trans g
 clear f1 g
 go_wp2_with fail
 refine (Cut_7_11 a _ h0 h1).mono ?_
 rintro e w' ⟨rfl, rfl⟩
 go_wp2_with fail
 refine (Cut_15_19 a _ h0 h1).mono ?_
 rintro e w' ⟨rfl, rfl⟩
 go_wp2_with fail
 refine (Cut_20_24 a _ h0 h1).mono ?_
 rintro e w' ⟨rfl, rfl⟩
 go_wp2_with fail
 refine (Cut_31_31 a _ h0 h1).mono ?_
 rintro e w' ⟨rfl, rfl⟩
 go_wp2_with fail
 refine (Cut_12_19 a _ h0 h1).mono ?_
 rintro e w' ⟨rfl, rfl⟩
 go_wp2_with fail
 refine (Cut_20_20 a _ h0 h1).mono ?_
 rintro e w' ⟨rfl, rfl⟩
 go_wp2_with fail
 refine (Cut_21_30 a _ h0 h1).mono ?_
 rintro e w' ⟨rfl, rfl⟩
 go_wp2_with fail
 refine (signed_21 _ _ (by omega) (by omega)).mono ?_
 rintro e w' ⟨rfl, rfl⟩
 go_wp2_with fail
 refine bodyPost_ret (v := .tuple #[insV k (Dc.rdF 2 a) (Dc.rs1F 2 a) (Dc.rs2F 2 a) (Dc.immF 2 a), .bool true]) (by simp [results, Tryz.results25, go_sem, r0, r1, r2, r3, r4, f3, insV, Dc.rdF, Dc.rs1F, Dc.rs2F, Dc.hasRd, Dc.hasRs1, Dc.hasRs2, Dc.immF]) rfl ⟨by rw [DV.out, DO.out], ?_⟩
 exact (((((G.out.setCell (by simp) _).setCell (by simp) _).setCell (by simp) _).setCell (by simp) _).setCell (by simp) _).alloc _ _
theorem rdec_3 (a k : Int) (h0 : 0 ≤ a) (h1 : a < 4294967296) (hk : Dc.dop a = k) (hk1 : 1 ≤ k) (hk2 : k ≤ 59) (hf : Dc.frm k = 3) : RDec a := by
 intro w
 obtain ⟨DV0, DO0⟩ := dec_some hk hk1
 rw [hf] at DV0
 have DV : Hid (decV a = _) := DV0
 have DO : Hid (decOk a = true) := DO0
 have HK : Hid (Dc.dop a = k) := hk
 have HF : Hid (Dc.frm k = 3) := hf
 clear DV0 DO0 hk hf
 go_enter Tryz.func25, Tryz.ntmps25
 go_wp2_with fail
 refine (form_some (l := 73) h0 h1 HK.out hk1 HF.out (by decide)).mono ?_
 rintro e w1 ⟨rfl, g⟩
 obtain ⟨f1, f2, f3⟩ := fresh_of g
 have r0 := f1 0 _ rfl
 have r1 := f1 1 _ rfl
 have r2 := f1 2 _ rfl
 have r3 := f1 3 _ rfl
 have r4 := f1 4 _ rfl
 have G : Hid (Gr w w1) := ((Gr.refl _).alloc _ _).trans g
 clear f1 g
 go_wp2_with fail
 refine (Cut_7_11 a _ h0 h1).mono ?_
 rintro e w' ⟨rfl, rfl⟩
 go_wp2_with fail
 refine (Cut_15_19 a _ h0 h1).mono ?_
 rintro e w' ⟨rfl, rfl⟩
 go_wp2_with fail
 refine (Cut_20_24 a _ h0 h1).mono ?_
 rintro e w' ⟨rfl, rfl⟩
 go_wp2_with fail
 refine (Cut_31_31 a _ h0 h1).mono ?_
 rintro e w' ⟨rfl, rfl⟩
 go_wp2_with fail
 refine (Cut_20_31 a _ h0 h1).mono ?_
 rintro e w' ⟨rfl, rfl⟩
 go_wp2_with fail
 refine (signed_12 _ _ (by omega) (by omega)).mono ?_
 rintro e w' ⟨rfl, rfl⟩
 go_wp2_with fail
 refine bodyPost_ret (v := .tuple #[insV k (Dc.rdF 3 a) (Dc.rs1F 3 a) (Dc.rs2F 3 a) (Dc.immF 3 a), .bool true]) (by simp [results, Tryz.results25, go_sem, r0, r1, r2, r3, r4, f3, insV, Dc.rdF, Dc.rs1F, Dc.rs2F, Dc.hasRd, Dc.hasRs1, Dc.hasRs2, Dc.immF]) rfl ⟨by rw [DV.out, DO.out], ?_⟩
 exact (((((G.out.setCell (by simp) _).setCell (by simp) _).setCell (by simp) _).setCell (by simp) _).setCell (by simp) _).alloc _ _
theorem rdec_4 (a k : Int) (h0 : 0 ≤ a) (h1 : a < 4294967296) (hk : Dc.dop a = k) (hk1 : 1 ≤ k) (hk2 : k ≤ 59) (hf : Dc.frm k = 4) : RDec a := by
 intro w
 obtain ⟨DV0, DO0⟩ := dec_some hk hk1
 rw [hf] at DV0
 have DV : Hid (decV a = _) := DV0
 have DO : Hid (decOk a = true) := DO0
 have HK : Hid (Dc.dop a = k) := hk
 have HF : Hid (Dc.frm k = 4) := hf
 clear DV0 DO0 hk hf
 go_enter Tryz.func25, Tryz.ntmps25
 go_wp2_with fail
 refine (form_some (l := 72) h0 h1 HK.out hk1 HF.out (by decide)).mono ?_
 rintro e w1 ⟨rfl, g⟩
 obtain ⟨f1, f2, f3⟩ := fresh_of g
 have r0 := f1 0 _ rfl
 have r1 := f1 1 _ rfl
 have r2 := f1 2 _ rfl
 have r3 := f1 3 _ rfl
 have r4 := f1 4 _ rfl
 have G : Hid (Gr w w1) := ((Gr.refl _).alloc _ _).trans g
 clear f1 g
 go_wp2_with fail
 refine (Cut_7_11 a _ h0 h1).mono ?_
 rintro e w' ⟨rfl, rfl⟩
 go_wp2_with fail
 refine (Cut_15_19 a _ h0 h1).mono ?_
 rintro e w' ⟨rfl, rfl⟩
 go_wp2_with fail
 refine (Cut_20_24 a _ h0 h1).mono ?_
 rintro e w' ⟨rfl, rfl⟩
 go_wp2_with fail
 refine (Cut_31_31 a _ h0 h1).mono ?_
 rintro e w' ⟨rfl, rfl⟩
 go_wp2_with fail
 refine bodyPost_ret (v := .tuple #[insV k (Dc.rdF 4 a) (Dc.rs1F 4 a) (Dc.rs2F 4 a) (Dc.immF 4 a), .bool true]) (by simp [results, Tryz.results25, go_sem, r0, r1, r2, r3, r4, f3, insV, Dc.rdF, Dc.rs1F, Dc.rs2F, Dc.hasRd, Dc.hasRs1, Dc.hasRs2, Dc.immF]) rfl ⟨by rw [DV.out, DO.out], ?_⟩
 exact (((((G.out.setCell (by simp) _).setCell (by simp) _).setCell (by simp) _).setCell (by simp) _).setCell (by simp) _).alloc _ _
theorem rdec_5 (a k : Int) (h0 : 0 ≤ a) (h1 : a < 4294967296) (hk : Dc.dop a = k) (hk1 : 1 ≤ k) (hk2 : k ≤ 59) (hf : Dc.frm k = 5) : RDec a := by
 intro w
 obtain ⟨DV0, DO0⟩ := dec_some hk hk1
 rw [hf] at DV0
 have DV : Hid (decV a = _) := DV0
 have DO : Hid (decOk a = true) := DO0
 have HK : Hid (Dc.dop a = k) := hk
 have HF : Hid (Dc.frm k = 5) := hf
 clear DV0 DO0 hk hf
 go_enter Tryz.func25, Tryz.ntmps25
 go_wp2_with fail
 refine (form_some (l := 66) h0 h1 HK.out hk1 HF.out (by decide)).mono ?_
 rintro e w1 ⟨rfl, g⟩
 obtain ⟨f1, f2, f3⟩ := fresh_of g
 have r0 := f1 0 _ rfl
 have r1 := f1 1 _ rfl
 have r2 := f1 2 _ rfl
 have r3 := f1 3 _ rfl
 have r4 := f1 4 _ rfl
 have G : Hid (Gr w w1) := ((Gr.refl _).alloc _ _).trans g
 clear f1 g
 go_wp2_with fail
 refine (Cut_7_11 a _ h0 h1).mono ?_
 rintro e w' ⟨rfl, rfl⟩
 go_wp2_with fail
 refine (Cut_15_19 a _ h0 h1).mono ?_
 rintro e w' ⟨rfl, rfl⟩
 go_wp2_with fail
 refine (Cut_20_24 a _ h0 h1).mono ?_
 rintro e w' ⟨rfl, rfl⟩
 go_wp2_with fail
 refine (Cut_31_31 a _ h0 h1).mono ?_
 rintro e w' ⟨rfl, rfl⟩
 go_wp2_with fail
 refine (Cut_7_7 a _ h0 h1).mono ?_
 rintro e w' ⟨rfl, rfl⟩
 go_wp2_with fail
 refine (Cut_25_30 a _ h0 h1).mono ?_
 rintro e w' ⟨rfl, rfl⟩
 go_wp2_with fail
 refine (Cut_8_11 a _ h0 h1).mono ?_
 rintro e w' ⟨rfl, rfl⟩
 go_wp2_with fail
 refine (signed_13 _ _ (by omega) (by omega)).mono ?_
 rintro e w' ⟨rfl, rfl⟩
 go_wp2_with fail
 refine bodyPost_ret (v := .tuple #[insV k (Dc.rdF 5 a) (Dc.rs1F 5 a) (Dc.rs2F 5 a) (Dc.immF 5 a), .bool true]) (by simp [results, Tryz.results25, go_sem, r0, r1, r2, r3, r4, f3, insV, Dc.rdF, Dc.rs1F, Dc.rs2F, Dc.hasRd, Dc.hasRs1, Dc.hasRs2, Dc.immF]) rfl ⟨by rw [DV.out, DO.out], ?_⟩
 exact (((((G.out.setCell (by simp) _).setCell (by simp) _).setCell (by simp) _).setCell (by simp) _).setCell (by simp) _).alloc _ _
theorem rdec_6 (a k : Int) (h0 : 0 ≤ a) (h1 : a < 4294967296) (hk : Dc.dop a = k) (hk1 : 1 ≤ k) (hk2 : k ≤ 59) (hf : Dc.frm k = 6) : RDec a := by
 intro w
 obtain ⟨DV0, DO0⟩ := dec_some hk hk1
 rw [hf] at DV0
 have DV : Hid (decV a = _) := DV0
 have DO : Hid (decOk a = true) := DO0
 have HK : Hid (Dc.dop a = k) := hk
 have HF : Hid (Dc.frm k = 6) := hf
 clear DV0 DO0 hk hf
 go_enter Tryz.func25, Tryz.ntmps25
 go_wp2_with fail
 refine (form_some (l := 83) h0 h1 HK.out hk1 HF.out (by decide)).mono ?_
 rintro e w1 ⟨rfl, g⟩
 obtain ⟨f1, f2, f3⟩ := fresh_of g
 have r0 := f1 0 _ rfl
 have r1 := f1 1 _ rfl
 have r2 := f1 2 _ rfl
 have r3 := f1 3 _ rfl
 have r4 := f1 4 _ rfl
 have G : Hid (Gr w w1) := ((Gr.refl _).alloc _ _).trans g
 clear f1 g
 go_wp2_with fail
 refine (Cut_7_11 a _ h0 h1).mono ?_
 rintro e w' ⟨rfl, rfl⟩
 go_wp2_with fail
 refine (Cut_15_19 a _ h0 h1).mono ?_
 rintro e w' ⟨rfl, rfl⟩
 go_wp2_with fail
 refine (Cut_20_24 a _ h0 h1).mono ?_
 rintro e w' ⟨rfl, rfl⟩
 go_wp2_with fail
 refine (Cut_31_31 a _ h0 h1).mono ?_
 rintro e w' ⟨rfl, rfl⟩
 go_wp2_with fail
 refine (Cut_25_31 a _ h0 h1).mono ?_
 rintro e w' ⟨rfl, rfl⟩
 go_wp2_with fail
 refine (Cut_7_11 a _ h0 h1).mono ?_
 rintro e w' ⟨rfl, rfl⟩
 go_wp2_with fail
 refine (signed_12 _ _ (by omega) (by omega)).mono ?_
 rintro e w' ⟨rfl, rfl⟩
 go_wp2_with fail
 refine bodyPost_ret (v := .tuple #[insV k (Dc.rdF 6 a) (Dc.rs1F 6 a) (Dc.rs2F 6 a) (Dc.immF 6 a), .bool true]) (by simp [results, Tryz.results25, go_sem, r0, r1, r2, r3, r4, f3, insV, Dc.rdF, Dc.rs1F, Dc.rs2F, Dc.hasRd, Dc.hasRs1, Dc.hasRs2, Dc.immF]) rfl ⟨by rw [DV.out, DO.out], ?_⟩
 exact (((((G.out.setCell (by simp) _).setCell (by simp) _).setCell (by simp) _).setCell (by simp) _).setCell (by simp) _).alloc _ _
theorem rdec_7 (a k : Int) (h0 : 0 ≤ a) (h1 : a < 4294967296) (hk : Dc.dop a = k) (hk1 : 1 ≤ k) (hk2 : k ≤ 59) (hf : Dc.frm k = 7) : RDec a := by
 intro w
 obtain ⟨DV0, DO0⟩ := dec_some hk hk1
 rw [hf] at DV0
 have DV : Hid (decV a = _) := DV0
 have DO : Hid (decOk a = true) := DO0
 have HK : Hid (Dc.dop a = k) := hk
 have HF : Hid (Dc.frm k = 7) := hf
 clear DV0 DO0 hk hf
 go_enter Tryz.func25, Tryz.ntmps25
 go_wp2_with fail
 refine (form_some (l := 82) h0 h1 HK.out hk1 HF.out (by decide)).mono ?_
 rintro e w1 ⟨rfl, g⟩
 obtain ⟨f1, f2, f3⟩ := fresh_of g
 have r0 := f1 0 _ rfl
 have r1 := f1 1 _ rfl
 have r2 := f1 2 _ rfl
 have r3 := f1 3 _ rfl
 have r4 := f1 4 _ rfl
 have G : Hid (Gr w w1) := ((Gr.refl _).alloc _ _).trans g
 clear f1 g
 go_wp2_with fail
 refine (Cut_7_11 a _ h0 h1).mono ?_
 rintro e w' ⟨rfl, rfl⟩
 go_wp2_with fail
 refine (Cut_15_19 a _ h0 h1).mono ?_
 rintro e w' ⟨rfl, rfl⟩
 go_wp2_with fail
 refine (Cut_20_24 a _ h0 h1).mono ?_
 rintro e w' ⟨rfl, rfl⟩
 go_wp2_with fail
 refine (Cut_31_31 a _ h0 h1).mono ?_
 rintro e w' ⟨rfl, rfl⟩
 go_wp2_with fail
 refine bodyPost_ret (v := .tuple #[insV k (Dc.rdF 7 a) (Dc.rs1F 7 a) (Dc.rs2F 7 a) (Dc.immF 7 a), .bool true]) (by simp [results, Tryz.results25, go_sem, r0, r1, r2, r3, r4, f3, insV, Dc.rdF, Dc.rs1F, Dc.rs2F, Dc.hasRd, Dc.hasRs1, Dc.hasRs2, Dc.immF]) rfl ⟨by rw [DV.out, DO.out], ?_⟩
 exact (((((G.out.setCell (by simp) _).setCell (by simp) _).setCell (by simp) _).setCell (by simp) _).setCell (by simp) _).alloc _ _
theorem rdec_8 (a k : Int) (h0 : 0 ≤ a) (h1 : a < 4294967296) (hk : Dc.dop a = k) (hk1 : 1 ≤ k) (hk2 : k ≤ 59) (hf : Dc.frm k = 8) : RDec a := by
 intro w
 obtain ⟨DV0, DO0⟩ := dec_some hk hk1
 rw [hf] at DV0
 have DV : Hid (decV a = _) := DV0
 have DO : Hid (decOk a = true) := DO0
 have HK : Hid (Dc.dop a = k) := hk
 have HF : Hid (Dc.frm k = 8) := hf
 clear DV0 DO0 hk hf
 go_enter Tryz.func25, Tryz.ntmps25
 go_wp2_with fail
 refine (form_some (l := 65) h0 h1 HK.out hk1 HF.out (by decide)).mono ?_
 rintro e w1 ⟨rfl, g⟩
 obtain ⟨f1, f2, f3⟩ := fresh_of g
 have r0 := f1 0 _ rfl
 have r1 := f1 1 _ rfl
 have r2 := f1 2 _ rfl
 have r3 := f1 3 _ rfl
 have r4 := f1 4 _ rfl
 have G : Hid (Gr w w1) := ((Gr.refl _).alloc _ _).trans g
 clear f1 g
 go_wp2_with fail
 refine (Cut_7_11 a _ h0 h1).mono ?_
 rintro e w' ⟨rfl, rfl⟩
 go_wp2_with fail
 refine (Cut_15_19 a _ h0 h1).mono ?_
 rintro e w' ⟨rfl, rfl⟩
 go_wp2_with fail
 refine (Cut_20_24 a _ h0 h1).mono ?_
 rintro e w' ⟨rfl, rfl⟩
 go_wp2_with fail
 refine (Cut_31_31 a _ h0 h1).mono ?_
 rintro e w' ⟨rfl, rfl⟩
 go_wp2_with fail
 refine (Cut_25_26 a _ h0 h1).mono ?_
 rintro e w' ⟨rfl, rfl⟩
 go_wp2_with fail
 refine bodyPost_ret (v := .tuple #[insV k (Dc.rdF 8 a) (Dc.rs1F 8 a) (Dc.rs2F 8 a) (Dc.immF 8 a), .bool true]) (by simp [results, Tryz.results25, go_sem, r0, r1, r2, r3, r4, f3, insV, Dc.rdF, Dc.rs1F, Dc.rs2F, Dc.hasRd, Dc.hasRs1, Dc.hasRs2, Dc.immF]) rfl ⟨by rw [DV.out, DO.out], ?_⟩
 exact (((((G.out.setCell (by simp) _).setCell (by simp) _).setCell (by simp) _).setCell (by simp) _).setCell (by simp) _).alloc _ _
theorem rdec_9 (a k : Int) (h0 : 0 ≤ a) (h1 : a < 4294967296) (hk : Dc.dop a = k) (hk1 : 1 ≤ k) (hk2 : k ≤ 59) (hf : Dc.frm k = 9) : RDec a := by
 intro w
 obtain ⟨DV0, DO0⟩ := dec_some hk hk1
 rw [hf] at DV0
 have DV : Hid (decV a = _) := DV0
 have DO : Hid (decOk a = true) := DO0
 have HK : Hid (Dc.dop a = k) := hk
 have HF : Hid (Dc.frm k = 9) := hf
 clear DV0 DO0 hk hf
 go_enter Tryz.func25, Tryz.ntmps25
 go_wp2_with fail
 refine (form_some (l := 69) h0 h1 HK.out hk1 HF.out (by decide)).mono ?_
 rintro e w1 ⟨rfl, g⟩
 obtain ⟨f1, f2, f3⟩ := fresh_of g
 have r0 := f1 0 _ rfl
 have r1 := f1 1 _ rfl
 have r2 := f1 2 _ rfl
 have r3 := f1 3 _ rfl
 have r4 := f1 4 _ rfl
 have G : Hid (Gr w w1) := ((Gr.refl _).alloc _ _).trans g
 clear f1 g
 go_wp2_with fail
 refine bodyPost_ret (v := .tuple #[insV k (Dc.rdF 9 a) (Dc.rs1F 9 a) (Dc.rs2F 9 a) (Dc.immF 9 a), .bool true]) (by simp [results, Tryz.results25, go_sem, r0, r1, r2, r3, r4, f3, insV, Dc.rdF, Dc.rs1F, Dc.rs2F, Dc.hasRd, Dc.hasRs1, Dc.hasRs2, Dc.immF]) rfl ⟨by rw [DV.out, DO.out], ?_⟩
 exact (((((G.out.setCell (by simp) _).setCell (by simp) _).setCell (by simp) _).setCell (by simp) _).setCell (by simp) _).alloc _ _
theorem RDecode_any (a : Int) (h0 : 0 ≤ a) (h1 : a < 4294967296) : RDec a := by
 by_cases hk : Dc.dop a = 0
 ·exact rdec_none a h0 h1 hk
 have hb := dop_bd h0 h1
 have hf := frm_pos (Dc.dop a) (by omega) hb.2
 have h : Dc.frm (Dc.dop a) = 1 ∨ Dc.frm (Dc.dop a) = 2 ∨ Dc.frm (Dc.dop a) = 3 ∨ Dc.frm (Dc.dop a) = 4 ∨ Dc.frm (Dc.dop a) = 5 ∨ Dc.frm (Dc.dop a) = 6 ∨ Dc.frm (Dc.dop a) = 7 ∨ Dc.frm (Dc.dop a) = 8 ∨ Dc.frm (Dc.dop a) = 9 := by
  have := Dc.frm_bd (Dc.dop a); omega
 rcases h with h | h | h | h | h | h | h | h | h
 ·exact rdec_1 a _ h0 h1 rfl (by omega) hb.2 h
 ·exact rdec_2 a _ h0 h1 rfl (by omega) hb.2 h
 ·exact rdec_3 a _ h0 h1 rfl (by omega) hb.2 h
 ·exact rdec_4 a _ h0 h1 rfl (by omega) hb.2 h
 ·exact rdec_5 a _ h0 h1 rfl (by omega) hb.2 h
 ·exact rdec_6 a _ h0 h1 rfl (by omega) hb.2 h
 ·exact rdec_7 a _ h0 h1 rfl (by omega) hb.2 h
 ·exact rdec_8 a _ h0 h1 rfl (by omega) hb.2 h
 ·exact rdec_9 a _ h0 h1 rfl (by omega) hb.2 h
end Go.Proofs.YtchllaeembmioaaGreatDoor.Re
namespace Go.Proofs.YtchllaeembmioaaGreatDoor.Ts
open Mm Wd Mi Bk
open Hh hiding Rn

def mdV (a : Int) (i : Iv) : List Mv :=
 if i.op = 1 then [⟨2, i.rd, 0, 0, lo i.im⟩] else if i.op = 2 then [⟨2, i.rd, 0, 0, lo (a + lo i.im)⟩]
 else if i.op = 3 then [⟨2, i.rd, 0, 0, lo (a + 4)⟩, ⟨3, 0, 0, 0, lo (a + lo i.im)⟩]
 else if i.op = 4 then [⟨528, 32, i.r1, 0, lo i.im⟩, ⟨2, i.rd, 0, 0, lo (a + 4)⟩, ⟨4, 0, 32, 0, 0⟩]
 else if 5 ≤ i.op ∧ i.op ≤ 10 then [⟨100 + i.op, 0, i.r1, i.r2, lo (a + lo i.im)⟩]
 else if 11 ≤ i.op ∧ i.op ≤ 15 then [⟨200 + i.op, i.rd, i.r1, 0, lo i.im⟩]
 else if 16 ≤ i.op ∧ i.op ≤ 18 then [⟨300 + i.op, 0, i.r1, i.r2, lo i.im⟩]
 else if i.op = 19 ∧ (i.r1 = 0 ∨ i.rd = 0) then [⟨2, i.rd, 0, 0, lo i.im⟩]
 else if 19 ≤ i.op ∧ i.op ≤ 27 then [⟨500 + opn i.op, i.rd, i.r1, 0, lo i.im⟩]
 else if 28 ≤ i.op ∧ i.op ≤ 45 then [⟨400 + i.op, i.rd, i.r1, i.r2, 0⟩]
 else if 46 ≤ i.op ∧ i.op ≤ 56 then [⟨600 + i.op, i.rd, i.r1, i.r2, 0⟩]
 else if i.op = 58 then [⟨5, 0, 0, 0, 0⟩] else if i.op = 59 then [⟨6, 0, 0, 0, 0⟩] else []
structure Iv.In (i : Iv) : Prop where
 o1 : 1 ≤ i.op
 o2 : i.op ≤ 59
 d0 : 0 ≤ i.rd
 d1 : i.rd < 32
 a0 : 0 ≤ i.r1
 a1 : i.r1 < 32
 b0 : 0 ≤ i.r2
 b1 : i.r2 < 32
theorem body_li {bf bt steps a op rd r1 r2 im : Int} (hd0 : 0 ≤ rd) (hr : rd < 32) (ho : op = 19) (h : r1 = 0 ∨ rd = 0) : BodyI bf bt steps a op rd r1 r2 im [⟨2, rd, 0, 0, lo im⟩] := fun q ov ok st z hh hl => by
 rw [one_run ov]
 have e : mic bf bt steps q ⟨2, rd, 0, 0, lo im⟩ = q.put rd (lo im) := by unfold mic; rw [if_neg (by simp), if_pos rfl]
 have hE : eff (q.h.go a) q.m op (rg q.h r1.toNat) (rg q.h r2.toNat) (lo im) = ⟨q.h.go a, q.m, [], [], some (alu 28 (rg q.h r1.toNat) (lo im))⟩ := by
  subst ho
  unfold eff
  rw [if_neg (by omega), if_neg (by omega), if_neg (by omega), if_neg (by omega), if_neg (by omega), if_pos (by omega)]
  rfl
 have e2 : q.put rd (lo im) = q.put rd (alu 28 (rg q.h r1.toNat) (lo im)) := by
  rcases h with rfl | rfl
  ·have : alu 28 (rg q.h (0 : Int).toNat) (lo im) = lo im := by
    show alu 28 (rg q.h 0) (lo im) = lo im
    rw [z, alu_add, Int.zero_add]
    exact lo_id (W.lo _)
   rw [this]
  ·rw [put_low q (by omega), put_low q (by omega)]
   rfl
 rw [e, e2]
 exact ⟨fit_put ok ov st hh hr (W.alu (ok.h.reg _) (W.lo _)) hE (by omega), over_no (op := op) (bf := bf) (bt := bt) (a := a) ov⟩
theorem body_md {bf bt steps a : Int} {i : Iv} (h : i.In) : BodyI bf bt steps a i.op i.rd i.r1 i.r2 i.im (mdV a i) := by
 obtain ⟨o1, o2, d0, d1, a0, a1, b0, b1⟩ := h
 unfold mdV
 by_cases h0 : i.op = 1
 ·rw [if_pos h0]; exact body_lui d1 h0
 rw [if_neg h0]
 by_cases h1 : i.op = 2
 ·rw [if_pos h1]; exact body_auipc d1 h1
 rw [if_neg h1]
 by_cases h2 : i.op = 3
 ·rw [if_pos h2]; exact body_jal d1 h2
 rw [if_neg h2]
 by_cases h3 : i.op = 4
 ·rw [if_pos h3]; exact body_jalr2 32 (by omega) (by omega) d1 a1 h3
 rw [if_neg h3]
 by_cases h4 : 5 ≤ i.op ∧ i.op ≤ 10
 ·rw [if_pos h4]; exact body_if a1 b1 h4
 rw [if_neg h4]
 by_cases h5 : 11 ≤ i.op ∧ i.op ≤ 15
 ·rw [if_pos h5]; exact body_ld d1 a1 h5
 rw [if_neg h5]
 by_cases h6 : 16 ≤ i.op ∧ i.op ≤ 18
 ·rw [if_pos h6]; exact body_st a1 b1 h6
 rw [if_neg h6]
 by_cases h7 : i.op = 19 ∧ (i.r1 = 0 ∨ i.rd = 0)
 ·rw [if_pos h7]; exact body_li d0 d1 h7.1 h7.2
 rw [if_neg h7]
 by_cases h8 : 19 ≤ i.op ∧ i.op ≤ 27
 ·rw [if_pos h8]; exact body_aln d1 a1 h8
 rw [if_neg h8]
 by_cases h9 : 28 ≤ i.op ∧ i.op ≤ 45
 ·rw [if_pos h9]; exact body_alu d1 a1 b1 h9
 rw [if_neg h9]
 by_cases h10 : 46 ≤ i.op ∧ i.op ≤ 56
 ·rw [if_pos h10]; exact body_atom d1 a1 b1 h10
 rw [if_neg h10]
 by_cases h11 : i.op = 58
 ·rw [if_pos h11]; exact body_call h11
 rw [if_neg h11]
 by_cases h12 : i.op = 59
 ·rw [if_pos h12]; exact body_break h12
 rw [if_neg h12]
 exact body_fence (by omega)
theorem ok_of {i : Mv} {nm : Int} (hn : named i.op = nm) (h0 : 0 ≤ nm) (hN : 8 ≤ nm ∨ i.n = 0) (hd : (nm % 2 = 1 ∨ i.d = 0) ∧ 0 ≤ i.d ∧ i.d < 36) (ha : (nm / 2 % 2 = 1 ∨ i.a = 0) ∧ 0 ≤ i.a ∧ i.a < 36) (hb : (nm / 4 % 2 = 1 ∨ i.b = 0) ∧ 0 ≤ i.b ∧ i.b < 36) : micOk i = true := by
 unfold micOk regOk
 rw [hn]
 simp only [Bool.and_eq_true, decide_eq_true_eq]
 exact ⟨h0, hN, hd, ha, hb⟩
theorem nm_if {op : Int} (h : 5 ≤ op ∧ op ≤ 10) : named (100 + op) = 14 := by unfold named; rw [if_neg (by omega), if_neg (by omega), if_neg (by omega), if_neg (by omega), if_pos (by omega)]
theorem nm_ld {op : Int} (h : 11 ≤ op ∧ op ≤ 15) : named (200 + op) = 11 := by unfold named; rw [if_neg (by omega), if_neg (by omega), if_neg (by omega), if_neg (by omega), if_neg (by omega), if_pos (by omega)]
theorem nm_st {op : Int} (h : 16 ≤ op ∧ op ≤ 18) : named (300 + op) = 14 := by unfold named; rw [if_neg (by omega), if_neg (by omega), if_neg (by omega), if_neg (by omega), if_neg (by omega), if_neg (by omega), if_pos (by omega)]
theorem nm_alu {op : Int} (h : 28 ≤ op ∧ op ≤ 45) : named (400 + op) = 7 := by unfold named; rw [if_neg (by omega), if_neg (by omega), if_neg (by omega), if_neg (by omega), if_neg (by omega), if_neg (by omega), if_neg (by omega), if_pos (by omega)]
theorem nm_aln {op : Int} (h : 28 ≤ op ∧ op ≤ 45) : named (500 + op) = 11 := by unfold named; rw [if_neg (by omega), if_neg (by omega), if_neg (by omega), if_neg (by omega), if_neg (by omega), if_neg (by omega), if_neg (by omega), if_neg (by omega), if_pos (by omega)]
theorem nm_atm {op : Int} (h : 46 ≤ op ∧ op ≤ 56) : named (600 + op) = 7 := by unfold named; rw [if_neg (by omega), if_neg (by omega), if_neg (by omega), if_neg (by omega), if_neg (by omega), if_neg (by omega), if_neg (by omega), if_neg (by omega), if_neg (by omega), if_pos (by omega)]
theorem opn_bd (op : Int) : 28 ≤ opn op ∧ opn op ≤ 45 := by unfold opn; (repeat' split) <;> omega
def Mv.Fine (i : Mv) : Prop := micOk i = true ∧ W i.n ∧ (0 ≤ i.op ∧ i.op ≤ 700)
theorem one_mem {P : Mv → Prop} {y : Mv} (h : P y) : ∀ x ∈ [y], P x := fun x hx => by rw [List.mem_singleton] at hx; subst hx; exact h
theorem z1 : (0 : Int) ≤ 0 := by decide
theorem z2 : (0 : Int) < 36 := by decide
theorem z3 (n : Int) (h : (0 : Int) ≤ n) : 0 ≤ n := h
theorem z4 (n : Int) (h : n ≤ 700) : n ≤ 700 := h
theorem z5 : (32 : Int) < 36 := by decide
theorem set_fine {rd n : Int} (d0 : 0 ≤ rd) (d1 : rd < 32) (hn : W n) : Mv.Fine ⟨2, rd, 0, 0, n⟩ := ⟨ok_of (nm := 9) (by show named 2 = 9; decide) (by omega) (by left; omega) ⟨.inl (by decide), d0, by show rd < 36; omega⟩ ⟨.inr rfl, z1, z2⟩ ⟨.inr rfl, z1, z2⟩, hn, z3 2 (by decide), z4 2 (by decide)⟩
theorem md_fine {a : Int} {i : Iv} (h : i.In) : (∀ x ∈ mdV a i, Mv.Fine x) ∧ (mdV a i).length ≤ 3 := by
 obtain ⟨o1, o2, d0, d1, a0, a1, b0, b1⟩ := h
 have w0 : W 0 := by unfold W; omega
 have hop := opn_bd i.op
 have set_ : ∀ n, W n → Mv.Fine ⟨2, i.rd, 0, 0, n⟩ := fun n hn => set_fine d0 d1 hn
 unfold mdV
 by_cases h0 : i.op = 1
 ·rw [if_pos h0]
  exact ⟨one_mem (set_ _ (W.lo _)), by simp⟩
 rw [if_neg h0]
 by_cases h1 : i.op = 2
 ·rw [if_pos h1]
  exact ⟨one_mem (set_ _ (W.lo _)), by simp⟩
 rw [if_neg h1]
 by_cases h2 : i.op = 3
 ·rw [if_pos h2]
  refine ⟨fun x hx => ?_, by simp⟩
  rcases List.mem_cons.1 hx with rfl | hx
  ·exact set_ _ (W.lo _)
  ·refine one_mem (P := Mv.Fine) ?_ x hx
   exact ⟨ok_of (nm := 8) (by show named 3 = 8; decide) (by omega) (by left; omega) ⟨.inr rfl, z1, z2⟩ ⟨.inr rfl, z1, z2⟩ ⟨.inr rfl, z1, z2⟩, W.lo _, z3 3 (by decide), z4 3 (by decide)⟩
 rw [if_neg h2]
 by_cases h3 : i.op = 4
 ·rw [if_pos h3]
  refine ⟨fun x hx => ?_, by simp⟩
  rcases List.mem_cons.1 hx with rfl | hx
  ·exact ⟨ok_of (nm := 11) (by show named 528 = 11; decide) (by omega) (by left; omega) ⟨.inl (by decide), z3 32 (by decide), z5⟩ ⟨.inl (by decide), a0, by show i.r1 < 36; omega⟩ ⟨.inr rfl, z1, z2⟩, W.lo _, z3 528 (by decide), z4 528 (by decide)⟩
  rcases List.mem_cons.1 hx with rfl | hx
  ·exact set_ _ (W.lo _)
  ·refine one_mem (P := Mv.Fine) ?_ x hx
   exact ⟨ok_of (nm := 10) (by show named 4 = 10; decide) (by omega) (by left; omega) ⟨.inr rfl, z1, z2⟩ ⟨.inl (by decide), z3 32 (by decide), z5⟩ ⟨.inr rfl, z1, z2⟩, w0, z3 4 (by decide), z4 4 (by decide)⟩
 rw [if_neg h3]
 by_cases h4 : 5 ≤ i.op ∧ i.op ≤ 10
 ·rw [if_pos h4]
  exact ⟨one_mem ⟨ok_of (nm := 14) (nm_if h4) (by omega) (by left; omega) ⟨.inr rfl, z1, z2⟩ ⟨.inl (by decide), a0, by show i.r1 < 36; omega⟩ ⟨.inl (by decide), b0, by show i.r2 < 36; omega⟩, W.lo _, by show (0 : Int) ≤ 100 + i.op; omega, by show 100 + i.op ≤ 700; omega⟩, by simp⟩
 rw [if_neg h4]
 by_cases h5 : 11 ≤ i.op ∧ i.op ≤ 15
 ·rw [if_pos h5]
  exact ⟨one_mem ⟨ok_of (nm := 11) (nm_ld h5) (by omega) (by left; omega) ⟨.inl (by decide), d0, by show i.rd < 36; omega⟩ ⟨.inl (by decide), a0, by show i.r1 < 36; omega⟩ ⟨.inr rfl, z1, z2⟩, W.lo _, by show (0 : Int) ≤ 200 + i.op; omega, by show 200 + i.op ≤ 700; omega⟩, by simp⟩
 rw [if_neg h5]
 by_cases h6 : 16 ≤ i.op ∧ i.op ≤ 18
 ·rw [if_pos h6]
  exact ⟨one_mem ⟨ok_of (nm := 14) (nm_st h6) (by omega) (by left; omega) ⟨.inr rfl, z1, z2⟩ ⟨.inl (by decide), a0, by show i.r1 < 36; omega⟩ ⟨.inl (by decide), b0, by show i.r2 < 36; omega⟩, W.lo _, by show (0 : Int) ≤ 300 + i.op; omega, by show 300 + i.op ≤ 700; omega⟩, by simp⟩
 rw [if_neg h6]
 by_cases h7 : i.op = 19 ∧ (i.r1 = 0 ∨ i.rd = 0)
 ·rw [if_pos h7]
  exact ⟨one_mem (set_ _ (W.lo _)), by simp⟩
 rw [if_neg h7]
 by_cases h8 : 19 ≤ i.op ∧ i.op ≤ 27
 ·rw [if_pos h8]
  exact ⟨one_mem ⟨ok_of (nm := 11) (nm_aln hop) (by omega) (by left; omega) ⟨.inl (by decide), d0, by show i.rd < 36; omega⟩ ⟨.inl (by decide), a0, by show i.r1 < 36; omega⟩ ⟨.inr rfl, z1, z2⟩, W.lo _, by show (0 : Int) ≤ 500 + opn i.op; omega, by show 500 + opn i.op ≤ 700; omega⟩, by simp⟩
 rw [if_neg h8]
 by_cases h9 : 28 ≤ i.op ∧ i.op ≤ 45
 ·rw [if_pos h9]
  exact ⟨one_mem ⟨ok_of (nm := 7) (nm_alu h9) (by omega) (by right; rfl) ⟨.inl (by decide), d0, by show i.rd < 36; omega⟩ ⟨.inl (by decide), a0, by show i.r1 < 36; omega⟩ ⟨.inl (by decide), b0, by show i.r2 < 36; omega⟩, w0, by show (0 : Int) ≤ 400 + i.op; omega, by show 400 + i.op ≤ 700; omega⟩, by simp⟩
 rw [if_neg h9]
 by_cases h10 : 46 ≤ i.op ∧ i.op ≤ 56
 ·rw [if_pos h10]
  exact ⟨one_mem ⟨ok_of (nm := 7) (nm_atm h10) (by omega) (by right; rfl) ⟨.inl (by decide), d0, by show i.rd < 36; omega⟩ ⟨.inl (by decide), a0, by show i.r1 < 36; omega⟩ ⟨.inl (by decide), b0, by show i.r2 < 36; omega⟩, w0, by show (0 : Int) ≤ 600 + i.op; omega, by show 600 + i.op ≤ 700; omega⟩, by simp⟩
 rw [if_neg h10]
 by_cases h11 : i.op = 58
 ·rw [if_pos h11]
  exact ⟨one_mem ⟨by decide, w0, by decide, by decide⟩, by simp⟩
 rw [if_neg h11]
 by_cases h12 : i.op = 59
 ·rw [if_pos h12]
  exact ⟨one_mem ⟨by decide, w0, by decide, by decide⟩, by simp⟩
 rw [if_neg h12]
 exact ⟨fun x hx => (by cases hx), by simp⟩
def codeV (pc : Int) : List Iv → Nat → List Mv
 | [], _ => []
 | i :: is, k => ⟨1, 0, 0, 0, at4 pc k⟩ :: (mdV (at4 pc k) i ++ codeV pc is (k + 1))
theorem codeV_snoc (pc : Int) (i : Iv) : ∀ (is : List Iv) (k : Nat), codeV pc (is ++ [i]) k = codeV pc is k ++ (⟨1, 0, 0, 0, at4 pc (k + is.length)⟩ :: mdV (at4 pc (k + is.length)) i)
 | [], k => by simp [codeV]
 | j :: is, k => by
  show _ :: (_ ++ codeV pc (is ++ [i]) (k + 1)) = _
  rw [codeV_snoc pc i is (k + 1)]
  simp [codeV, show k + 1 + is.length = k + (is.length + 1) by omega]
theorem at_fine (a : Int) (h : W a) : Mv.Fine ⟨1, 0, 0, 0, a⟩ := ⟨ok_of (nm := 8) (by show named 1 = 8; decide) (by omega) (by left; omega) ⟨.inr rfl, z1, z2⟩ ⟨.inr rfl, z1, z2⟩ ⟨.inr rfl, z1, z2⟩, h, z3 1 (by decide), z4 1 (by decide)⟩
theorem codeV_fine (pc : Int) : ∀ (is : List Iv) (k : Nat), (∀ i ∈ is, i.In) → (∀ x ∈ codeV pc is k, Mv.Fine x) ∧ (codeV pc is k).length ≤ 4 * is.length
 | [], k, _ => ⟨fun x hx => (by cases hx), by simp [codeV]⟩
 | i :: is, k, h => by
  obtain ⟨m1, m2⟩ := md_fine (a := at4 pc k) (h i (by simp))
  obtain ⟨c1, c2⟩ := codeV_fine pc is (k + 1) (fun j hj => h j (by simp [hj]))
  refine ⟨fun x hx => ?_, ?_⟩
  ·simp only [codeV, List.mem_cons, List.mem_append] at hx
   rcases hx with rfl | hx | hx
   ·exact at_fine _ (at4_bd pc k)
   ·exact m1 x hx
   ·exact c1 x hx
  ·simp only [codeV, List.length_cons, List.length_append]
   omega
theorem codeV_may (pc : Int) {is : List Iv} (h : ∀ i ∈ is, i.In) (hl : is.length ≤ 16) : mayC (codeV pc is 0) = true := by
 obtain ⟨c1, c2⟩ := codeV_fine pc is 0 h
 unfold mayC
 simp only [Bool.and_eq_true, decide_eq_true_eq, List.all_eq_true]
 exact ⟨by omega, fun x hx => (c1 x hx).1⟩
def ivX (x : Int) : Iv := ⟨Dc.dop x, Dc.rdF (Dc.frm (Dc.dop x)) x, Dc.rs1F (Dc.frm (Dc.dop x)) x, Dc.rs2F (Dc.frm (Dc.dop x)) x, Dc.immF (Dc.frm (Dc.dop x)) x⟩
theorem ivX_in {x : Int} (h0 : 0 ≤ x) (h1 : x < 4294967296) (hx : ¬ Dc.dop x = 0) : (ivX x).In := by
 have := Re.dop_bd h0 h1
 have a := rd_bd (Dc.frm (Dc.dop x)) x
 have b := rs1_bd (Dc.frm (Dc.dop x)) x
 have c := rs2_bd (Dc.frm (Dc.dop x)) x
 exact ⟨by show 1 ≤ Dc.dop x; omega, by show Dc.dop x ≤ 59; omega, a.1, a.2, b.1, b.2, c.1, c.2⟩
end Go.Proofs.YtchllaeembmioaaGreatDoor.Ts
namespace Go.Proofs.YtchllaeembmioaaGreatDoor.Mc
open Mm Hh

structure Sh where
 hs : List Hv
 m : List UInt8
 out : List Int
 steps : Nat
def hN : Hv := ⟨[], 0, false, 0, 1, 0⟩
def near (x f k : Int) : Bool := decide (0 < k ∧ f < x + 4 ∧ x < f + k)
def nearS (x : Int) (ss : List (Int × Int)) : Bool := ss.any fun p => near x p.1 p.2
def lose1 (ss : List (Int × Int)) (h : Hv) : Hv := if h.held = true ∧ nearS h.heldAt ss = true then h.hold false 0 else h
def lose (k : Nat) (ss : List (Int × Int)) (hs : List Hv) : List Hv := hs.mapIdx fun j h => if j = k then h else lose1 ss h
def at' (s : Sh) (k : Nat) : Hv := s.hs.getD k hN
def stepS (s : Sh) (k : Nat) : Sh := ⟨lose k (stp (at' s k) s.m).sto (s.hs.set k (stp (at' s k) s.m).h), (stp (at' s k) s.m).m, s.out ++ (stp (at' s k) s.m).out, s.steps + 1⟩
def runs (s : Sh) (k : Nat) : Nat → Sh
 | 0 => s
 | n + 1 => if (at' s k).state = 0 then runs (stepS s k) k n else s
def play (s : Sh) (sc : List (Nat × Nat)) : Sh := sc.foldl (fun s p => runs s p.1 p.2) s

theorem runs_stop {s : Sh} {k : Nat} (h : ¬ (at' s k).state = 0) : ∀ n, runs s k n = s
 | 0 => rfl
 | n + 1 => if_neg h
theorem runs_add (k b : Nat) : ∀ (a : Nat) (s : Sh), runs s k (a + b) = runs (runs s k a) k b
 | 0, s => by rw [Nat.zero_add]; rfl
 | a + 1, s => by
  have e1 : ∀ t, runs s k (t + 1) = if (at' s k).state = 0 then runs (stepS s k) k t else s := fun t => rfl
  rw [Nat.succ_add, e1, e1]
  split
  ·rw [runs_add k b a]
  ·rename_i h
   exact (runs_stop h b).symm
theorem play_app (s : Sh) (a b : List (Nat × Nat)) : play s (a ++ b) = play (play s a) b := List.foldl_append
theorem play_cons (s : Sh) (p : Nat × Nat) (r : List (Nat × Nat)) : play s (p :: r) = play (runs s p.1 p.2) r := rfl
structure Fit (s : Sh) (c n : Nat) : Prop where
 len : s.hs.length = c
 mem : s.m.length = n
 ok : ∀ h ∈ s.hs, h.Ok ∧ may h = true
theorem lose1_fit (ss : List (Int × Int)) {h : Hv} (o : h.Ok) (m : may h = true) : (lose1 ss h).Ok ∧ may (lose1 ss h) = true := by
 unfold lose1
 split
 ·refine ⟨o.hold false (x := 0) (by omega) (by omega), ?_⟩
  simp only [may, decide_eq_true_eq] at m ⊢
  exact ⟨m.1, fun _ => rfl, m.2.2⟩
 ·exact ⟨o, m⟩
theorem lose_len (k : Nat) (ss : List (Int × Int)) (hs : List Hv) : (lose k ss hs).length = hs.length := by simp [lose]
theorem lose_get (k : Nat) (ss : List (Int × Int)) (hs : List Hv) (j : Nat) : (lose k ss hs)[j]? = hs[j]?.map fun h => if j = k then h else lose1 ss h := by
 simp [lose, List.getElem?_mapIdx]
theorem mem_of_get {l : List Hv} {j : Nat} {h : Hv} (e : l[j]? = some h) : h ∈ l := List.mem_of_getElem? e
theorem step_fit {s : Sh} {c n k : Nat} (f : Fit s c n) (hk : k < c) (hr : (at' s k).state = 0) : Fit (stepS s k) c n := by
 have hl : k < s.hs.length := by rw [f.len]; exact hk
 have eh : s.hs[k]? = some (at' s k) := by unfold at'; rw [List.getElem?_eq_getElem hl]; simp [List.getD, hl]
 obtain ⟨ok, mk⟩ := f.ok _ (mem_of_get eh)
 have g := good_stp (rn_of mk hr) s.m
 have so := stp_ok ok s.m
 refine ⟨by simp [stepS, lose_len, f.len], by simp only [stepS]; rw [g.2.1, f.mem], fun h hm => ?_⟩
 obtain ⟨j, hj⟩ := List.getElem?_of_mem hm
 simp only [stepS] at hj
 rw [lose_get, List.getElem?_set] at hj
 by_cases e : k = j
 ·subst e
  simp only [if_true, hl, Option.map_some] at hj
  obtain rfl := Option.some.inj hj
  exact ⟨so, g.1⟩
 ·simp only [e, if_false] at hj
  cases hq : s.hs[j]? with
  | none => rw [hq] at hj; cases hj
  | some q =>
   rw [hq] at hj
   obtain ⟨a, b⟩ := f.ok q (mem_of_get hq)
   have e2 : ¬ j = k := fun x => e x.symm
   simp only [Option.map_some, e2, if_false] at hj
   obtain rfl := Option.some.inj hj
   exact lose1_fit _ a b
theorem runs_fit {c n k : Nat} (hk : k < c) : ∀ (t : Nat) {s : Sh}, Fit s c n → Fit (runs s k t) c n
 | 0, s, f => f
 | t + 1, s, f => by
  unfold runs
  split
  ·exact runs_fit hk t (step_fit f hk (by assumption))
  ·exact f
theorem play_fit {c n : Nat} : ∀ (sc : List (Nat × Nat)) {s : Sh}, (∀ p ∈ sc, p.1 < c) → Fit s c n → Fit (play s sc) c n
 | [], s, _, f => f
 | p :: r, s, h, f => by
  rw [play_cons]
  exact play_fit r (fun q hq => h q (by simp [hq])) (runs_fit (h p (by simp)) p.2 f)
end Go.Proofs.YtchllaeembmioaaGreatDoor.Mc
