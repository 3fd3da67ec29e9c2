/-
  Ref2c, Ref4g: texts of ours that lie in one file.
-/
import Derived.Test.YtkdghgiajifbdaaDoorQ24
import Derived.Test.YtkdghgiajifbdaaDoorQ15
import Derived.Test.YtkdghgiajifbdaaDoorQ18
import Derived.Test.YtkdghgiajifbdaaDoorQ19
import Derived.Test.YtkdghgiajifbdaaDoorQ20
import Derived.Test.YtkdghgiajifbdaaDoorQ21
import Derived.Test.YtkdghgiajifbdaaDoorQ22
set_option linter.unusedVariables false
set_option linter.unusedSimpArgs false
set_option maxHeartbeats 8000000
set_option maxRecDepth 100000
namespace Go.Proofs.YtkdghgiajifbdaaDoor.Re
open Go.ChangeShapes Go.WideShapes Go.ChangeAt Go.RowKit Dw

variable {a : Int} {w : World}
theorem dop_bd (h0:0≤a)(h1:a<4294967296):0≤Dc.dop a∧Dc.dop a≤59:=by
 have:=Dc.raw_bd h0 h1
 unfold Dc.dop;split<;>omega
theorem frm_pos (k:Int)(h1:1≤k)(h2:k≤59):1≤Dc.frm k:=by
 unfold Dc.frm;repeat' split
 all_goals omega
def RDec (a:Int):Prop:=∀w:World,Calls Tryd.prog 13 #[.int .u32 a] w fun e w'=>e=.returned (.tuple #[decV a,.bool (decOk a)])∧Gr w w'
theorem form_some {k f l:Int}(h0:0≤a)(h1:a<4294967296)(hk:Dc.dop a=k)(hk1:1≤k)(hf:Dc.frm k=f)(hl:letter f=l):
  Calls Tryd.prog 28 #[.int .u32 a] w fun e w'=>e=.returned (.tuple #[.int .i64 k,.int .u8 l])∧Gr w w':=by
 refine (form_any a h0 h1 w).mono ?_
 rintro e w' ⟨⟨l',rfl,h⟩,g⟩
 have e1:=h (by omega)
 rw [hk,hf,hl] at e1
 subst e1
 refine ⟨?_,g⟩
 unfold rop;rw [hk,if_neg (by omega)]
theorem form_zero (h0:0≤a)(h1:a<4294967296)(hk:Dc.dop a=0):
  Calls Tryd.prog 28 #[.int .u32 a] w fun e w'=>(∃l,e=.returned (.tuple #[.int .i64 (-1),.int .u8 l]))∧Gr w w':=by
 refine (form_any a h0 h1 w).mono ?_
 rintro e w' ⟨⟨l',rfl,h⟩,g⟩
 refine ⟨⟨l',?_⟩,g⟩
 unfold rop;rw [hk];rfl
theorem rdec_none (a:Int)(h0:0≤a)(h1:a<4294967296)(hk:Dc.dop a=0):RDec a:=by
 intro w
 obtain ⟨DV0,DO0⟩:=dec_none hk
 have DV:Hid _:=DV0
 have DO:Hid _:=DO0
 have HK:Hid _:=hk
 clear DV0 DO0 hk
 go_enter Tryd.func13,Tryd.ntmps13
 go_wp2_with fail
 refine (form_zero h0 h1 HK.out).mono ?_
 rintro e w1 ⟨⟨l,rfl⟩,g⟩
 obtain ⟨f1,f2,f3⟩:=fresh_of g
 have r0:=f1 0 _ rfl
 have r1:=f1 1 _ rfl
 have r2:=f1 2 _ rfl
 have r3:=f1 3 _ rfl
 have r4:=f1 4 _ rfl
 have G:Hid (Gr w w1):=((Gr.refl _).alloc _ _).trans g
 clear f1 g
 go_wp2_with fail
 refine bodyPost_ret (v:=.tuple #[insV 0 0 0 0 0,.bool false]) (by simp [results,Tryd.results13,go_sem,r0,r1,r2,r3,r4,f3,insV]) rfl ⟨by rw [DV.out,DO.out],?_⟩
 exact (((((G.out.setCell (by simp) _).setCell (by simp) _).setCell (by simp) _).setCell (by simp) _).setCell (by simp) _)
theorem rdec_1 (a k:Int)(h0:0≤a)(h1:a<4294967296)(hk:Dc.dop a=k)(hk1:1≤k)(hk2:k≤59)(hf:Dc.frm k=1):RDec a:=by
 intro w
 obtain ⟨DV0,DO0⟩:=dec_some hk hk1
 rw [hf] at DV0
 have DV:Hid _:=DV0
 have DO:Hid _:=DO0
 have HK:Hid _:=hk
 have HF:Hid _:=hf
 clear DV0 DO0 hk hf
 have sb:=Wd.sg_bd h0 h1
 have sb2 : -2147483648≤Wd.sg a-a%4096:=by unfold Wd.sg;split<;>omega
 go_enter Tryd.func13,Tryd.ntmps13
 go_wp2_with fail
 refine (form_some (l:=85) h0 h1 HK.out hk1 HF.out (by decide)).mono ?_
 rintro e w1 ⟨rfl,g⟩
 obtain ⟨f1,f2,f3⟩:=fresh_of g
 have r0:=f1 0 _ rfl
 have r1:=f1 1 _ rfl
 have r2:=f1 2 _ rfl
 have r3:=f1 3 _ rfl
 have r4:=f1 4 _ rfl
 have G:Hid (Gr w w1):=((Gr.refl _).alloc _ _).trans g
 clear f1 g
 go_wp2_with fail
 refine (Cut_7_11 a _ h0 h1).mono ?_
 rintro e w' ⟨rfl,rfl⟩
 go_wp2_with fail
 refine (Cut_15_19 a _ h0 h1).mono ?_
 rintro e w' ⟨rfl,rfl⟩
 go_wp2_with fail
 refine (Cut_20_24 a _ h0 h1).mono ?_
 rintro e w' ⟨rfl,rfl⟩
 go_wp2_with fail
 refine (Cut_31_31 a _ h0 h1).mono ?_
 rintro e w' ⟨rfl,rfl⟩
 go_wp2_with fail
 refine (Signed_any a _ h0 h1).mono ?_
 rintro e w' ⟨rfl,rfl⟩
 go_wp2_with fail
 refine (Cut_0_11 a _ h0 h1).mono ?_
 rintro e w' ⟨rfl,rfl⟩
 go_wp2_with fail
 refine bodyPost_ret (v:=.tuple #[insV k (Dc.rdF 1 a) (Dc.rs1F 1 a) (Dc.rs2F 1 a) (Dc.immF 1 a),.bool true]) (by simp [results,Tryd.results13,go_sem,r0,r1,r2,r3,r4,f3,insV,Dc.rdF,Dc.rs1F,Dc.rs2F,Dc.hasRd,Dc.hasRs1,Dc.hasRs2,Dc.immF]) rfl ⟨by rw [DV.out,DO.out],?_⟩
 exact (((((G.out.setCell (by simp) _).setCell (by simp) _).setCell (by simp) _).setCell (by simp) _).setCell (by simp) _).alloc _ _
theorem rdec_2 (a k:Int)(h0:0≤a)(h1:a<4294967296)(hk:Dc.dop a=k)(hk1:1≤k)(hk2:k≤59)(hf:Dc.frm k=2):RDec a:=by
 intro w
 obtain ⟨DV0,DO0⟩:=dec_some hk hk1
 rw [hf] at DV0
 have DV:Hid _:=DV0
 have DO:Hid _:=DO0
 have HK:Hid _:=hk
 have HF:Hid _:=hf
 clear DV0 DO0 hk hf
 go_enter Tryd.func13,Tryd.ntmps13
 go_wp2_with fail
 refine (form_some (l:=74) h0 h1 HK.out hk1 HF.out (by decide)).mono ?_
 rintro e w1 ⟨rfl,g⟩
 obtain ⟨f1,f2,f3⟩:=fresh_of g
 have r0:=f1 0 _ rfl
 have r1:=f1 1 _ rfl
 have r2:=f1 2 _ rfl
 have r3:=f1 3 _ rfl
 have r4:=f1 4 _ rfl
 have G:Hid (Gr w w1):=((Gr.refl _).alloc _ _).trans g
 clear f1 g
 go_wp2_with fail
 refine (Cut_7_11 a _ h0 h1).mono ?_
 rintro e w' ⟨rfl,rfl⟩
 go_wp2_with fail
 refine (Cut_15_19 a _ h0 h1).mono ?_
 rintro e w' ⟨rfl,rfl⟩
 go_wp2_with fail
 refine (Cut_20_24 a _ h0 h1).mono ?_
 rintro e w' ⟨rfl,rfl⟩
 go_wp2_with fail
 refine (Cut_31_31 a _ h0 h1).mono ?_
 rintro e w' ⟨rfl,rfl⟩
 go_wp2_with fail
 refine (Cut_12_19 a _ h0 h1).mono ?_
 rintro e w' ⟨rfl,rfl⟩
 go_wp2_with fail
 refine (Cut_20_20 a _ h0 h1).mono ?_
 rintro e w' ⟨rfl,rfl⟩
 go_wp2_with fail
 refine (Cut_21_30 a _ h0 h1).mono ?_
 rintro e w' ⟨rfl,rfl⟩
 go_wp2_with fail
 refine (signed_21 _ _ (by omega) (by omega)).mono ?_
 rintro e w' ⟨rfl,rfl⟩
 go_wp2_with fail
 refine bodyPost_ret (v:=.tuple #[insV k (Dc.rdF 2 a) (Dc.rs1F 2 a) (Dc.rs2F 2 a) (Dc.immF 2 a),.bool true]) (by simp [results,Tryd.results13,go_sem,r0,r1,r2,r3,r4,f3,insV,Dc.rdF,Dc.rs1F,Dc.rs2F,Dc.hasRd,Dc.hasRs1,Dc.hasRs2,Dc.immF]) rfl ⟨by rw [DV.out,DO.out],?_⟩
 exact (((((G.out.setCell (by simp) _).setCell (by simp) _).setCell (by simp) _).setCell (by simp) _).setCell (by simp) _).alloc _ _
theorem rdec_3 (a k:Int)(h0:0≤a)(h1:a<4294967296)(hk:Dc.dop a=k)(hk1:1≤k)(hk2:k≤59)(hf:Dc.frm k=3):RDec a:=by
 intro w
 obtain ⟨DV0,DO0⟩:=dec_some hk hk1
 rw [hf] at DV0
 have DV:Hid _:=DV0
 have DO:Hid _:=DO0
 have HK:Hid _:=hk
 have HF:Hid _:=hf
 clear DV0 DO0 hk hf
 go_enter Tryd.func13,Tryd.ntmps13
 go_wp2_with fail
 refine (form_some (l:=73) h0 h1 HK.out hk1 HF.out (by decide)).mono ?_
 rintro e w1 ⟨rfl,g⟩
 obtain ⟨f1,f2,f3⟩:=fresh_of g
 have r0:=f1 0 _ rfl
 have r1:=f1 1 _ rfl
 have r2:=f1 2 _ rfl
 have r3:=f1 3 _ rfl
 have r4:=f1 4 _ rfl
 have G:Hid (Gr w w1):=((Gr.refl _).alloc _ _).trans g
 clear f1 g
 go_wp2_with fail
 refine (Cut_7_11 a _ h0 h1).mono ?_
 rintro e w' ⟨rfl,rfl⟩
 go_wp2_with fail
 refine (Cut_15_19 a _ h0 h1).mono ?_
 rintro e w' ⟨rfl,rfl⟩
 go_wp2_with fail
 refine (Cut_20_24 a _ h0 h1).mono ?_
 rintro e w' ⟨rfl,rfl⟩
 go_wp2_with fail
 refine (Cut_31_31 a _ h0 h1).mono ?_
 rintro e w' ⟨rfl,rfl⟩
 go_wp2_with fail
 refine (Cut_20_31 a _ h0 h1).mono ?_
 rintro e w' ⟨rfl,rfl⟩
 go_wp2_with fail
 refine (signed_12 _ _ (by omega) (by omega)).mono ?_
 rintro e w' ⟨rfl,rfl⟩
 go_wp2_with fail
 refine bodyPost_ret (v:=.tuple #[insV k (Dc.rdF 3 a) (Dc.rs1F 3 a) (Dc.rs2F 3 a) (Dc.immF 3 a),.bool true]) (by simp [results,Tryd.results13,go_sem,r0,r1,r2,r3,r4,f3,insV,Dc.rdF,Dc.rs1F,Dc.rs2F,Dc.hasRd,Dc.hasRs1,Dc.hasRs2,Dc.immF]) rfl ⟨by rw [DV.out,DO.out],?_⟩
 exact (((((G.out.setCell (by simp) _).setCell (by simp) _).setCell (by simp) _).setCell (by simp) _).setCell (by simp) _).alloc _ _
theorem rdec_4 (a k:Int)(h0:0≤a)(h1:a<4294967296)(hk:Dc.dop a=k)(hk1:1≤k)(hk2:k≤59)(hf:Dc.frm k=4):RDec a:=by
 intro w
 obtain ⟨DV0,DO0⟩:=dec_some hk hk1
 rw [hf] at DV0
 have DV:Hid _:=DV0
 have DO:Hid _:=DO0
 have HK:Hid _:=hk
 have HF:Hid _:=hf
 clear DV0 DO0 hk hf
 go_enter Tryd.func13,Tryd.ntmps13
 go_wp2_with fail
 refine (form_some (l:=72) h0 h1 HK.out hk1 HF.out (by decide)).mono ?_
 rintro e w1 ⟨rfl,g⟩
 obtain ⟨f1,f2,f3⟩:=fresh_of g
 have r0:=f1 0 _ rfl
 have r1:=f1 1 _ rfl
 have r2:=f1 2 _ rfl
 have r3:=f1 3 _ rfl
 have r4:=f1 4 _ rfl
 have G:Hid (Gr w w1):=((Gr.refl _).alloc _ _).trans g
 clear f1 g
 go_wp2_with fail
 refine (Cut_7_11 a _ h0 h1).mono ?_
 rintro e w' ⟨rfl,rfl⟩
 go_wp2_with fail
 refine (Cut_15_19 a _ h0 h1).mono ?_
 rintro e w' ⟨rfl,rfl⟩
 go_wp2_with fail
 refine (Cut_20_24 a _ h0 h1).mono ?_
 rintro e w' ⟨rfl,rfl⟩
 go_wp2_with fail
 refine (Cut_31_31 a _ h0 h1).mono ?_
 rintro e w' ⟨rfl,rfl⟩
 go_wp2_with fail
 refine bodyPost_ret (v:=.tuple #[insV k (Dc.rdF 4 a) (Dc.rs1F 4 a) (Dc.rs2F 4 a) (Dc.immF 4 a),.bool true]) (by simp [results,Tryd.results13,go_sem,r0,r1,r2,r3,r4,f3,insV,Dc.rdF,Dc.rs1F,Dc.rs2F,Dc.hasRd,Dc.hasRs1,Dc.hasRs2,Dc.immF]) rfl ⟨by rw [DV.out,DO.out],?_⟩
 exact (((((G.out.setCell (by simp) _).setCell (by simp) _).setCell (by simp) _).setCell (by simp) _).setCell (by simp) _).alloc _ _
theorem rdec_5 (a k:Int)(h0:0≤a)(h1:a<4294967296)(hk:Dc.dop a=k)(hk1:1≤k)(hk2:k≤59)(hf:Dc.frm k=5):RDec a:=by
 intro w
 obtain ⟨DV0,DO0⟩:=dec_some hk hk1
 rw [hf] at DV0
 have DV:Hid _:=DV0
 have DO:Hid _:=DO0
 have HK:Hid _:=hk
 have HF:Hid _:=hf
 clear DV0 DO0 hk hf
 go_enter Tryd.func13,Tryd.ntmps13
 go_wp2_with fail
 refine (form_some (l:=66) h0 h1 HK.out hk1 HF.out (by decide)).mono ?_
 rintro e w1 ⟨rfl,g⟩
 obtain ⟨f1,f2,f3⟩:=fresh_of g
 have r0:=f1 0 _ rfl
 have r1:=f1 1 _ rfl
 have r2:=f1 2 _ rfl
 have r3:=f1 3 _ rfl
 have r4:=f1 4 _ rfl
 have G:Hid (Gr w w1):=((Gr.refl _).alloc _ _).trans g
 clear f1 g
 go_wp2_with fail
 refine (Cut_7_11 a _ h0 h1).mono ?_
 rintro e w' ⟨rfl,rfl⟩
 go_wp2_with fail
 refine (Cut_15_19 a _ h0 h1).mono ?_
 rintro e w' ⟨rfl,rfl⟩
 go_wp2_with fail
 refine (Cut_20_24 a _ h0 h1).mono ?_
 rintro e w' ⟨rfl,rfl⟩
 go_wp2_with fail
 refine (Cut_31_31 a _ h0 h1).mono ?_
 rintro e w' ⟨rfl,rfl⟩
 go_wp2_with fail
 refine (Cut_7_7 a _ h0 h1).mono ?_
 rintro e w' ⟨rfl,rfl⟩
 go_wp2_with fail
 refine (Cut_25_30 a _ h0 h1).mono ?_
 rintro e w' ⟨rfl,rfl⟩
 go_wp2_with fail
 refine (Cut_8_11 a _ h0 h1).mono ?_
 rintro e w' ⟨rfl,rfl⟩
 go_wp2_with fail
 refine (signed_13 _ _ (by omega) (by omega)).mono ?_
 rintro e w' ⟨rfl,rfl⟩
 go_wp2_with fail
 refine bodyPost_ret (v:=.tuple #[insV k (Dc.rdF 5 a) (Dc.rs1F 5 a) (Dc.rs2F 5 a) (Dc.immF 5 a),.bool true]) (by simp [results,Tryd.results13,go_sem,r0,r1,r2,r3,r4,f3,insV,Dc.rdF,Dc.rs1F,Dc.rs2F,Dc.hasRd,Dc.hasRs1,Dc.hasRs2,Dc.immF]) rfl ⟨by rw [DV.out,DO.out],?_⟩
 exact (((((G.out.setCell (by simp) _).setCell (by simp) _).setCell (by simp) _).setCell (by simp) _).setCell (by simp) _).alloc _ _
theorem rdec_6 (a k:Int)(h0:0≤a)(h1:a<4294967296)(hk:Dc.dop a=k)(hk1:1≤k)(hk2:k≤59)(hf:Dc.frm k=6):RDec a:=by
 intro w
 obtain ⟨DV0,DO0⟩:=dec_some hk hk1
 rw [hf] at DV0
 have DV:Hid _:=DV0
 have DO:Hid _:=DO0
 have HK:Hid _:=hk
 have HF:Hid _:=hf
 clear DV0 DO0 hk hf
 go_enter Tryd.func13,Tryd.ntmps13
 go_wp2_with fail
 refine (form_some (l:=83) h0 h1 HK.out hk1 HF.out (by decide)).mono ?_
 rintro e w1 ⟨rfl,g⟩
 obtain ⟨f1,f2,f3⟩:=fresh_of g
 have r0:=f1 0 _ rfl
 have r1:=f1 1 _ rfl
 have r2:=f1 2 _ rfl
 have r3:=f1 3 _ rfl
 have r4:=f1 4 _ rfl
 have G:Hid (Gr w w1):=((Gr.refl _).alloc _ _).trans g
 clear f1 g
 go_wp2_with fail
 refine (Cut_7_11 a _ h0 h1).mono ?_
 rintro e w' ⟨rfl,rfl⟩
 go_wp2_with fail
 refine (Cut_15_19 a _ h0 h1).mono ?_
 rintro e w' ⟨rfl,rfl⟩
 go_wp2_with fail
 refine (Cut_20_24 a _ h0 h1).mono ?_
 rintro e w' ⟨rfl,rfl⟩
 go_wp2_with fail
 refine (Cut_31_31 a _ h0 h1).mono ?_
 rintro e w' ⟨rfl,rfl⟩
 go_wp2_with fail
 refine (Cut_25_31 a _ h0 h1).mono ?_
 rintro e w' ⟨rfl,rfl⟩
 go_wp2_with fail
 refine (Cut_7_11 a _ h0 h1).mono ?_
 rintro e w' ⟨rfl,rfl⟩
 go_wp2_with fail
 refine (signed_12 _ _ (by omega) (by omega)).mono ?_
 rintro e w' ⟨rfl,rfl⟩
 go_wp2_with fail
 refine bodyPost_ret (v:=.tuple #[insV k (Dc.rdF 6 a) (Dc.rs1F 6 a) (Dc.rs2F 6 a) (Dc.immF 6 a),.bool true]) (by simp [results,Tryd.results13,go_sem,r0,r1,r2,r3,r4,f3,insV,Dc.rdF,Dc.rs1F,Dc.rs2F,Dc.hasRd,Dc.hasRs1,Dc.hasRs2,Dc.immF]) rfl ⟨by rw [DV.out,DO.out],?_⟩
 exact (((((G.out.setCell (by simp) _).setCell (by simp) _).setCell (by simp) _).setCell (by simp) _).setCell (by simp) _).alloc _ _
theorem rdec_7 (a k:Int)(h0:0≤a)(h1:a<4294967296)(hk:Dc.dop a=k)(hk1:1≤k)(hk2:k≤59)(hf:Dc.frm k=7):RDec a:=by
 intro w
 obtain ⟨DV0,DO0⟩:=dec_some hk hk1
 rw [hf] at DV0
 have DV:Hid _:=DV0
 have DO:Hid _:=DO0
 have HK:Hid _:=hk
 have HF:Hid _:=hf
 clear DV0 DO0 hk hf
 go_enter Tryd.func13,Tryd.ntmps13
 go_wp2_with fail
 refine (form_some (l:=82) h0 h1 HK.out hk1 HF.out (by decide)).mono ?_
 rintro e w1 ⟨rfl,g⟩
 obtain ⟨f1,f2,f3⟩:=fresh_of g
 have r0:=f1 0 _ rfl
 have r1:=f1 1 _ rfl
 have r2:=f1 2 _ rfl
 have r3:=f1 3 _ rfl
 have r4:=f1 4 _ rfl
 have G:Hid (Gr w w1):=((Gr.refl _).alloc _ _).trans g
 clear f1 g
 go_wp2_with fail
 refine (Cut_7_11 a _ h0 h1).mono ?_
 rintro e w' ⟨rfl,rfl⟩
 go_wp2_with fail
 refine (Cut_15_19 a _ h0 h1).mono ?_
 rintro e w' ⟨rfl,rfl⟩
 go_wp2_with fail
 refine (Cut_20_24 a _ h0 h1).mono ?_
 rintro e w' ⟨rfl,rfl⟩
 go_wp2_with fail
 refine (Cut_31_31 a _ h0 h1).mono ?_
 rintro e w' ⟨rfl,rfl⟩
 go_wp2_with fail
 refine bodyPost_ret (v:=.tuple #[insV k (Dc.rdF 7 a) (Dc.rs1F 7 a) (Dc.rs2F 7 a) (Dc.immF 7 a),.bool true]) (by simp [results,Tryd.results13,go_sem,r0,r1,r2,r3,r4,f3,insV,Dc.rdF,Dc.rs1F,Dc.rs2F,Dc.hasRd,Dc.hasRs1,Dc.hasRs2,Dc.immF]) rfl ⟨by rw [DV.out,DO.out],?_⟩
 exact (((((G.out.setCell (by simp) _).setCell (by simp) _).setCell (by simp) _).setCell (by simp) _).setCell (by simp) _).alloc _ _
theorem rdec_8 (a k:Int)(h0:0≤a)(h1:a<4294967296)(hk:Dc.dop a=k)(hk1:1≤k)(hk2:k≤59)(hf:Dc.frm k=8):RDec a:=by
 intro w
 obtain ⟨DV0,DO0⟩:=dec_some hk hk1
 rw [hf] at DV0
 have DV:Hid _:=DV0
 have DO:Hid _:=DO0
 have HK:Hid _:=hk
 have HF:Hid _:=hf
 clear DV0 DO0 hk hf
 go_enter Tryd.func13,Tryd.ntmps13
 go_wp2_with fail
 refine (form_some (l:=65) h0 h1 HK.out hk1 HF.out (by decide)).mono ?_
 rintro e w1 ⟨rfl,g⟩
 obtain ⟨f1,f2,f3⟩:=fresh_of g
 have r0:=f1 0 _ rfl
 have r1:=f1 1 _ rfl
 have r2:=f1 2 _ rfl
 have r3:=f1 3 _ rfl
 have r4:=f1 4 _ rfl
 have G:Hid (Gr w w1):=((Gr.refl _).alloc _ _).trans g
 clear f1 g
 go_wp2_with fail
 refine (Cut_7_11 a _ h0 h1).mono ?_
 rintro e w' ⟨rfl,rfl⟩
 go_wp2_with fail
 refine (Cut_15_19 a _ h0 h1).mono ?_
 rintro e w' ⟨rfl,rfl⟩
 go_wp2_with fail
 refine (Cut_20_24 a _ h0 h1).mono ?_
 rintro e w' ⟨rfl,rfl⟩
 go_wp2_with fail
 refine (Cut_31_31 a _ h0 h1).mono ?_
 rintro e w' ⟨rfl,rfl⟩
 go_wp2_with fail
 refine (Cut_25_26 a _ h0 h1).mono ?_
 rintro e w' ⟨rfl,rfl⟩
 go_wp2_with fail
 refine bodyPost_ret (v:=.tuple #[insV k (Dc.rdF 8 a) (Dc.rs1F 8 a) (Dc.rs2F 8 a) (Dc.immF 8 a),.bool true]) (by simp [results,Tryd.results13,go_sem,r0,r1,r2,r3,r4,f3,insV,Dc.rdF,Dc.rs1F,Dc.rs2F,Dc.hasRd,Dc.hasRs1,Dc.hasRs2,Dc.immF]) rfl ⟨by rw [DV.out,DO.out],?_⟩
 exact (((((G.out.setCell (by simp) _).setCell (by simp) _).setCell (by simp) _).setCell (by simp) _).setCell (by simp) _).alloc _ _
theorem rdec_9 (a k:Int)(h0:0≤a)(h1:a<4294967296)(hk:Dc.dop a=k)(hk1:1≤k)(hk2:k≤59)(hf:Dc.frm k=9):RDec a:=by
 intro w
 obtain ⟨DV0,DO0⟩:=dec_some hk hk1
 rw [hf] at DV0
 have DV:Hid _:=DV0
 have DO:Hid _:=DO0
 have HK:Hid _:=hk
 have HF:Hid _:=hf
 clear DV0 DO0 hk hf
 go_enter Tryd.func13,Tryd.ntmps13
 go_wp2_with fail
 refine (form_some (l:=69) h0 h1 HK.out hk1 HF.out (by decide)).mono ?_
 rintro e w1 ⟨rfl,g⟩
 obtain ⟨f1,f2,f3⟩:=fresh_of g
 have r0:=f1 0 _ rfl
 have r1:=f1 1 _ rfl
 have r2:=f1 2 _ rfl
 have r3:=f1 3 _ rfl
 have r4:=f1 4 _ rfl
 have G:Hid (Gr w w1):=((Gr.refl _).alloc _ _).trans g
 clear f1 g
 go_wp2_with fail
 refine bodyPost_ret (v:=.tuple #[insV k (Dc.rdF 9 a) (Dc.rs1F 9 a) (Dc.rs2F 9 a) (Dc.immF 9 a),.bool true]) (by simp [results,Tryd.results13,go_sem,r0,r1,r2,r3,r4,f3,insV,Dc.rdF,Dc.rs1F,Dc.rs2F,Dc.hasRd,Dc.hasRs1,Dc.hasRs2,Dc.immF]) rfl ⟨by rw [DV.out,DO.out],?_⟩
 exact (((((G.out.setCell (by simp) _).setCell (by simp) _).setCell (by simp) _).setCell (by simp) _).setCell (by simp) _).alloc _ _
theorem RDecode_any (a:Int)(h0:0≤a)(h1:a<4294967296):RDec a:=by
 by_cases hk:Dc.dop a=0
 ·exact rdec_none a h0 h1 hk
 have hb:=dop_bd h0 h1
 have hf:=frm_pos (Dc.dop a) (by omega) hb.2
 have h:Dc.frm (Dc.dop a)=1∨Dc.frm (Dc.dop a)=2∨Dc.frm (Dc.dop a)=3∨Dc.frm (Dc.dop a)=4∨Dc.frm (Dc.dop a)=5∨Dc.frm (Dc.dop a)=6∨Dc.frm (Dc.dop a)=7∨Dc.frm (Dc.dop a)=8∨Dc.frm (Dc.dop a)=9:=by
  have:=Dc.frm_bd (Dc.dop a);omega
 rcases h with h|h|h|h|h|h|h|h|h
 ·exact rdec_1 a _ h0 h1 rfl (by omega) hb.2 h
 ·exact rdec_2 a _ h0 h1 rfl (by omega) hb.2 h
 ·exact rdec_3 a _ h0 h1 rfl (by omega) hb.2 h
 ·exact rdec_4 a _ h0 h1 rfl (by omega) hb.2 h
 ·exact rdec_5 a _ h0 h1 rfl (by omega) hb.2 h
 ·exact rdec_6 a _ h0 h1 rfl (by omega) hb.2 h
 ·exact rdec_7 a _ h0 h1 rfl (by omega) hb.2 h
 ·exact rdec_8 a _ h0 h1 rfl (by omega) hb.2 h
 ·exact rdec_9 a _ h0 h1 rfl (by omega) hb.2 h
end Go.Proofs.YtkdghgiajifbdaaDoor.Re
namespace Go.Proofs.YtkdghgiajifbdaaDoor.Hr
open Go.ChangeShapes Go.WideShapes Go.ChangeAt Go.RowKit Mm Hh

variable {h : Hv} {op a b : Int} {n cap : Nat} {ao : Option Addr} {l : List UInt8} {w : World}
theorem on_set (hs:h.state=0)(r:Nat)(x y:Int):(h.set r x).on y=(h.set r x).go y:=by
 unfold Hv.on;rw [if_pos];unfold Hv.set;split<;>exact hs
theorem on_of (hs:h.state=0)(y:Int):h.on y=h.go y:=by unfold Hv.on;rw [if_pos hs]
theorem on_trap (c y:Int):(h.trap c).on y=h.trap c:=if_neg (by show ¬(2:Int)=0;omega)
theorem on_halt (y:Int):h.halt.on y=h.halt:=if_neg (by show ¬(1:Int)=0;omega)
theorem holds_no (h:¬(5≤op∧op≤10)):Wd.holds op a b=false:=by
 unfold Wd.holds
 repeat' (rw [if_neg (by omega)])
theorem nxt_plain {n:Int}(h3:¬op=3)(h4:¬op=4)(hb:¬(5≤op∧op≤10)):nxt h op a b n=Wd.lo (h.pc+4):=by
 unfold nxt;rw [if_neg h4,if_neg];rw [holds_no hb];simp [h3]
theorem rs_ins {x rd:Int}{r1 r2:Nat}{im:Int}(P:Pr h ao n cap l w x op rd r1 r2 im)(hs:h.state=0)(h0:1≤op)(h1:op≤59):
  RStep h ao n cap w (ins h l op rd r1 r2 im):=by
 unfold ins eff
 simp only [Int.toNat_natCast]
 by_cases e1:op=1
 ·have:=rs_1 P e1
  rw [if_pos e1,nxt_plain (by omega) (by omega) (by omega)]
  unfold done Hv.put;simp only;rw [on_set hs];exact this
 rw [if_neg e1]
 by_cases e2:op=2
 ·have:=rs_2 P e2
  rw [if_pos e2,nxt_plain (by omega) (by omega) (by omega)]
  unfold done Hv.put;simp only;rw [on_set hs];exact this
 rw [if_neg e2]
 by_cases e3:op=3
 ·have:=rs_3 P e3
  rw [if_pos (.inl e3)]
  unfold done Hv.put nxt;simp only;rw [on_set hs,if_neg (by omega),if_pos (.inl e3)];exact this
 by_cases e4:op=4
 ·have:=rs_4 P e4
  rw [if_pos (.inr e4)]
  unfold done Hv.put nxt;simp only;rw [on_set hs,if_pos e4];exact this
 rw [if_neg (by omega)]
 by_cases eb:5≤op∧op≤10
 ·rw [if_neg (by omega),if_neg (by omega),if_neg (by omega),if_neg (by omega),if_neg (by omega),if_neg (by omega),if_neg (by omega)]
  unfold done Hv.put nxt;simp only
  rw [on_of hs,if_neg (by omega)]
  cases hb:Wd.holds op (rg h r1) (rg h r2) with
  | true=>rw [if_pos (.inr rfl)];exact rs_bry P eb hb
  | false=>rw [if_neg (by simp [e3])];exact rs_brn P eb hb
 rw [nxt_plain e3 e4 eb]
 by_cases el:11≤op∧op≤15
 ·rw [if_pos el]
  unfold efLoad
  cases hb:ldOk l op (Wd.lo (rg h r1+Wd.lo im)) with
  | true=>rw [if_pos rfl];unfold done Hv.put;simp only;rw [on_set hs];exact rs_loady P el hb
  | false=>rw [if_neg (by simp)];unfold done Hv.put;simp only;rw [on_trap];exact rs_loadn P el hb
 rw [if_neg el]
 by_cases es:16≤op∧op≤18
 ·rw [if_pos es]
  unfold efStore
  cases hb:stOk l op (Wd.lo (rg h r1+Wd.lo im)) with
  | true=>rw [if_pos rfl];unfold done Hv.put;simp only;rw [on_of hs];exact rs_storey P es hb
  | false=>rw [if_neg (by simp)];unfold done Hv.put;simp only;rw [on_trap];exact rs_storen P es hb
 rw [if_neg es]
 by_cases ei:19≤op∧op≤27
 ·rw [if_pos ei];unfold done Hv.put;simp only;rw [on_set hs];exact rs_alun P ei
 rw [if_neg ei]
 by_cases ea:28≤op∧op≤45
 ·rw [if_pos ea];unfold done Hv.put;simp only;rw [on_set hs];exact rs_alu P ea
 rw [if_neg ea]
 by_cases et:46≤op∧op≤56
 ·rw [if_pos et]
  unfold efAtom efLr efSc efAmo
  cases hb:ldOk l 13 (rg h r1) with
  | false=>
   have:=rs_atf P et hb _ rfl
   by_cases k:op=46
   ·rw [if_pos k] at this ⊢;rw [if_neg (by simp)];unfold done Hv.put;simp only;rw [on_trap];exact this
   ·rw [if_neg k] at this;rw [if_neg k];simp only [Bool.false_eq_true,if_false,ite_self];unfold done Hv.put;simp only;rw [on_trap];exact this
  | true=>
   by_cases k:op=46
   ·rw [if_pos k,if_pos rfl];unfold done Hv.put;simp only;rw [on_set (by exact hs)];exact rs_atlr P k hb
   ·rw [if_neg k]
    by_cases k2:op=47
    ·rw [if_pos k2,if_pos rfl]
     by_cases mi:h.held=true∧h.heldAt=rg h r1
     ·rw [if_pos mi];unfold done Hv.put;simp only;rw [on_set (by exact hs)];exact rs_atscy P k2 hb mi
     ·rw [if_neg mi];unfold done Hv.put;simp only;rw [on_set (by exact hs)];exact rs_atscn P k2 hb mi
    ·rw [if_neg k2,if_pos rfl];unfold done Hv.put;simp only;rw [on_set hs];exact rs_atamo P (by omega) hb
 rw [if_neg et]
 by_cases ec:op=58
 ·rw [if_pos ec]
  unfold efCall
  by_cases q0:rg h 17=0
  ·rw [if_pos q0];unfold done Hv.put;simp only;rw [on_halt];exact rs_callh P ec q0
  ·by_cases q1:rg h 17=1
   ·rw [if_neg q0,if_pos q1];unfold done Hv.put;simp only;rw [on_of hs];exact rs_callo P ec q1
   ·rw [if_neg q0,if_neg q1];unfold done Hv.put;simp only;rw [on_trap];exact rs_callt P ec ⟨q0,q1⟩
 rw [if_neg ec]
 by_cases ee:op=59
 ·rw [if_pos ee];unfold done Hv.put;simp only;rw [on_trap];exact rs_break P ee
 rw [if_neg ee]
 unfold done Hv.put;simp only;rw [on_of hs];exact rs_fence P (by omega)
theorem r1_bd (f x:Int):0≤Dc.rs1F f x∧Dc.rs1F f x<32:=by unfold Dc.rs1F;split<;>omega
theorem r2_bd (f x:Int):0≤Dc.rs2F f x∧Dc.rs2F f x<32:=by unfold Dc.rs2F;split<;>omega
theorem rd_bd (f x:Int):0≤Dc.rdF f x∧Dc.rdF f x<32:=by unfold Dc.rdF;split<;>omega
theorem imm_bd {v:Int}(f:Int)(h0:0≤v)(h1:v<4294967296) : -2147483648≤Dc.immF f v∧Dc.immF f v<2147483648:=by
 unfold Dc.immF Wd.sg Dc.sgn
 repeat' split
 all_goals omega
theorem rstep_any (o:h.Ok)(M:Mem w ao n l)(hn:n≤140737488351232)(hs:h.state=0):RStep h ao n cap w (stp h l):=by
 unfold stp
 cases ok:ldOk l 13 h.pc with
 | false=>rw [if_neg (by simp)];exact rs_fetch o M hn ok
 | true=>
  rw [if_pos rfl]
  have wx:=W.ldV l 13 h.pc
  have R:=Re.RDecode_any (ldV l 13 h.pc) wx.1 wx.2
  unfold Re.RDec at R
  generalize hx:ldV l 13 h.pc=x at *
  unfold insW
  by_cases hd:Dc.dop x=0
  ·rw [if_pos hd]
   obtain ⟨d1,d2⟩:=Dw.dec_none hd
   refine rs_word o M hn ok fun W=>?_
   rw [hx]
   have:=R W
   rw [d1,d2] at this
   exact this.mono fun e w' h=>⟨h.1,h.2.1⟩
  ·rw [if_neg hd]
   have d2:Dw.decOk x=true:=by unfold Dw.decOk;simp [hd]
   have hb:=Re.dop_bd wx.1 wx.2
   have ib:=imm_bd (Dc.frm (Dc.dop x)) wx.1 wx.2
   have a1:=r1_bd (Dc.frm (Dc.dop x)) x
   have a2:=r2_bd (Dc.frm (Dc.dop x)) x
   obtain ⟨r1,e1⟩:=Int.eq_ofNat_of_zero_le a1.1
   obtain ⟨r2,e2⟩:=Int.eq_ofNat_of_zero_le a2.1
   rw [e1,e2]
   rw [e1] at a1
   rw [e2] at a2
   refine rs_ins (x:=x) ⟨o,M,hn,ok,hx.symm,fun W=>?_,(rd_bd _ _).1,(rd_bd _ _).2,by omega,by omega,ib.1,ib.2⟩ hs (by omega) hb.2
   have:=R W
   unfold Dw.decV Dw.insV at this
   rw [d2,e1,e2] at this
   exact this.mono fun e w' h=>⟨h.1,h.2.1⟩
end Go.Proofs.YtkdghgiajifbdaaDoor.Hr
