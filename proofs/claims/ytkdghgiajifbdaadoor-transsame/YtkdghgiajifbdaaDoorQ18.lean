/-
  Ref4r, Ref4f1: texts of ours that lie in one file.
-/
import Derived.Test.YtkdghgiajifbdaaDoorQ17
set_option linter.unusedVariables false
set_option linter.unusedSimpArgs false
set_option maxHeartbeats 8000000
set_option maxRecDepth 100000
namespace Go.Proofs.YtkdghgiajifbdaaDoor.Hr
open Go.ChangeShapes Go.WideShapes Go.ChangeAt Go.RowKit Mm Hh

variable {d : Dv} {rd im : Int} {w w5 : World} {J r1 r2 : Nat} {Z : Array Value}
structure Rest (P:Prop):Prop where
 out:P
theorem rshare {P Q:Prop}(h:Rest P→Q)(p:P):Q:=h ⟨p⟩
def rsRest {h:Hv} {ao:Option Addr} {n cap:Nat} {l:List UInt8} {w:World} {x op rd:Int} {r1 r2:Nat} {im:Int} (P:Pr h ao n cap l w x op rd r1 r2 im) (S:Sv):(G:Prop) ×' (Rest G→RStep h ao n cap w S):=by
 apply PSigma.mk
 intro CONT
 unfold RStep
 have o:=P.o
 have M:=P.M
 have hn:=P.hn
 have ok:=P.ok
 have D:=P.D
 rw [P.ex] at D
 have s1:=P.s1
 have t1:=P.t1
 have i0:=P.i0
 have i1:=P.i1
 have HD:Hid _:=D
 have wp:=W.pc o
 have wa:=W.reg o r1
 have wb:=W.reg o r2
 have wn:=W.lo im
 have Fo:Hid (∀W:World,Calls Tryd.prog 67 #[.int .i64 im] W fun e w'=>e=.returned (.int .u32 (Wd.lo im))∧Gr W w'):=fun W=>(Rw.Of_any im W (by omega) (by omega)).mono fun e w' h=>⟨h.1,by rw [h.2];exact Gr.refl _⟩
 have S4:Hid (∀W:World,Calls Tryd.prog 78 #[.int .u32 h.pc,.int .u32 4] W fun e w'=>e=.returned (.int .u32 (Wd.lo (h.pc+4)))∧Gr W w'):=fun W=>(sum_any h.pc 4 W wp.1 wp.2 (by omega) (by omega)).mono fun e w' h=>⟨h.1,by rw [h.2];exact Gr.refl _⟩
 have ST:Hid (∀W:World,Calls Tryd.prog 78 #[.int .u32 (rg h r1),.int .u32 (Wd.lo im)] W fun e w'=>e=.returned (.int .u32 (Wd.lo (rg h r1+Wd.lo im)))∧Gr W w'):=fun W=>(sum_any _ _ W wa.1 wa.2 wn.1 wn.2).mono fun e w' h=>⟨h.1,by rw [h.2];exact Gr.refl _⟩
 have SP:Hid (∀W:World,Calls Tryd.prog 78 #[.int .u32 h.pc,.int .u32 (Wd.lo im)] W fun e w'=>e=.returned (.int .u32 (Wd.lo (h.pc+Wd.lo im)))∧Gr W w'):=fun W=>(sum_any _ _ W wp.1 wp.2 wn.1 wn.2).mono fun e w' h=>⟨h.1,by rw [h.2];exact Gr.refl _⟩
 have g1:(hA h)[r1]?=some (.int .u32 (rg h r1)):=by simp only [hA,List.getElem?_toArray];exact hL_reg o s1
 have g2:(hA h)[r2]?=some (.int .u32 (rg h r2)):=by simp only [hA,List.getElem?_toArray];exact hL_reg o t1
 have HM:Hid _:=M
 have L:Hid (∀W:World,Gr w W→Calls Tryd.prog 38 #[.slice ao n cap,.int .i64 13,.int .u32 h.pc] W fun e w'=>e=.returned (.tuple #[.int .u32 (ldV l 13 h.pc),.bool true])∧Gr W w'):=fun W G=>by
  have:=Mr.Load_any cap 13 h.pc (M.of G) hn o.pc0 o.pc1
  rw [ok] at this
  exact this.mono fun e w' h=>⟨h.1,by rw [h.2];exact Gr.refl _⟩
 have HBu:Hid (Tryd.prog.built 95 [(0,.agg (hA h)),(1,.slice ao n cap)]=some (dA (dv0 h (.slice ao n cap)))):=Hc.built_did o _ rfl
 have HS:Hid ((hA h).size=37):=hA_size o
 have HS0:Hid ((dA (dv0 h (.slice ao n cap))).size=41):=dA_size (d:=dv0 _ _) o
 have HO0:Hid ((dA (dv0 h (.slice ao n cap))).all (·.oneCell')=true):=one_dA (dv0_ok o _ _ _)
 have gpc:(hA h)[32]?=some (.int .u32 h.pc):=by simp only [hA,List.getElem?_toArray];exact hL_fld o 0
 generalize hE0:dA (dv0 h (.slice ao n cap))=D0 at *
 generalize hE1:hA h=H at *
 generalize hth:(Wd.lo (rg h r1+Wd.lo im))=th at *
 generalize hpn:(Wd.lo (h.pc+Wd.lo im))=pn at *
 generalize hp4:(Wd.lo (h.pc+4))=p4 at *
 generalize hnn:(Wd.lo im)=nn at *
 generalize hxa:(rg h r1)=xa at *
 generalize hxb:(rg h r2)=xb at *
 generalize hlx:ldV l 13 h.pc=lx at *
 generalize hpc:h.pc=pc at *
 have EQS:Hid ((dA (dv0 h (.slice ao n cap))=D0∧hA h=H∧ldV l 13 pc=lx)∧rg h r1=xa∧rg h r2=xb∧Wd.lo im=nn∧Wd.lo (pc+4)=p4∧Wd.lo (xa+nn)=th∧h.pc=pc):=⟨⟨hE0,hE1,hlx⟩,hxa,hxb,hnn,hp4,hth,hpc⟩
 clear hE0 hE1 hth hpn hp4 hnn hxa hxb hlx hpc
 clear M ok o D wp wa wb wn
 have kpc:∀Z Y:Array Value,((((w.alloc (.cells H 43)).alloc (.cells Z 95)).alloc (.cells Y 95)).setRow (w.heap.size+1+1) D0).cell? ⟨w.heap.size,32,none⟩=some (.int .u32 pc):=fun Z Y=>((three_of (Gr.refl _)).cellH 32).trans gpc
 go_enter Tryd.func42,Tryd.ntmps42
 go_wp2_with (first
  | (refine wpList_load_row rfl 43 _ rfl w.heap.size rfl 43 H (0,0) _ ?ha1 Tryd.underlying43 rfl (by rw [HS.out];exact iH) ?_;(case ha1=>exact heap_alloc2_old w _ _))
  | (refine wpList_buildTo rfl 95 _ rfl _ rfl D0 (by have:=HBu.out;simp [Act.eval,Act.put];exact this) ?_)
  | (refine wpList_store_row rfl 95 _ _ rfl (w.heap.size+1+1) D0 rfl rfl 95 _ (third_of w _ _ _) (by rw [HS0.out];exact iD) (by rw [HS0.out];rfl) HO0.out ?_))
 refine (L.out _ (gr_three w _ _ _ _)).mono ?_
 rintro e w1 ⟨rfl,G1⟩
 have HZ:Hid (∃Z:Array Value,Z.size=41∧Bt w1 w.heap.size H Z D0):=⟨_,rfl,three_of G1⟩
 obtain ⟨Z,hz,hb⟩:=HZ.out
 have HG1:Hid (Gr w w1):=(gr_three w _ _ _ _).trans G1
 have HB1:Hid _:=hb
 clear G1 L hb HZ HBu kpc
 go_wp2_with fail
 refine (HD.out _).mono ?_
 rintro e w2 ⟨rfl,G2⟩
 have HB2:Hid (Bt w2 w.heap.size H Z D0):=HB1.out.of G2
 have HG2:Hid (Gr w w2):=HG1.out.trans G2
 have hJ:w.heap.size+1+1<w2.heap.size:=HB2.out.lt
 have HBs:Hid (Bs (w2.alloc (.cells #[.int .i64 op,.int .i64 rd,.int .i64 r1,.int .i64 r2,.int .i32 im] 23)) w.heap.size w2.heap.size H Z D0 #[.int .i64 op,.int .i64 rd,.int .i64 r1,.int .i64 r2,.int .i32 im]):=⟨HB2.out.of ((Gr.refl _).alloc _),heap_alloc_new w2 _⟩
 have kr1:w2.cell? ⟨w.heap.size,r1,none⟩=some (.int .u32 xa):=(HB2.out.cellH r1).trans g1
 have kr2:w2.cell? ⟨w.heap.size,r2,none⟩=some (.int .u32 xb):=(HB2.out.cellH r2).trans g2
 have hB2:w.heap.size<w2.heap.size:=by omega
 clear G2 HD HB1 HG1
 go_wp2_with fail
 refine (Fo.out _).mono ?_
 rintro e w3 ⟨rfl,G3⟩
 have HB3:Hid (Bs w3 w.heap.size w2.heap.size H Z D0 #[.int .i64 op,.int .i64 rd,.int .i64 r1,.int .i64 r2,.int .i32 im]):=HBs.out.of G3
 have HG3:Hid (Gr w w3):=(HG2.out.alloc _).trans G3
 have kpc:w3.cell? ⟨w.heap.size,32,none⟩=some (.int .u32 pc):=(HB3.out.t.cellH 32).trans gpc
 clear G3 Fo HB2 HG2 HBs kr1 kr2
 go_wp2_with fail
 refine (S4.out _).mono ?_
 rintro e w4 ⟨rfl,G4⟩
 have HB4:Hid (Bs w4 w.heap.size w2.heap.size H Z D0 #[.int .i64 op,.int .i64 rd,.int .i64 r1,.int .i64 r2,.int .i32 im]):=HB3.out.of G4
 have HG4:Hid (Gr w w4):=HG3.out.trans G4
 clear G4 S4 HB3 HG3 kpc
 go_wp2_with fail
 refine (ST.out _).mono ?_
 rintro e w5 ⟨rfl,G5⟩
 have HB5:Hid (Bs w5 w.heap.size w2.heap.size H Z D0 #[.int .i64 op,.int .i64 rd,.int .i64 r1,.int .i64 r2,.int .i32 im]):=HB4.out.of G5
 have HG5:Hid (Gr w w5):=HG4.out.trans G5
 have kpc:w5.cell? ⟨w.heap.size,32,none⟩=some (.int .u32 pc):=(HB5.out.t.cellH 32).trans gpc
 have kop:w5.cell? ⟨w2.heap.size,0,none⟩=some (.int .i64 op):=HB5.out.cellI 0
 have krd:w5.cell? ⟨w2.heap.size,1,none⟩=some (.int .i64 rd):=HB5.out.cellI 1
 clear G5 ST HB4 HG4
 have HB:=HB5.out
 have HG:=HG5.out
 clear HB5 HG5 kpc kop krd hB2 g1 g2 gpc HS HS0 HO0 SP
 clear w1 w3 w4
 obtain ⟨⟨rfl,rfl,rfl⟩,rfl,rfl,rfl,rfl,rfl,rfl⟩:=EQS.out
 clear EQS
 rename_i Q0 K1 A1 K2 A2
 revert K2
 revert K1
 revert Q0
 revert HG
 revert HB
 revert hJ
 generalize w2.heap.size=J
 clear w2
 revert J
 revert w5
 revert hz
 revert Z
 exact CONT.out
theorem setF (o:d.Ok){X:Int}(d0:0≤rd)(d1:rd<32)(wX:W X):Hid (∀W:World,Calls Tryd.prog 79 #[.agg (dA d),.int .i64 rd,.int .u32 X] W fun e w'=>e=.returned (.agg (dA (d.setH (d.h.set rd.toNat X))))∧Gr W w')∧(d.setH (d.h.set rd.toNat X)).Ok∧Hid ((dA (d.setH (d.h.set rd.toNat X))).size=41)∧Hid ((dA (d.setH (d.h.set rd.toNat X))).all (·.oneCell')=true):=by
 have k:(d.setH (d.h.set rd.toNat X)).Ok:=o.setH (o.h.set _ wX.1 wX.2)
 exact ⟨fun W=>set_any o rd X W d0 d1 wX.1 wX.2,k,dA_size k.h,one_dA k⟩
theorem finF (o:d.Ok){nx:Int}(wN:W nx):∃D2,Hid (dA (d.setH (d.h.go nx))=D2)∧Hid (D2.size=41)∧Hid (D2.all (·.oneCell')=true)∧Hid ((dA d).setIfInBounds 32 (.int .u32 nx)=D2)∧Hid (∃y,(dA d)[32]?=some (.int .u32 y))∧Hid ((d.setH (d.h.go nx)).Ok):=by
 have k:(d.setH (d.h.go nx)).Ok:=o.setH (o.h.go wN.1 wN.2)
 exact ⟨_,rfl,dA_size k.h,one_dA k,pc_e o.h nx,⟨_,(dA_get o.h (by omega)).trans (hL_fld o.h 0)⟩,k⟩
theorem trapF (o:d.Ok)(c:Int):∃Dt,Hid (∀W:World,Calls Tryd.prog 77 #[.agg (dA d),.int .i64 c] W fun e w'=>e=.returned (.agg Dt)∧Gr W w')∧Hid (Dt.size=41)∧Hid (Dt.all (·.oneCell')=true)∧Hid ((d.setH (d.h.trap c)).Ok)∧Hid (dA (d.setH (d.h.trap c))=Dt):=
 ⟨_,fun W=>trap_any o c W,dA_size (d:=d.setH _) (o.h.trap c),one_dA (o.setH (o.h.trap c)),o.setH (o.h.trap c),rfl⟩
theorem atIns {h:Hv}{ao:Option Addr}{n cap:Nat}{l:List UInt8}{I:Array Value}(o:h.Ok)(M:Mem w ao n l)(HB:Bs w5 w.heap.size J (hA h) Z (dA (dv0 h (.slice ao n cap))) I)(HG:Gr w w5)(hJ:w.heap.size+1+1<J):
  Hid (Bs w5 w.heap.size J (hA h) Z (dA (dv0 h (.slice ao n cap))) I)∧Hid (Gr w w5)∧Hid (Mem w ao n l)∧(W h.pc∧W (rg h r1)∧W (rg h r2)∧W (Wd.lo im))∧Hid (∀W:World,Calls Tryd.prog 78 #[.int .u32 h.pc,.int .u32 (Wd.lo im)] W fun e w'=>e=.returned (.int .u32 (Wd.lo (h.pc+Wd.lo im)))∧Gr W w')∧Hid ((dA (dv0 h (.slice ao n cap))).size=41)∧Hid ((dA (dv0 h (.slice ao n cap))).all (·.oneCell')=true)∧(hA h)[32]?=some (.int .u32 h.pc)∧w.heap.size<J:=
 ⟨HB,HG,M,⟨W.pc o,W.reg o r1,W.reg o r2,W.lo im⟩,fun W0=>(sum_any _ _ W0 (W.pc o).1 (W.pc o).2 (W.lo im).1 (W.lo im).2).mono fun e w' h=>⟨h.1,by rw [h.2];exact Gr.refl _⟩,dA_size (d:=dv0 _ _) o,one_dA (dv0_ok o _ _ _),by simp only [hA,List.getElem?_toArray];exact hL_fld o 0,by omega⟩
theorem insAt {H D:Array Value}{op pc:Int}(HB:Bs w5 w.heap.size J H Z D #[.int .i64 op,.int .i64 rd,.int .i64 r1,.int .i64 r2,.int .i32 im])(gpc:H[32]?=some (.int .u32 pc)):
  w5.cell? ⟨w.heap.size,32,none⟩=some (.int .u32 pc)∧w5.cell? ⟨J,0,none⟩=some (.int .i64 op)∧w5.cell? ⟨J,1,none⟩=some (.int .i64 rd):=
 ⟨(HB.t.cellH 32).trans gpc,HB.cellI 0,HB.cellI 1⟩
end Go.Proofs.YtkdghgiajifbdaaDoor.Hr
namespace Go.Proofs.YtkdghgiajifbdaaDoor.Hr
open Go.ChangeShapes Go.WideShapes Go.ChangeAt Go.RowKit Mm Hh

theorem rs_1 {h:Hv}{ao:Option Addr}{n cap:Nat}{l:List UInt8}{w:World}{x op rd:Int}{r1 r2:Nat}{im:Int}(P:Pr h ao n cap l w x op rd r1 r2 im)(ho:op=1):RStep h ao n cap w ⟨(h.set rd.toNat (Wd.lo im)).go (Wd.lo (h.pc+4)),l,[],[]⟩:=by
 have P0:=P
 obtain ⟨o,M,hn,ok,ex,D,d0,d1,s1,t1,i0,i1⟩:=P
 subst ho
 refine (rsRest P0 _).2 ⟨?_⟩
 unfold rsRest
 dsimp only
 clear P0 D
 intro Z hz w5 J hJ HB HG K1 A1 K2 A2
 obtain ⟨HB5,HG5,HM,⟨wp,wa,wb,wn⟩,SP,HS0,HO0,gpc,hB2⟩:=atIns o M HB HG hJ (r1:=r1) (r2:=r2) (im:=im)
 clear HB HG
 have wX:W (Wd.lo im):=wn
 have wN:W (Wd.lo (h.pc+4)):=.lo _
 obtain ⟨Ts,okS,HS1,HO1⟩:=setF (dv0_ok o ao n cap) d0 d1 wX
 obtain ⟨D2,HD2,HS2,HO2,HE2,HC2,HOK⟩:=finF okS wN
 generalize hD1:dA ((dv0 h (.slice ao n cap)).setH ((dv0 h (.slice ao n cap)).h.set rd.toNat (Wd.lo im)))=D1 at *
 clear hD1
 generalize dA (dv0 h (.slice ao n cap))=D0 at *
 generalize hA h=H at *
 generalize hth:(Wd.lo (rg h r1+Wd.lo im))=th at *
 generalize hpn:(Wd.lo (h.pc+Wd.lo im))=pn at *
 generalize hp4:(Wd.lo (h.pc+4))=p4 at *
 generalize hnn:(Wd.lo im)=nn at *
 generalize (rg h r1)=xa at *
 generalize (rg h r2)=xb at *
 generalize ldV l 13 h.pc=lx at *
 generalize h.pc=pc at *
 clear hth hpn hp4 hnn
 clear M ok o wp wa wb wn okS wX wN
 obtain ⟨kpc,kop,krd⟩:=insAt HB5.out gpc
 go_wp2_with (refine wpList_load_row rfl 95 _ rfl (w.heap.size+1+1) rfl 95 D0 (0,0) _ ?hl1 Tryd.underlying95 rfl (by rw [HS0.out];exact iD) ?_;(case hl1=>exact HB5.out.t.d))
 refine (Ts.out _).mono ?_
 rintro e w6 ⟨rfl,G6⟩
 have HB6:Hid (Bs w6 w.heap.size J H Z D0 #[.int .i64 1,.int .i64 rd,.int .i64 r1,.int .i64 r2,.int .i32 im]):=HB5.out.of G6
 have HB7:Hid (Bs (w6.setRow (w.heap.size+1+1) D1) w.heap.size J H Z D1 #[.int .i64 1,.int .i64 rd,.int .i64 r1,.int .i64 r2,.int .i32 im]):=HB6.out.row D1
 have HG7:Hid (Gr w (w6.setRow (w.heap.size+1+1) D1)):=gr_setRow (HG5.out.trans G6) (by omega) _
 have k7pc:(w6.setRow (w.heap.size+1+1) D1).cell? ⟨w.heap.size,32,none⟩=some (.int .u32 pc):=(HB7.out.t.cellH 32).trans gpc
 clear G6 Ts HB5 HG5 kpc kop krd
 obtain ⟨y32,hy32⟩:=HC2.out
 have c32:(w6.setRow (w.heap.size+1+1) D1).cell? ⟨w.heap.size+1+1,32,none⟩=some (.int .u32 y32):=(HB7.out.t.cellD 32).trans hy32
 have f32:(w6.setRow (w.heap.size+1+1) D1).frozen? ⟨w.heap.size+1+1,32,none⟩=false:=HB7.out.t.fz 32
 have HB8:Hid (Bt ((w6.setRow (w.heap.size+1+1) D1).setCell ⟨w.heap.size+1+1,32,none⟩ (.int .u32 p4)) w.heap.size H Z D2):=by
  have:=HB7.out.t.set 32 (.int .u32 p4)
  rwa [HE2.out] at this
 have HG8:Hid (Gr w ((w6.setRow (w.heap.size+1+1) D1).setCell ⟨w.heap.size+1+1,32,none⟩ (.int .u32 p4))):=HG7.out.setCell (by simp;omega) _
 clear hy32 HC2
 go_wp2_with (first
  | (refine wpList_store_row rfl 95 _ _ rfl (w.heap.size+1+1) D1 rfl rfl 95 D0 ?hs1 (by rw [HS1.out];exact iD) (by rw [HS1.out];exact HS0.out) HO1.out ?_;(case hs1=>exact HB6.out.t.d))
  | (refine wpList_load_row rfl 95 _ rfl (w.heap.size+1+1) rfl 95 D2 (0,0) _ ?hl8 Tryd.underlying95 rfl (by rw [HS2.out];exact iD) ?_;(case hl8=>exact HB8.out.d))
  | (refine wpList_store_row rfl 95 _ _ rfl (w.heap.size+1) D2 rfl rfl 95 Z ?hs8 (by rw [HS2.out];exact iD) (by rw [HS2.out,hz]) HO2.out ?_;(case hs8=>exact HB8.out.z)))
 have GF:Gr w (((w6.setRow (w.heap.size+1+1) D1).setCell ⟨w.heap.size+1+1,32,none⟩ (.int .u32 p4)).setRow (w.heap.size+1) D2):=gr_setRow HG8.out (by omega) _
 refine bodyPost_ret (v:=.agg D2) (results_cell_row rfl _ _ _ _ _ (0,0) _ rfl (setRow_heap _ _ _ _ _ (0,0) HB8.out.z) Tryd.underlying95 rfl (by rw [HS2.out];exact iD)) rfl ⟨_,congrArg (fun z=>Ending.returned (.agg z)) HD2.out.symm,⟨HOK.out,rfl,⟨ao,n,cap,rfl,HM.out.of GF,.inl rfl⟩,.inl ⟨rfl,rfl⟩,.inl ⟨rfl,rfl,rfl⟩⟩,GF⟩
theorem rs_3 {h:Hv}{ao:Option Addr}{n cap:Nat}{l:List UInt8}{w:World}{x op rd:Int}{r1 r2:Nat}{im:Int}(P:Pr h ao n cap l w x op rd r1 r2 im)(ho:op=3):RStep h ao n cap w ⟨(h.set rd.toNat (Wd.lo (h.pc+4))).go (Wd.lo (h.pc+Wd.lo im)),l,[],[]⟩:=by
 have P0:=P
 obtain ⟨o,M,hn,ok,ex,D,d0,d1,s1,t1,i0,i1⟩:=P
 subst ho
 refine (rsRest P0 _).2 ⟨?_⟩
 unfold rsRest
 dsimp only
 clear P0 D
 intro Z hz w5 J hJ HB HG K1 A1 K2 A2
 obtain ⟨HB5,HG5,HM,⟨wp,wa,wb,wn⟩,SP,HS0,HO0,gpc,hB2⟩:=atIns o M HB HG hJ (r1:=r1) (r2:=r2) (im:=im)
 clear HB HG
 have wX:W (Wd.lo (h.pc+4)):=.lo _
 have wN:W (Wd.lo (h.pc+Wd.lo im)):=.lo _
 obtain ⟨Ts,okS,HS1,HO1⟩:=setF (dv0_ok o ao n cap) d0 d1 wX
 obtain ⟨D2,HD2,HS2,HO2,HE2,HC2,HOK⟩:=finF okS wN
 generalize hD1:dA ((dv0 h (.slice ao n cap)).setH ((dv0 h (.slice ao n cap)).h.set rd.toNat (Wd.lo (h.pc+4))))=D1 at *
 clear hD1
 generalize dA (dv0 h (.slice ao n cap))=D0 at *
 generalize hA h=H at *
 generalize hth:(Wd.lo (rg h r1+Wd.lo im))=th at *
 generalize hpn:(Wd.lo (h.pc+Wd.lo im))=pn at *
 generalize hp4:(Wd.lo (h.pc+4))=p4 at *
 generalize hnn:(Wd.lo im)=nn at *
 generalize (rg h r1)=xa at *
 generalize (rg h r2)=xb at *
 generalize ldV l 13 h.pc=lx at *
 generalize h.pc=pc at *
 clear hth hpn hp4 hnn
 clear M ok o wp wa wb wn okS wX wN
 obtain ⟨kpc,kop,krd⟩:=insAt HB5.out gpc
 go_wp2_with (refine wpList_load_row rfl 95 _ rfl (w.heap.size+1+1) rfl 95 D0 (0,0) _ ?hl1 Tryd.underlying95 rfl (by rw [HS0.out];exact iD) ?_;(case hl1=>exact HB5.out.t.d))
 refine (Ts.out _).mono ?_
 rintro e w6 ⟨rfl,G6⟩
 have HB6:Hid (Bs w6 w.heap.size J H Z D0 #[.int .i64 3,.int .i64 rd,.int .i64 r1,.int .i64 r2,.int .i32 im]):=HB5.out.of G6
 have HB7:Hid (Bs (w6.setRow (w.heap.size+1+1) D1) w.heap.size J H Z D1 #[.int .i64 3,.int .i64 rd,.int .i64 r1,.int .i64 r2,.int .i32 im]):=HB6.out.row D1
 have HG7:Hid (Gr w (w6.setRow (w.heap.size+1+1) D1)):=gr_setRow (HG5.out.trans G6) (by omega) _
 have k7pc:(w6.setRow (w.heap.size+1+1) D1).cell? ⟨w.heap.size,32,none⟩=some (.int .u32 pc):=(HB7.out.t.cellH 32).trans gpc
 clear G6 Ts HB5 HG5 kpc kop krd
 go_wp2_with (refine wpList_store_row rfl 95 _ _ rfl (w.heap.size+1+1) D1 rfl rfl 95 D0 ?hs1 (by rw [HS1.out];exact iD) (by rw [HS1.out];exact HS0.out) HO1.out ?_;(case hs1=>exact HB6.out.t.d))
 refine (SP.out _).mono ?_
 rintro e w8 ⟨rfl,G8⟩
 have HB9:Hid (Bs w8 w.heap.size J H Z D1 #[.int .i64 3,.int .i64 rd,.int .i64 r1,.int .i64 r2,.int .i32 im]):=HB7.out.of G8
 have HG9:Hid (Gr w w8):=HG7.out.trans G8
 clear G8 SP HB6 HB7 HG7 k7pc
 obtain ⟨y32,hy32⟩:=HC2.out
 have c32:(w8).cell? ⟨w.heap.size+1+1,32,none⟩=some (.int .u32 y32):=(HB9.out.t.cellD 32).trans hy32
 have f32:(w8).frozen? ⟨w.heap.size+1+1,32,none⟩=false:=HB9.out.t.fz 32
 have HB8:Hid (Bt ((w8).setCell ⟨w.heap.size+1+1,32,none⟩ (.int .u32 pn)) w.heap.size H Z D2):=by
  have:=HB9.out.t.set 32 (.int .u32 pn)
  rwa [HE2.out] at this
 have HG8:Hid (Gr w ((w8).setCell ⟨w.heap.size+1+1,32,none⟩ (.int .u32 pn))):=HG9.out.setCell (by simp;omega) _
 clear hy32 HC2
 go_wp2_with (first
  | (refine wpList_load_row rfl 95 _ rfl (w.heap.size+1+1) rfl 95 D2 (0,0) _ ?hl8 Tryd.underlying95 rfl (by rw [HS2.out];exact iD) ?_;(case hl8=>exact HB8.out.d))
  | (refine wpList_store_row rfl 95 _ _ rfl (w.heap.size+1) D2 rfl rfl 95 Z ?hs8 (by rw [HS2.out];exact iD) (by rw [HS2.out,hz]) HO2.out ?_;(case hs8=>exact HB8.out.z)))
 have GF:Gr w (((w8).setCell ⟨w.heap.size+1+1,32,none⟩ (.int .u32 pn)).setRow (w.heap.size+1) D2):=gr_setRow HG8.out (by omega) _
 refine bodyPost_ret (v:=.agg D2) (results_cell_row rfl _ _ _ _ _ (0,0) _ rfl (setRow_heap _ _ _ _ _ (0,0) HB8.out.z) Tryd.underlying95 rfl (by rw [HS2.out];exact iD)) rfl ⟨_,congrArg (fun z=>Ending.returned (.agg z)) HD2.out.symm,⟨HOK.out,rfl,⟨ao,n,cap,rfl,HM.out.of GF,.inl rfl⟩,.inl ⟨rfl,rfl⟩,.inl ⟨rfl,rfl,rfl⟩⟩,GF⟩
theorem rs_4 {h:Hv}{ao:Option Addr}{n cap:Nat}{l:List UInt8}{w:World}{x op rd:Int}{r1 r2:Nat}{im:Int}(P:Pr h ao n cap l w x op rd r1 r2 im)(ho:op=4):RStep h ao n cap w ⟨(h.set rd.toNat (Wd.lo (h.pc+4))).go (Wd.lo (rg h r1+Wd.lo im)-Wd.lo (rg h r1+Wd.lo im)%2),l,[],[]⟩:=by
 have P0:=P
 obtain ⟨o,M,hn,ok,ex,D,d0,d1,s1,t1,i0,i1⟩:=P
 subst ho
 refine (rsRest P0 _).2 ⟨?_⟩
 unfold rsRest
 dsimp only
 clear P0 D
 intro Z hz w5 J hJ HB HG K1 A1 K2 A2
 obtain ⟨HB5,HG5,HM,⟨wp,wa,wb,wn⟩,SP,HS0,HO0,gpc,hB2⟩:=atIns o M HB HG hJ (r1:=r1) (r2:=r2) (im:=im)
 clear HB HG
 have wX:W (Wd.lo (h.pc+4)):=.lo _
 have wN:W (Wd.lo (rg h r1+Wd.lo im)-Wd.lo (rg h r1+Wd.lo im)%2):=by have:=Wd.lo_bd (rg h r1+Wd.lo im);unfold W;omega
 have th0:=(Wd.lo_bd (rg h r1+Wd.lo im)).1
 have th1:=(Wd.lo_bd (rg h r1+Wd.lo im)).2
 obtain ⟨Ts,okS,HS1,HO1⟩:=setF (dv0_ok o ao n cap) d0 d1 wX
 obtain ⟨D2,HD2,HS2,HO2,HE2,HC2,HOK⟩:=finF okS wN
 generalize hD1:dA ((dv0 h (.slice ao n cap)).setH ((dv0 h (.slice ao n cap)).h.set rd.toNat (Wd.lo (h.pc+4))))=D1 at *
 clear hD1
 generalize dA (dv0 h (.slice ao n cap))=D0 at *
 generalize hA h=H at *
 generalize hth:(Wd.lo (rg h r1+Wd.lo im))=th at *
 generalize hpn:(Wd.lo (h.pc+Wd.lo im))=pn at *
 generalize hp4:(Wd.lo (h.pc+4))=p4 at *
 generalize hnn:(Wd.lo im)=nn at *
 generalize (rg h r1)=xa at *
 generalize (rg h r2)=xb at *
 generalize ldV l 13 h.pc=lx at *
 generalize h.pc=pc at *
 clear hth hpn hp4 hnn
 clear M ok o wp wa wb wn okS wX wN
 obtain ⟨kpc,kop,krd⟩:=insAt HB5.out gpc
 go_wp2_with (refine wpList_load_row rfl 95 _ rfl (w.heap.size+1+1) rfl 95 D0 (0,0) _ ?hl1 Tryd.underlying95 rfl (by rw [HS0.out];exact iD) ?_;(case hl1=>exact HB5.out.t.d))
 refine (Ts.out _).mono ?_
 rintro e w6 ⟨rfl,G6⟩
 have HB6:Hid (Bs w6 w.heap.size J H Z D0 #[.int .i64 4,.int .i64 rd,.int .i64 r1,.int .i64 r2,.int .i32 im]):=HB5.out.of G6
 have HB7:Hid (Bs (w6.setRow (w.heap.size+1+1) D1) w.heap.size J H Z D1 #[.int .i64 4,.int .i64 rd,.int .i64 r1,.int .i64 r2,.int .i32 im]):=HB6.out.row D1
 have HG7:Hid (Gr w (w6.setRow (w.heap.size+1+1) D1)):=gr_setRow (HG5.out.trans G6) (by omega) _
 have k7pc:(w6.setRow (w.heap.size+1+1) D1).cell? ⟨w.heap.size,32,none⟩=some (.int .u32 pc):=(HB7.out.t.cellH 32).trans gpc
 clear G6 Ts HB5 HG5 kpc kop krd
 obtain ⟨y32,hy32⟩:=HC2.out
 have c32:(w6.setRow (w.heap.size+1+1) D1).cell? ⟨w.heap.size+1+1,32,none⟩=some (.int .u32 y32):=(HB7.out.t.cellD 32).trans hy32
 have f32:(w6.setRow (w.heap.size+1+1) D1).frozen? ⟨w.heap.size+1+1,32,none⟩=false:=HB7.out.t.fz 32
 have HB8:Hid (Bt ((w6.setRow (w.heap.size+1+1) D1).setCell ⟨w.heap.size+1+1,32,none⟩ (.int .u32 (th-th%2))) w.heap.size H Z D2):=by
  have:=HB7.out.t.set 32 (.int .u32 (th-th%2))
  rwa [HE2.out] at this
 have HG8:Hid (Gr w ((w6.setRow (w.heap.size+1+1) D1).setCell ⟨w.heap.size+1+1,32,none⟩ (.int .u32 (th-th%2)))):=HG7.out.setCell (by simp;omega) _
 clear hy32 HC2
 go_wp2_with (first
  | (refine wpList_store_row rfl 95 _ _ rfl (w.heap.size+1+1) D1 rfl rfl 95 D0 ?hs1 (by rw [HS1.out];exact iD) (by rw [HS1.out];exact HS0.out) HO1.out ?_;(case hs1=>exact HB6.out.t.d))
  | (refine wpList_load_row rfl 95 _ rfl (w.heap.size+1+1) rfl 95 D2 (0,0) _ ?hl8 Tryd.underlying95 rfl (by rw [HS2.out];exact iD) ?_;(case hl8=>exact HB8.out.d))
  | (refine wpList_store_row rfl 95 _ _ rfl (w.heap.size+1) D2 rfl rfl 95 Z ?hs8 (by rw [HS2.out];exact iD) (by rw [HS2.out,hz]) HO2.out ?_;(case hs8=>exact HB8.out.z)))
 have GF:Gr w (((w6.setRow (w.heap.size+1+1) D1).setCell ⟨w.heap.size+1+1,32,none⟩ (.int .u32 (th-th%2))).setRow (w.heap.size+1) D2):=gr_setRow HG8.out (by omega) _
 refine bodyPost_ret (v:=.agg D2) (results_cell_row rfl _ _ _ _ _ (0,0) _ rfl (setRow_heap _ _ _ _ _ (0,0) HB8.out.z) Tryd.underlying95 rfl (by rw [HS2.out];exact iD)) rfl ⟨_,congrArg (fun z=>Ending.returned (.agg z)) HD2.out.symm,⟨HOK.out,rfl,⟨ao,n,cap,rfl,HM.out.of GF,.inl rfl⟩,.inl ⟨rfl,rfl⟩,.inl ⟨rfl,rfl,rfl⟩⟩,GF⟩
theorem rs_bry {h:Hv}{ao:Option Addr}{n cap:Nat}{l:List UInt8}{w:World}{x op rd:Int}{r1 r2:Nat}{im:Int}(P:Pr h ao n cap l w x op rd r1 r2 im)(ho:5≤op∧op≤10)(hb:Wd.holds op (rg h r1) (rg h r2)=true):RStep h ao n cap w ⟨h.go (Wd.lo (h.pc+Wd.lo im)),l,[],[]⟩:=by
 have P0:=P
 obtain ⟨o,M,hn,ok,ex,D,d0,d1,s1,t1,i0,i1⟩:=P
 refine (rsRest P0 _).2 ⟨?_⟩
 unfold rsRest
 dsimp only
 clear P0 D
 intro Z hz w5 J hJ HB HG K1 A1 K2 A2
 obtain ⟨HB5,HG5,HM,⟨wp,wa,wb,wn⟩,SP,HS0,HO0,gpc,hB2⟩:=atIns o M HB HG hJ (r1:=r1) (r2:=r2) (im:=im)
 clear HB HG
 have wN:W (Wd.lo (h.pc+Wd.lo im)):=.lo _
 have Ho:Hid (∀W:World,Calls Tryd.prog 72 #[.int .i64 op,.int .u32 (rg h r1),.int .u32 (rg h r2)] W fun e w'=>e=.returned (.bool true)∧Gr W w'):=fun W=>by
  have:=Rw.holds_any op (rg h r1) (rg h r2) W wa.1 wa.2 wb.1 wb.2
  rw [hb] at this
  exact this.mono fun e w' h=>⟨h.1,by rw [h.2];exact Gr.refl _⟩
 obtain ⟨D2,HD2,HS2,HO2,HE2,HC2,HOK⟩:=finF (dv0_ok o ao n cap) wN
 clear hb
 have b1:(op == 1)=false:=by simp;omega
 have b2:(op == 2)=false:=by simp;omega
 have b3:(op == 3)=false:=by simp;omega
 have b4:(op == 4)=false:=by simp;omega
 generalize dA (dv0 h (.slice ao n cap))=D0 at *
 generalize hA h=H at *
 generalize hth:(Wd.lo (rg h r1+Wd.lo im))=th at *
 generalize hpn:(Wd.lo (h.pc+Wd.lo im))=pn at *
 generalize hp4:(Wd.lo (h.pc+4))=p4 at *
 generalize hnn:(Wd.lo im)=nn at *
 generalize (rg h r1)=xa at *
 generalize (rg h r2)=xb at *
 generalize ldV l 13 h.pc=lx at *
 generalize h.pc=pc at *
 clear hth hpn hp4 hnn
 clear M ok o wp wa wb wn wN
 obtain ⟨kpc,kop,krd⟩:=insAt HB5.out gpc
 have hop1:5≤op:=ho.1
 have hop2:op≤10:=ho.2
 go_wp2_with fail
 refine (Ho.out _).mono ?_
 rintro e w7 ⟨rfl,G7⟩
 have HB7:Hid (Bs w7 w.heap.size J H Z D0 #[.int .i64 op,.int .i64 rd,.int .i64 r1,.int .i64 r2,.int .i32 im]):=HB5.out.of G7
 have HG7:Hid (Gr w w7):=HG5.out.trans G7
 have k7pc:w7.cell? ⟨w.heap.size,32,none⟩=some (.int .u32 pc):=(HB7.out.t.cellH 32).trans gpc
 clear G7 Ho kpc kop krd HB5 HG5
 go_wp2_with fail
 refine (SP.out _).mono ?_
 rintro e w8 ⟨rfl,G8⟩
 have HB9:Hid (Bs w8 w.heap.size J H Z D0 #[.int .i64 op,.int .i64 rd,.int .i64 r1,.int .i64 r2,.int .i32 im]):=HB7.out.of G8
 have HG9:Hid (Gr w w8):=HG7.out.trans G8
 clear G8 SP HB7 HG7 k7pc
 obtain ⟨y32,hy32⟩:=HC2.out
 have c32:(w8).cell? ⟨w.heap.size+1+1,32,none⟩=some (.int .u32 y32):=(HB9.out.t.cellD 32).trans hy32
 have f32:(w8).frozen? ⟨w.heap.size+1+1,32,none⟩=false:=HB9.out.t.fz 32
 have HB8:Hid (Bt ((w8).setCell ⟨w.heap.size+1+1,32,none⟩ (.int .u32 pn)) w.heap.size H Z D2):=by
  have:=HB9.out.t.set 32 (.int .u32 pn)
  rwa [HE2.out] at this
 have HG8:Hid (Gr w ((w8).setCell ⟨w.heap.size+1+1,32,none⟩ (.int .u32 pn))):=HG9.out.setCell (by simp;omega) _
 clear hy32 HC2
 go_wp2_with (first
  | (refine wpList_load_row rfl 95 _ rfl (w.heap.size+1+1) rfl 95 D2 (0,0) _ ?hl8 Tryd.underlying95 rfl (by rw [HS2.out];exact iD) ?_;(case hl8=>exact HB8.out.d))
  | (refine wpList_store_row rfl 95 _ _ rfl (w.heap.size+1) D2 rfl rfl 95 Z ?hs8 (by rw [HS2.out];exact iD) (by rw [HS2.out,hz]) HO2.out ?_;(case hs8=>exact HB8.out.z)))
 have GF:Gr w (((w8).setCell ⟨w.heap.size+1+1,32,none⟩ (.int .u32 pn)).setRow (w.heap.size+1) D2):=gr_setRow HG8.out (by omega) _
 refine bodyPost_ret (v:=.agg D2) (results_cell_row rfl _ _ _ _ _ (0,0) _ rfl (setRow_heap _ _ _ _ _ (0,0) HB8.out.z) Tryd.underlying95 rfl (by rw [HS2.out];exact iD)) rfl ⟨_,congrArg (fun z=>Ending.returned (.agg z)) HD2.out.symm,⟨HOK.out,rfl,⟨ao,n,cap,rfl,HM.out.of GF,.inl rfl⟩,.inl ⟨rfl,rfl⟩,.inl ⟨rfl,rfl,rfl⟩⟩,GF⟩
theorem rs_brn {h:Hv}{ao:Option Addr}{n cap:Nat}{l:List UInt8}{w:World}{x op rd:Int}{r1 r2:Nat}{im:Int}(P:Pr h ao n cap l w x op rd r1 r2 im)(ho:5≤op∧op≤10)(hb:Wd.holds op (rg h r1) (rg h r2)=false):RStep h ao n cap w ⟨h.go (Wd.lo (h.pc+4)),l,[],[]⟩:=by
 have P0:=P
 obtain ⟨o,M,hn,ok,ex,D,d0,d1,s1,t1,i0,i1⟩:=P
 refine (rsRest P0 _).2 ⟨?_⟩
 unfold rsRest
 dsimp only
 clear P0 D
 intro Z hz w5 J hJ HB HG K1 A1 K2 A2
 obtain ⟨HB5,HG5,HM,⟨wp,wa,wb,wn⟩,SP,HS0,HO0,gpc,hB2⟩:=atIns o M HB HG hJ (r1:=r1) (r2:=r2) (im:=im)
 clear HB HG
 have wN:W (Wd.lo (h.pc+4)):=.lo _
 have Ho:Hid (∀W:World,Calls Tryd.prog 72 #[.int .i64 op,.int .u32 (rg h r1),.int .u32 (rg h r2)] W fun e w'=>e=.returned (.bool false)∧Gr W w'):=fun W=>by
  have:=Rw.holds_any op (rg h r1) (rg h r2) W wa.1 wa.2 wb.1 wb.2
  rw [hb] at this
  exact this.mono fun e w' h=>⟨h.1,by rw [h.2];exact Gr.refl _⟩
 obtain ⟨D2,HD2,HS2,HO2,HE2,HC2,HOK⟩:=finF (dv0_ok o ao n cap) wN
 clear hb
 have b1:(op == 1)=false:=by simp;omega
 have b2:(op == 2)=false:=by simp;omega
 have b3:(op == 3)=false:=by simp;omega
 have b4:(op == 4)=false:=by simp;omega
 generalize dA (dv0 h (.slice ao n cap))=D0 at *
 generalize hA h=H at *
 generalize hth:(Wd.lo (rg h r1+Wd.lo im))=th at *
 generalize hpn:(Wd.lo (h.pc+Wd.lo im))=pn at *
 generalize hp4:(Wd.lo (h.pc+4))=p4 at *
 generalize hnn:(Wd.lo im)=nn at *
 generalize (rg h r1)=xa at *
 generalize (rg h r2)=xb at *
 generalize ldV l 13 h.pc=lx at *
 generalize h.pc=pc at *
 clear hth hpn hp4 hnn
 clear M ok o wp wa wb wn wN
 obtain ⟨kpc,kop,krd⟩:=insAt HB5.out gpc
 have hop1:5≤op:=ho.1
 have hop2:op≤10:=ho.2
 go_wp2_with fail
 refine (Ho.out _).mono ?_
 rintro e w7 ⟨rfl,G7⟩
 have HB7:Hid (Bs w7 w.heap.size J H Z D0 #[.int .i64 op,.int .i64 rd,.int .i64 r1,.int .i64 r2,.int .i32 im]):=HB5.out.of G7
 have HG7:Hid (Gr w w7):=HG5.out.trans G7
 have k7pc:w7.cell? ⟨w.heap.size,32,none⟩=some (.int .u32 pc):=(HB7.out.t.cellH 32).trans gpc
 clear G7 Ho kpc kop krd HB5 HG5
 obtain ⟨y32,hy32⟩:=HC2.out
 have c32:(w7).cell? ⟨w.heap.size+1+1,32,none⟩=some (.int .u32 y32):=(HB7.out.t.cellD 32).trans hy32
 have f32:(w7).frozen? ⟨w.heap.size+1+1,32,none⟩=false:=HB7.out.t.fz 32
 have HB8:Hid (Bt ((w7).setCell ⟨w.heap.size+1+1,32,none⟩ (.int .u32 p4)) w.heap.size H Z D2):=by
  have:=HB7.out.t.set 32 (.int .u32 p4)
  rwa [HE2.out] at this
 have HG8:Hid (Gr w ((w7).setCell ⟨w.heap.size+1+1,32,none⟩ (.int .u32 p4))):=HG7.out.setCell (by simp;omega) _
 clear hy32 HC2
 go_wp2_with (first
  | (refine wpList_load_row rfl 95 _ rfl (w.heap.size+1+1) rfl 95 D2 (0,0) _ ?hl8 Tryd.underlying95 rfl (by rw [HS2.out];exact iD) ?_;(case hl8=>exact HB8.out.d))
  | (refine wpList_store_row rfl 95 _ _ rfl (w.heap.size+1) D2 rfl rfl 95 Z ?hs8 (by rw [HS2.out];exact iD) (by rw [HS2.out,hz]) HO2.out ?_;(case hs8=>exact HB8.out.z)))
 have GF:Gr w (((w7).setCell ⟨w.heap.size+1+1,32,none⟩ (.int .u32 p4)).setRow (w.heap.size+1) D2):=gr_setRow HG8.out (by omega) _
 refine bodyPost_ret (v:=.agg D2) (results_cell_row rfl _ _ _ _ _ (0,0) _ rfl (setRow_heap _ _ _ _ _ (0,0) HB8.out.z) Tryd.underlying95 rfl (by rw [HS2.out];exact iD)) rfl ⟨_,congrArg (fun z=>Ending.returned (.agg z)) HD2.out.symm,⟨HOK.out,rfl,⟨ao,n,cap,rfl,HM.out.of GF,.inl rfl⟩,.inl ⟨rfl,rfl⟩,.inl ⟨rfl,rfl,rfl⟩⟩,GF⟩
end Go.Proofs.YtkdghgiajifbdaaDoor.Hr
