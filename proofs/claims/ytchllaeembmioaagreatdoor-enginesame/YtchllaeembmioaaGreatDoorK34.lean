/-
  Ref4d, Ref4e, Ref4r: texts of ours that lie in one file.
-/
import Derived.Test.YtchllaeembmioaaGreatDoorK33
import Derived.Test.YtchllaeembmioaaGreatDoorK05
import Derived.Test.YtchllaeembmioaaGreatDoorK12
import Derived.Test.YtchllaeembmioaaGreatDoorK10
set_option linter.unusedVariables false
set_option linter.unusedSimpArgs false
set_option maxHeartbeats 8000000
set_option maxRecDepth 100000
namespace Go.Proofs.YtchllaeembmioaaGreatDoor.Hr
open Go.ChangeShapes Go.WideShapes Go.ChangeAt Go.RowKit Mm Hh

variable {d : Dv} {w : World}
theorem Dv.Ok.setM (o:d.Ok)(ao:Option Addr)(n cap:Nat)(a k:Int):(d.setM (.slice ao n cap) a k).Ok:=⟨o.h,rfl,o.out⟩
theorem Bl.lt {B:Nat}{D I Z:Array Value}(h:Bl w B D I Z):B+1+1<w.heap.size:=(gs h.z).1
def AtomSt (d d1:Dv) (op rd r1 r2 im a b x y:Int) (l:List UInt8) (w:World):Prop:=
 Calls Tryz.prog 42 #[.agg (dA d),.agg (iA op rd r1 r2 im),.int .u32 a,.int .u32 b] w fun e w'=>∃ao' n' cap',e=.returned (.tuple #[.agg (dA ((d1.setM (.slice ao' n' cap') a 4).setH (d1.h.set rd.toNat x))),.bool true])∧Mem w' ao' n' (stL l 18 a y)∧Gr w w'∧∀ad,ao'=some ad→w.heap.size≤ad.block
theorem atom_sc_yes {d:Dv}(o:d.Ok){ao:Option Addr}{n cap:Nat}{l:List UInt8}(hm:d.m=.slice ao n cap)(rd r1 r2 im a b:Int){w:World}(M:Mem w ao n l)(hn:n≤140737488351232)(h0:0≤a)(h1:a<4294967296)(hy0:0≤b)(hy1:b<4294967296)(hr0:0≤rd)(hr1:rd<32)(ok:ldOk l 13 a=true)(hmine:d.h.held=true∧d.h.heldAt=a):
  AtomSt d (d.setH (d.h.hold false 0)) 47 rd r1 r2 im a b 0 b l w:=by
 unfold AtomSt
 have hx0:(0:Int)≤0:=by omega
 have hx1:(0:Int)<4294967296:=by omega
 have o1:(d.setH (d.h.hold false 0)).Ok:=o.setH (o.h.hold false (x:=0) (by omega) (by omega))
 have L:Hid (∀W:World,Gr w W→Calls Tryz.prog 24 #[.slice ao n cap,.int .i64 13,.int .u32 a] W fun e w'=>e=.returned (.tuple #[.int .u32 (ldV l 13 a),.bool true])∧Gr W w'):=fun W G=>by
  have:=Mr.Load_any cap 13 a (M.of G) hn h0 h1
  rw [ok] at this
  exact this.mono fun e w' h=>⟨h.1,by rw [h.2];exact Gr.refl _⟩
 have S:Hid (∀W:World,Gr w W→Calls Tryz.prog 39 #[.agg (dA (d.setH (d.h.hold false 0))),.int .i64 18,.int .u32 a,.int .u32 b] W fun e w'=>∃ao' n' cap',e=.returned (.tuple #[.agg (dA ((d.setH (d.h.hold false 0)).setM (.slice ao' n' cap') a 4)),.bool true])∧Mem w' ao' n' (stL l 18 a b)∧Gr W w'∧∀ad,ao'=some ad→W.heap.size≤ad.block):=fun W G=>store_yes (d:=(d.setH (d.h.hold false 0))) o1 hm 18 a b (M.of G) hn h0 h1 hy0 hy1 (st_of_ld ok)
 have T:Hid (∀(ao':Option Addr) (n' c':Nat) (W:World),Calls Tryz.prog 37 #[.agg (dA ((d.setH (d.h.hold false 0)).setM (.slice ao' n' c') a 4)),.int .i64 rd,.int .u32 0] W fun e w'=>e=.returned (.agg (dA (((d.setH (d.h.hold false 0)).setM (.slice ao' n' c') a 4).setH ((d.setH (d.h.hold false 0)).h.set rd.toNat 0))))∧Gr W w'):=fun ao' n' c' W=>set_any (Dv.Ok.setM o1 ao' n' c' a 4) rd 0 W hr0 hr1 hx0 hx1
 have SM:Hid (∀(ao':Option Addr) (n' c':Nat),(dA ((d.setH (d.h.hold false 0)).setM (.slice ao' n' c') a 4)).size=41∧(dA ((d.setH (d.h.hold false 0)).setM (.slice ao' n' c') a 4)).all (·.oneCell')=true):=fun ao' n' c'=>⟨dA_size (d:=(d.setH (d.h.hold false 0)).setM _ _ _) o1.h,one_dA (Dv.Ok.setM o1 ao' n' c' a 4)⟩
 have SF:Hid (∀(ao':Option Addr) (n' c':Nat),(dA (((d.setH (d.h.hold false 0)).setM (.slice ao' n' c') a 4).setH ((d.setH (d.h.hold false 0)).h.set rd.toNat 0))).size=41∧(dA (((d.setH (d.h.hold false 0)).setM (.slice ao' n' c') a 4).setH ((d.setH (d.h.hold false 0)).h.set rd.toNat 0))).all (·.oneCell')=true):=fun ao' n' c'=>⟨dA_size (d:=((d.setH (d.h.hold false 0)).setM _ _ _).setH _) (o1.h.set _ hx0 hx1),one_dA ((Dv.Ok.setM o1 ao' n' c' a 4).setH (o1.h.set _ hx0 hx1))⟩
 have g37:(dA d)[37]?=some (.slice ao n cap):=by rw [dA_fld o.h 0];simp [hm]
 have g33:(dA d)[33]?=some (.bool true):=by rw [dA_get o.h (by omega),←hmine.1];exact hL_fld o.h 1
 have g34:(dA d)[34]?=some (.int .u32 a):=by rw [dA_get o.h (by omega),←hmine.2];exact hL_fld o.h 2
 have HS1:Hid ((dA (d.setH (d.h.hold false 0))).size=41):=dA_size o1.h
 obtain ⟨X,sX,e1,e2⟩:=hold_e o false 0
 generalize ldV l 13 a=y at *
 generalize stL l 18 a b=K at *
 generalize hD1:dA (d.setH (d.h.hold false 0))=D1 at *
 generalize dA d=D0 at *
 clear M hm ok o o1 hmine hD1
 unfold iA
 go_enter Tryz.func42,Tryz.ntmps42
 go_wp2_with fail
 refine (L.out _ ((((Gr.refl _).alloc _).alloc _).alloc _)).mono ?_
 rintro e w1 ⟨rfl,G1⟩
 have HZ:Hid (∃Z:Array Value,Z.size=41∧Bl w1 w.heap.size D0 #[.int .i64 47,.int .i64 rd,.int .i64 r1,.int .i64 r2,.int .i32 im] Z):=⟨_,rfl,(three_blocks G1).1,(three_blocks G1).2.1,(three_blocks G1).2.2⟩
 obtain ⟨Z,hz,hb⟩:=HZ.out
 have HG:Hid (Gr w w1):=((((Gr.refl _).alloc _).alloc _).alloc _).trans G1
 have c0:w1.cell? ⟨w.heap.size+1,0,none⟩=some (.int .i64 47):=hb.cellI 0
 have c33:w1.cell? ⟨w.heap.size,33,none⟩=some (.bool true):=(hb.cellD 33).trans g33
 have c34:w1.cell? ⟨w.heap.size,34,none⟩=some (.int .u32 a):=(hb.cellD 34).trans g34
 have fz:=hb.fz
 have HBl:Hid (Bl ((w1.setCell ⟨w.heap.size,33,none⟩ (.bool false)).setCell ⟨w.heap.size,34,none⟩ (.int .u32 0)) w.heap.size D1 #[.int .i64 47,.int .i64 rd,.int .i64 r1,.int .i64 r2,.int .i32 im] Z):=by
  have:=(hb.set 33 (.bool false)).set 34 (.int .u32 0)
  rw [e1,e2] at this
  exact this
 have HGW:Hid (Gr w ((w1.setCell ⟨w.heap.size,33,none⟩ (.bool false)).setCell ⟨w.heap.size,34,none⟩ (.int .u32 0))):=(HG.out.setCell (Nat.le_refl _) _).setCell (Nat.le_refl _) _
 clear G1 L hb HZ e1 e2 sX g33 g34 g37
 go_wp2_with (refine wpList_load_row rfl 71 _ rfl w.heap.size rfl 71 D1 (0,0) _ ?hb1 Tryz.underlying71 rfl (by rw [HS1.out];exact iD) ?_;(case hb1=>exact HBl.out.d))
 refine (S.out _ HGW.out).mono ?_
 rintro e w3 ⟨a1,n1,c1,rfl,M3,G3,F3⟩
 have hb3:=HBl.out.of G3
 have hlt:=HBl.out.lt
 have HM3:Hid (Mem w3 a1 n1 K):=M3
 have HF3:Hid (∀ad,a1=some ad→w.heap.size+1+1<ad.block):=fun ad q=>by have:=F3 ad q;omega
 have HG3:Hid (Gr w w3):=HGW.out.trans G3
 have s2:=SM.out a1 n1 c1
 have s3:=SF.out a1 n1 c1
 have T2:=T.out a1 n1 c1
 generalize hD3:dA (((d.setH (d.h.hold false 0)).setM (.slice a1 n1 c1) a 4).setH ((d.setH (d.h.hold false 0)).h.set rd.toNat 0))=D3 at *
 have HD3:Hid (dA (((d.setH (d.h.hold false 0)).setM (.slice a1 n1 c1) a 4).setH ((d.setH (d.h.hold false 0)).h.set rd.toNat 0))=D3):=hD3
 generalize dA ((d.setH (d.h.hold false 0)).setM (.slice a1 n1 c1) a 4)=D2 at *
 have HT:Hid (∀W:World,Calls Tryz.prog 37 #[.agg D2,.int .i64 rd,.int .u32 0] W fun e w'=>e=.returned (.agg D3)∧Gr W w'):=T2
 have H2:Hid (D2.size=41∧D2.all (·.oneCell')=true):=s2
 have H3:Hid (D3.size=41∧D3.all (·.oneCell')=true):=s3
 have HB3:Hid (Bl w3 w.heap.size D1 #[.int .i64 47,.int .i64 rd,.int .i64 r1,.int .i64 r2,.int .i32 im] Z):=hb3
 have HB4:Hid (Bl (w3.setRow w.heap.size D2) w.heap.size D2 #[.int .i64 47,.int .i64 rd,.int .i64 r1,.int .i64 r2,.int .i32 im] Z):=hb3.row D2
 have c1':(w3.setRow w.heap.size D2).cell? ⟨w.heap.size+1,1,none⟩=some (.int .i64 rd):=HB4.out.cellI 1
 have HG4:Hid (Gr w (w3.setRow w.heap.size D2)):=gr_setRow HG3.out (Nat.le_refl _) _
 have HM4:Hid (Mem (w3.setRow w.heap.size D2) a1 n1 K):=HM3.out.apart fun ad q=>setRow_other _ _ _ _ (by have:=HF3.out ad q;omega)
 clear M3 G3 F3 hb3 s2 s3 T2 hD3 S T SM SF HBl HGW HM3 HG3 c0 c33 c34 fz
 go_wp2_with (first
  | (refine wpList_store_row rfl 71 _ _ rfl w.heap.size D2 rfl rfl 71 D1 ?hb5 (by rw [H2.out.1];exact iD) (by rw [H2.out.1];exact HS1.out) H2.out.2 ?_;(case hb5=>exact HB3.out.d))
  | (refine wpList_load_row rfl 71 _ rfl w.heap.size rfl 71 D2 (0,0) _ ?hb6 Tryz.underlying71 rfl (by rw [H2.out.1];exact iD) ?_;(case hb6=>exact HB4.out.d)))
 refine (HT.out _).mono ?_
 rintro e w5 ⟨rfl,G5⟩
 have HR5:Hid (w5.heap[w.heap.size+1+1]?=some (.cells Z 71 (0,0))):=(HB4.out.of G5).z
 have HM5:Hid (Mem w5 a1 n1 K):=HM4.out.of G5
 have HG5:Hid (Gr w w5):=HG4.out.trans G5
 clear G5 HT HB3 HB4 HM4 HG4 c1'
 go_wp2_with (refine wpList_store_row rfl 71 _ _ rfl (w.heap.size+1+1) D3 rfl rfl 71 Z ?hb7 (by rw [H3.out.1];exact iD) (by rw [H3.out.1,hz]) H3.out.2 ?_;(case hb7=>exact HR5.out))
 refine bodyPost_ret (v:=.tuple #[.agg D3,.bool true]) (results_cell_tmp' Tryz.results42 _ _ _ _ _ (0,0) _ _ rfl rfl (setRow_heap _ _ _ _ _ (0,0) HR5.out) Tryz.underlying71 rfl (by rw [H3.out.1];exact iD)) rfl ⟨a1,n1,c1,by rw [HD3.out],?_,?_,fun ad q=>by have:=HF3.out ad q;omega⟩
 ·exact HM5.out.apart fun ad q=>setRow_other _ _ _ _ (by have:=HF3.out ad q;omega)
 ·exact gr_setRow HG5.out (by omega) _
theorem atom_amo {d:Dv}(o:d.Ok){ao:Option Addr}{n cap:Nat}{l:List UInt8}(hm:d.m=.slice ao n cap)(op rd r1 r2 im a b:Int){w:World}(M:Mem w ao n l)(hn:n≤140737488351232)(h0:0≤a)(h1:a<4294967296)(hb0:0≤b)(hb1:b<4294967296)(hr0:0≤rd)(hr1:rd<32)(ok:ldOk l 13 a=true)(h46:¬op=46)(h47:¬op=47):
  AtomSt d d op rd r1 r2 im a b (ldV l 13 a) (Wd.amo op (ldV l 13 a) b) l w:=by
 unfold AtomSt
 have wv:=W.ldV l 13 a
 have hx0:=wv.1
 have hx1:=wv.2
 have wa:=W.amo (op:=op) wv ⟨hb0,hb1⟩
 have hy0:=wa.1
 have hy1:=wa.2
 have o1:d.Ok:=o
 have L:Hid (∀W:World,Gr w W→Calls Tryz.prog 24 #[.slice ao n cap,.int .i64 13,.int .u32 a] W fun e w'=>e=.returned (.tuple #[.int .u32 (ldV l 13 a),.bool true])∧Gr W w'):=fun W G=>by
  have:=Mr.Load_any cap 13 a (M.of G) hn h0 h1
  rw [ok] at this
  exact this.mono fun e w' h=>⟨h.1,by rw [h.2];exact Gr.refl _⟩
 have Am:Hid (∀W:World,Calls Tryz.prog 63 #[.int .i64 op,.int .u32 (ldV l 13 a),.int .u32 b] W fun e w'=>e=.returned (.int .u32 (Wd.amo op (ldV l 13 a) b))∧Gr W w'):=fun W=>(Rw.amo_any op _ b W hx0 hx1 hb0 hb1).mono fun e w' ⟨h,k,q⟩=>⟨h,by rw [q];exact (Gr.refl _).drewN k⟩
 have S:Hid (∀W:World,Gr w W→Calls Tryz.prog 39 #[.agg (dA d),.int .i64 18,.int .u32 a,.int .u32 (Wd.amo op (ldV l 13 a) b)] W fun e w'=>∃ao' n' cap',e=.returned (.tuple #[.agg (dA (d.setM (.slice ao' n' cap') a 4)),.bool true])∧Mem w' ao' n' (stL l 18 a (Wd.amo op (ldV l 13 a) b))∧Gr W w'∧∀ad,ao'=some ad→W.heap.size≤ad.block):=fun W G=>store_yes (d:=d) o1 hm 18 a (Wd.amo op (ldV l 13 a) b) (M.of G) hn h0 h1 hy0 hy1 (st_of_ld ok)
 have T:Hid (∀(ao':Option Addr) (n' c':Nat) (W:World),Calls Tryz.prog 37 #[.agg (dA (d.setM (.slice ao' n' c') a 4)),.int .i64 rd,.int .u32 (ldV l 13 a)] W fun e w'=>e=.returned (.agg (dA ((d.setM (.slice ao' n' c') a 4).setH (d.h.set rd.toNat (ldV l 13 a)))))∧Gr W w'):=fun ao' n' c' W=>set_any (Dv.Ok.setM o1 ao' n' c' a 4) rd (ldV l 13 a) W hr0 hr1 hx0 hx1
 have SM:Hid (∀(ao':Option Addr) (n' c':Nat),(dA (d.setM (.slice ao' n' c') a 4)).size=41∧(dA (d.setM (.slice ao' n' c') a 4)).all (·.oneCell')=true):=fun ao' n' c'=>⟨dA_size (d:=d.setM _ _ _) o1.h,one_dA (Dv.Ok.setM o1 ao' n' c' a 4)⟩
 have SF:Hid (∀(ao':Option Addr) (n' c':Nat),(dA ((d.setM (.slice ao' n' c') a 4).setH (d.h.set rd.toNat (ldV l 13 a)))).size=41∧(dA ((d.setM (.slice ao' n' c') a 4).setH (d.h.set rd.toNat (ldV l 13 a)))).all (·.oneCell')=true):=fun ao' n' c'=>⟨dA_size (d:=(d.setM _ _ _).setH _) (o1.h.set _ hx0 hx1),one_dA ((Dv.Ok.setM o1 ao' n' c' a 4).setH (o1.h.set _ hx0 hx1))⟩
 have g37:(dA d)[37]?=some (.slice ao n cap):=by rw [dA_fld o.h 0];simp [hm]
 have HS1:Hid ((dA d).size=41):=dA_size o1.h
 have b46:(op == 46)=false:=by simp [h46]
 have b47:(op == 47)=false:=by simp [h47]
 generalize stL l 18 a (Wd.amo op (ldV l 13 a) b)=K at *
 generalize Wd.amo op (ldV l 13 a) b=Y at *
 generalize ldV l 13 a=X at *
 generalize hD0:dA d=D0 at *
 clear M hm ok o o1 wv wa h46 h47 hD0
 unfold iA
 go_enter Tryz.func42,Tryz.ntmps42
 go_wp2_with fail
 refine (L.out _ ((((Gr.refl _).alloc _).alloc _).alloc _)).mono ?_
 rintro e w0 ⟨rfl,G1⟩
 have HZ:Hid (∃Z:Array Value,Z.size=41∧Bl w0 w.heap.size D0 #[.int .i64 op,.int .i64 rd,.int .i64 r1,.int .i64 r2,.int .i32 im] Z):=⟨_,rfl,(three_blocks G1).1,(three_blocks G1).2.1,(three_blocks G1).2.2⟩
 obtain ⟨Z,hz,hb⟩:=HZ.out
 have HG:Hid (Gr w w0):=((((Gr.refl _).alloc _).alloc _).alloc _).trans G1
 have c0:w0.cell? ⟨w.heap.size+1,0,none⟩=some (.int .i64 op):=hb.cellI 0
 have HBo:Hid (Bl w0 w.heap.size D0 #[.int .i64 op,.int .i64 rd,.int .i64 r1,.int .i64 r2,.int .i32 im] Z):=hb
 clear G1 L hb HZ g37
 go_wp2_with fail
 refine (Am.out _).mono ?_
 rintro e w1 ⟨rfl,G2⟩
 have HBl:Hid (Bl w1 w.heap.size D0 #[.int .i64 op,.int .i64 rd,.int .i64 r1,.int .i64 r2,.int .i32 im] Z):=HBo.out.of G2
 have HGW:Hid (Gr w w1):=HG.out.trans G2
 clear Am G2 HBo HG c0
 go_wp2_with (refine wpList_load_row rfl 71 _ rfl w.heap.size rfl 71 D0 (0,0) _ ?hb1 Tryz.underlying71 rfl (by rw [HS1.out];exact iD) ?_;(case hb1=>exact HBl.out.d))
 refine (S.out _ HGW.out).mono ?_
 rintro e w3 ⟨a1,n1,c1,rfl,M3,G3,F3⟩
 have hb3:=HBl.out.of G3
 have hlt:=HBl.out.lt
 have HM3:Hid (Mem w3 a1 n1 K):=M3
 have HF3:Hid (∀ad,a1=some ad→w.heap.size+1+1<ad.block):=fun ad q=>by have:=F3 ad q;omega
 have HG3:Hid (Gr w w3):=HGW.out.trans G3
 have s2:=SM.out a1 n1 c1
 have s3:=SF.out a1 n1 c1
 have T2:=T.out a1 n1 c1
 generalize hD3:dA ((d.setM (.slice a1 n1 c1) a 4).setH (d.h.set rd.toNat X))=D3 at *
 have HD3:Hid (dA ((d.setM (.slice a1 n1 c1) a 4).setH (d.h.set rd.toNat X))=D3):=hD3
 generalize dA (d.setM (.slice a1 n1 c1) a 4)=D2 at *
 have HT:Hid (∀W:World,Calls Tryz.prog 37 #[.agg D2,.int .i64 rd,.int .u32 X] W fun e w'=>e=.returned (.agg D3)∧Gr W w'):=T2
 have H2:Hid (D2.size=41∧D2.all (·.oneCell')=true):=s2
 have H3:Hid (D3.size=41∧D3.all (·.oneCell')=true):=s3
 have HB3:Hid (Bl w3 w.heap.size D0 #[.int .i64 op,.int .i64 rd,.int .i64 r1,.int .i64 r2,.int .i32 im] Z):=hb3
 have HB4:Hid (Bl (w3.setRow w.heap.size D2) w.heap.size D2 #[.int .i64 op,.int .i64 rd,.int .i64 r1,.int .i64 r2,.int .i32 im] Z):=hb3.row D2
 have c1':(w3.setRow w.heap.size D2).cell? ⟨w.heap.size+1,1,none⟩=some (.int .i64 rd):=HB4.out.cellI 1
 have HG4:Hid (Gr w (w3.setRow w.heap.size D2)):=gr_setRow HG3.out (Nat.le_refl _) _
 have HM4:Hid (Mem (w3.setRow w.heap.size D2) a1 n1 K):=HM3.out.apart fun ad q=>setRow_other _ _ _ _ (by have:=HF3.out ad q;omega)
 clear M3 G3 F3 hb3 s2 s3 T2 hD3 S T SM SF HBl HGW HM3 HG3
 go_wp2_with (first
  | (refine wpList_store_row rfl 71 _ _ rfl w.heap.size D2 rfl rfl 71 D0 ?hb5 (by rw [H2.out.1];exact iD) (by rw [H2.out.1];exact HS1.out) H2.out.2 ?_;(case hb5=>exact HB3.out.d))
  | (refine wpList_load_row rfl 71 _ rfl w.heap.size rfl 71 D2 (0,0) _ ?hb6 Tryz.underlying71 rfl (by rw [H2.out.1];exact iD) ?_;(case hb6=>exact HB4.out.d)))
 refine (HT.out _).mono ?_
 rintro e w5 ⟨rfl,G5⟩
 have HR5:Hid (w5.heap[w.heap.size+1+1]?=some (.cells Z 71 (0,0))):=(HB4.out.of G5).z
 have HM5:Hid (Mem w5 a1 n1 K):=HM4.out.of G5
 have HG5:Hid (Gr w w5):=HG4.out.trans G5
 clear G5 HT HB3 HB4 HM4 HG4 c1'
 go_wp2_with (refine wpList_store_row rfl 71 _ _ rfl (w.heap.size+1+1) D3 rfl rfl 71 Z ?hb7 (by rw [H3.out.1];exact iD) (by rw [H3.out.1,hz]) H3.out.2 ?_;(case hb7=>exact HR5.out))
 refine bodyPost_ret (v:=.tuple #[.agg D3,.bool true]) (results_cell_tmp' Tryz.results42 _ _ _ _ _ (0,0) _ _ rfl rfl (setRow_heap _ _ _ _ _ (0,0) HR5.out) Tryz.underlying71 rfl (by rw [H3.out.1];exact iD)) rfl ⟨a1,n1,c1,by rw [HD3.out],?_,?_,fun ad q=>by have:=HF3.out ad q;omega⟩
 ·exact HM5.out.apart fun ad q=>setRow_other _ _ _ _ (by have:=HF3.out ad q;omega)
 ·exact gr_setRow HG5.out (by omega) _
end Go.Proofs.YtchllaeembmioaaGreatDoor.Hr
namespace Go.Proofs.YtchllaeembmioaaGreatDoor.Hr
open Go.ChangeShapes Go.WideShapes Go.ChangeAt Go.RowKit Mm Hh

variable {w w' : World} {B J n cap : Nat} {H Z D I : Array Value} {h : Hv} {ao : Option Addr} {l : List UInt8}
def OutV (w:World) (v:Value) (os:List Int):Prop:=(v=.slice none 0 0∧os=[])∨∃k x,v=.slice (some ⟨k,0,none⟩) 1 1∧os=[x]∧w.heap[k]?=some (.cells #[.int .u32 x] 42 (0,0))
def StoV (d:Dv) (ss:List (Int×Int)):Prop:=(ss=[]∧d.fro=0∧d.many=0)∨ss=[(d.fro,d.many)]
structure Dd (w:World) (v0:Value) (b0:Nat) (d:Dv) (S:Sv):Prop where
 ok:d.Ok
 h:d.h=S.h
 m:∃ao n cap,d.m=.slice ao n cap∧Mem w ao n S.m∧(d.m=v0∨∀ad,ao=some ad→b0≤ad.block)
 out:OutV w d.out S.out
 sto:StoV d S.sto
def RStep (h:Hv) (ao:Option Addr) (n cap:Nat) (w:World) (S:Sv):Prop:=
 Calls Tryz.prog 22 #[.agg (hA h),.slice ao n cap] w fun e w'=>∃d,e=.returned (.agg (dA d))∧Dd w' (.slice ao n cap) w.heap.size d S∧Gr w w'
structure Bt (w:World) (B:Nat) (H Z D:Array Value):Prop where
 h:w.heap[B]?=some (.cells H 51 (0,0))
 z:w.heap[B+1]?=some (.cells Z 71 (0,0))
 d:w.heap[B+1+1]?=some (.cells D 71 (0,0))
structure Bs (w:World) (B J:Nat) (H Z D I:Array Value):Prop where
 t:Bt w B H Z D
 i:w.heap[J]?=some (.cells I 77 (0,0))
theorem Bt.of (h:Bt w B H Z D)(g:Gr w w'):Bt w' B H Z D:=⟨heap_of_gr g h.h,heap_of_gr g h.z,heap_of_gr g h.d⟩
theorem Bs.of (h:Bs w B J H Z D I)(g:Gr w w'):Bs w' B J H Z D I:=⟨h.t.of g,heap_of_gr g h.i⟩
theorem Bt.row (h:Bt w B H Z D)(E:Array Value):Bt (w.setRow (B+1+1) E) B H Z E:=
 ⟨by rw [sro (by omega)];exact h.h,by rw [sro (by omega)];exact h.z,srh h.d⟩
theorem Bt.lt (h:Bt w B H Z D):B+1+1<w.heap.size:=(gs h.d).1
theorem Bs.ne (h:Bs w B J H Z D I):J≠B+1+1:=Hc.ne_of_types h.i h.t.d (by decide)
theorem Bs.row (h:Bs w B J H Z D I)(E:Array Value):Bs (w.setRow (B+1+1) E) B J H Z E I:=
 ⟨h.t.row E,by rw [sro h.ne];exact h.i⟩
theorem Bt.set (h:Bt w B H Z D)(j:Nat)(v:Value):Bt (w.setCell ⟨B+1+1,j,none⟩ v) B H Z (D.setIfInBounds j v):=
 ⟨by rw [hso (by simp;omega)];exact h.h,by rw [hso (by simp)];exact h.z,hss h.d⟩
theorem Bt.cellH (h:Bt w B H Z D)(j:Nat):w.cell? ⟨B,j,none⟩=H[j]?:=cr h.h
theorem Bt.cellD (h:Bt w B H Z D)(j:Nat):w.cell? ⟨B+1+1,j,none⟩=D[j]?:=cr h.d
theorem Bt.fz (h:Bt w B H Z D)(j:Nat):w.frozen? ⟨B+1+1,j,none⟩=false:=frozen_of_row _ _ j _ _ h.d
theorem Bs.cellI (h:Bs w B J H Z D I)(j:Nat):w.cell? ⟨J,j,none⟩=I[j]?:=cr h.i
theorem three_of {Y:Array Value}(g:Gr ((((w.alloc (.cells H 51)).alloc (.cells Z 71)).alloc (.cells Y 71)).setRow (w.heap.size+1+1) D) w'):Bt w' w.heap.size H Z D:=by
 have b:=three_blocks (Gr.refl (((w.alloc (.cells H 51)).alloc (.cells Z 71)).alloc (.cells Y 71)))
 refine Bt.of ⟨?_,?_,?_⟩ g
 ·rw [sro (by omega)];exact b.1
 ·rw [sro (by omega)];exact b.2.1
 ·exact srh b.2.2
theorem third_of (w:World)(H Z Y:Array Value):(((w.alloc (.cells H 51)).alloc (.cells Z 71)).alloc (.cells Y 71)).heap[w.heap.size+1+1]?=some (.cells Y 71 (0,0)):=(three_blocks (Gr.refl _)).2.2
theorem gr_three (w:World)(H Z Y D:Array Value):Gr w ((((w.alloc (.cells H 51)).alloc (.cells Z 71)).alloc (.cells Y 71)).setRow (w.heap.size+1+1) D):=gr_setRow ((((Gr.refl _).alloc _).alloc _).alloc _) (by omega) _
def dv0 (h:Hv) (v:Value):Dv:=⟨h,v,Hc.nilS,0,0⟩
theorem dv0_ok (o:h.Ok)(ao:Option Addr)(n cap:Nat):(dv0 h (.slice ao n cap)).Ok:=⟨o,rfl,rfl⟩
theorem pc_e {d:Dv}(o:d.h.Ok)(x:Int):(dA d).setIfInBounds 32 (.int .u32 x)=dA (d.setH (d.h.go x)):=dA_set o (by omega) (set_pc o x)
structure Pr (h:Hv) (ao:Option Addr) (n cap:Nat) (l:List UInt8) (w:World) (x op rd:Int) (r1 r2:Nat) (im:Int):Prop where
 o:h.Ok
 M:Mem w ao n l
 hn:n≤140737488351232
 ok:ldOk l 13 h.pc=true
 ex:x=ldV l 13 h.pc
 D:∀W:World,Calls Tryz.prog 25 #[.int .u32 x] W fun e w'=>e=.returned (.tuple #[.agg #[.int .i64 op,.int .i64 rd,.int .i64 r1,.int .i64 r2,.int .i32 im],.bool true])∧Gr W w'
 d0:0≤rd
 d1:rd<32
 s1:r1<32
 t1:r2<32
 i0 : -2147483648≤im
 i1:im<2147483648
theorem rs_fetch (o:h.Ok)(M:Mem w ao n l)(hn:n≤140737488351232)(ok:ldOk l 13 h.pc=false):RStep h ao n cap w ⟨h.trap 1,l,[],[]⟩:=by
 unfold RStep
 have L:Hid (∀W:World,Gr w W→Calls Tryz.prog 24 #[.slice ao n cap,.int .i64 13,.int .u32 h.pc] W fun e w'=>e=.returned (.tuple #[.int .u32 (ldV l 13 h.pc),.bool false])∧Gr W w'):=fun W G=>by
  have:=Mr.Load_any cap 13 h.pc (M.of G) hn o.pc0 o.pc1
  rw [ok] at this
  exact this.mono fun e w' h=>⟨h.1,by rw [h.2];exact Gr.refl _⟩
 have HBu:Hid (Tryz.prog.built 71 [(0,.agg (hA h)),(1,.slice ao n cap)]=some (dA (dv0 h (.slice ao n cap)))):=Hc.built_did o _ rfl
 have HS:Hid ((hA h).size=37):=hA_size o
 have HS0:Hid ((dA (dv0 h (.slice ao n cap))).size=41):=dA_size (d:=dv0 _ _) o
 have HO0:Hid ((dA (dv0 h (.slice ao n cap))).all (·.oneCell')=true):=one_dA (dv0_ok o _ _ _)
 have gpc:(hA h)[32]?=some (.int .u32 h.pc):=by simp only [hA,List.getElem?_toArray];exact hL_fld o 0
 have Tr:Hid (∀W:World,_):=fun W=>trap_any (dv0_ok o ao n cap) 1 W
 have HSt:Hid ((dA ((dv0 h (.slice ao n cap)).setH ((dv0 h (.slice ao n cap)).h.trap 1))).size=41):=dA_size (d:=(dv0 h (.slice ao n cap)).setH _) ((dv0_ok o ao n cap).h.trap 1)
 have HOt:Hid ((dA ((dv0 h (.slice ao n cap)).setH ((dv0 h (.slice ao n cap)).h.trap 1))).all (·.oneCell')=true):=one_dA ((dv0_ok o ao n cap).setH ((dv0_ok o ao n cap).h.trap 1))
 have Okt:Hid (((dv0 h (.slice ao n cap)).setH ((dv0 h (.slice ao n cap)).h.trap 1)).Ok):=(dv0_ok o ao n cap).setH ((dv0_ok o ao n cap).h.trap 1)
 generalize hDt:dA ((dv0 h (.slice ao n cap)).setH ((dv0 h (.slice ao n cap)).h.trap 1))=Dt at *
 have HDt:Hid _:=hDt
 clear hDt
 have HM:Hid _:=M
 generalize dA (dv0 h (.slice ao n cap))=D0 at *
 generalize hA h=H at *
 generalize ldV l 13 h.pc=x at *
 generalize h.pc=pc at *
 clear M ok o
 have kpc:∀Z Y:Array Value,((((w.alloc (.cells H 51)).alloc (.cells Z 71)).alloc (.cells Y 71)).setRow (w.heap.size+1+1) D0).cell? ⟨w.heap.size,32,none⟩=some (.int .u32 pc):=fun Z Y=>((three_of (Gr.refl _)).cellH 32).trans gpc
 go_enter Tryz.func22,Tryz.ntmps22
 go_wp2_with (first
  | (refine wpList_load_row rfl 51 _ rfl w.heap.size rfl 51 H (0,0) _ ?ha1 Tryz.underlying51 rfl (by rw [HS.out];exact iH) ?_;(case ha1=>exact heap_alloc2_old w _ _))
  | (refine wpList_buildTo rfl 71 _ rfl _ rfl D0 (by have:=HBu.out;simp [Act.eval,Act.put];exact this) ?_)
  | (refine wpList_store_row rfl 71 _ _ rfl (w.heap.size+1+1) D0 rfl rfl 71 _ (third_of w _ _ _) (by rw [HS0.out];exact iD) (by rw [HS0.out];rfl) HO0.out ?_))
 refine (L.out _ (gr_three w _ _ _ _)).mono ?_
 rintro e w1 ⟨rfl,G1⟩
 have HZ:Hid (∃Z:Array Value,Z.size=41∧Bt w1 w.heap.size H Z D0):=⟨_,rfl,three_of G1⟩
 obtain ⟨Z,hz,hb⟩:=HZ.out
 have HG1:Hid (Gr w w1):=(gr_three w _ _ _ _).trans G1
 have HB1:Hid _:=hb
 clear G1 L hb HZ HBu kpc
 go_wp2_with (refine wpList_load_row rfl 71 _ rfl (w.heap.size+1+1) rfl 71 D0 (0,0) _ ?hd1 Tryz.underlying71 rfl (by rw [HS0.out];exact iD) ?_;(case hd1=>exact HB1.out.d))
 refine (Tr.out _).mono ?_
 rintro e wt ⟨rfl,Gt⟩
 have HRt:Hid (wt.heap[w.heap.size+1]?=some (.cells Z 71 (0,0))):=(HB1.out.of Gt).z
 have HGt:Hid (Gr w wt):=HG1.out.trans Gt
 clear Gt Tr
 go_wp2_with (refine wpList_store_row rfl 71 _ _ rfl (w.heap.size+1) Dt rfl rfl 71 Z ?hd2 (by rw [HSt.out];exact iD) (by rw [HSt.out,hz]) HOt.out ?_;(case hd2=>exact HRt.out))
 refine bodyPost_ret (v:=.agg Dt) (results_cell_row rfl _ _ _ _ _ (0,0) _ rfl (srh HRt.out) Tryz.underlying71 rfl (by rw [HSt.out];exact iD)) rfl ⟨(dv0 h (.slice ao n cap)).setH ((dv0 h (.slice ao n cap)).h.trap 1),by rw [HDt.out],⟨Okt.out,rfl,⟨ao,n,cap,rfl,HM.out.of (gr_setRow HGt.out (by omega) _),.inl rfl⟩,.inl ⟨rfl,rfl⟩,.inl ⟨rfl,rfl,rfl⟩⟩,?_⟩
 exact gr_setRow HGt.out (by omega) _
theorem rs_word (o:h.Ok)(M:Mem w ao n l)(hn:n≤140737488351232)(ok:ldOk l 13 h.pc=true)(D:∀W:World,Calls Tryz.prog 25 #[.int .u32 (ldV l 13 h.pc)] W fun e w'=>e=.returned (.tuple #[.agg #[.int .i64 0,.int .i64 0,.int .i64 0,.int .i64 0,.int .i32 0],.bool false])∧Gr W w'):RStep h ao n cap w ⟨h.trap 2,l,[],[]⟩:=by
 unfold RStep
 have L:Hid (∀W:World,Gr w W→Calls Tryz.prog 24 #[.slice ao n cap,.int .i64 13,.int .u32 h.pc] W fun e w'=>e=.returned (.tuple #[.int .u32 (ldV l 13 h.pc),.bool true])∧Gr W w'):=fun W G=>by
  have:=Mr.Load_any cap 13 h.pc (M.of G) hn o.pc0 o.pc1
  rw [ok] at this
  exact this.mono fun e w' h=>⟨h.1,by rw [h.2];exact Gr.refl _⟩
 have HBu:Hid (Tryz.prog.built 71 [(0,.agg (hA h)),(1,.slice ao n cap)]=some (dA (dv0 h (.slice ao n cap)))):=Hc.built_did o _ rfl
 have HS:Hid ((hA h).size=37):=hA_size o
 have HS0:Hid ((dA (dv0 h (.slice ao n cap))).size=41):=dA_size (d:=dv0 _ _) o
 have HO0:Hid ((dA (dv0 h (.slice ao n cap))).all (·.oneCell')=true):=one_dA (dv0_ok o _ _ _)
 have gpc:(hA h)[32]?=some (.int .u32 h.pc):=by simp only [hA,List.getElem?_toArray];exact hL_fld o 0
 have Tr:Hid (∀W:World,_):=fun W=>trap_any (dv0_ok o ao n cap) 2 W
 have HSt:Hid ((dA ((dv0 h (.slice ao n cap)).setH ((dv0 h (.slice ao n cap)).h.trap 2))).size=41):=dA_size (d:=(dv0 h (.slice ao n cap)).setH _) ((dv0_ok o ao n cap).h.trap 2)
 have HOt:Hid ((dA ((dv0 h (.slice ao n cap)).setH ((dv0 h (.slice ao n cap)).h.trap 2))).all (·.oneCell')=true):=one_dA ((dv0_ok o ao n cap).setH ((dv0_ok o ao n cap).h.trap 2))
 have Okt:Hid (((dv0 h (.slice ao n cap)).setH ((dv0 h (.slice ao n cap)).h.trap 2)).Ok):=(dv0_ok o ao n cap).setH ((dv0_ok o ao n cap).h.trap 2)
 generalize hDt:dA ((dv0 h (.slice ao n cap)).setH ((dv0 h (.slice ao n cap)).h.trap 2))=Dt at *
 have HDt:Hid _:=hDt
 clear hDt
 have HM:Hid _:=M
 have HD:Hid _:=D
 generalize dA (dv0 h (.slice ao n cap))=D0 at *
 generalize hA h=H at *
 generalize ldV l 13 h.pc=x at *
 generalize h.pc=pc at *
 clear M ok o D
 have kpc:∀Z Y:Array Value,((((w.alloc (.cells H 51)).alloc (.cells Z 71)).alloc (.cells Y 71)).setRow (w.heap.size+1+1) D0).cell? ⟨w.heap.size,32,none⟩=some (.int .u32 pc):=fun Z Y=>((three_of (Gr.refl _)).cellH 32).trans gpc
 go_enter Tryz.func22,Tryz.ntmps22
 go_wp2_with (first
  | (refine wpList_load_row rfl 51 _ rfl w.heap.size rfl 51 H (0,0) _ ?ha1 Tryz.underlying51 rfl (by rw [HS.out];exact iH) ?_;(case ha1=>exact heap_alloc2_old w _ _))
  | (refine wpList_buildTo rfl 71 _ rfl _ rfl D0 (by have:=HBu.out;simp [Act.eval,Act.put];exact this) ?_)
  | (refine wpList_store_row rfl 71 _ _ rfl (w.heap.size+1+1) D0 rfl rfl 71 _ (third_of w _ _ _) (by rw [HS0.out];exact iD) (by rw [HS0.out];rfl) HO0.out ?_))
 refine (L.out _ (gr_three w _ _ _ _)).mono ?_
 rintro e w1 ⟨rfl,G1⟩
 have HZ:Hid (∃Z:Array Value,Z.size=41∧Bt w1 w.heap.size H Z D0):=⟨_,rfl,three_of G1⟩
 obtain ⟨Z,hz,hb⟩:=HZ.out
 have HG1:Hid (Gr w w1):=(gr_three w _ _ _ _).trans G1
 have HB1:Hid _:=hb
 clear G1 L hb HZ HBu kpc
 go_wp2_with fail
 refine (HD.out _).mono ?_
 rintro e w2 ⟨rfl,G2⟩
 have HB2:Hid (∀ob,Bt (w2.alloc ob) w.heap.size H Z D0):=fun ob=>(HB1.out.of G2).of ((Gr.refl _).alloc _)
 have HG2:Hid (∀ob,Gr w (w2.alloc ob)):=fun ob=>(HG1.out.trans G2).alloc _
 clear G2 HD HB1 HG1
 go_wp2_with (refine wpList_load_row rfl 71 _ rfl (w.heap.size+1+1) rfl 71 D0 (0,0) _ ?hd1 Tryz.underlying71 rfl (by rw [HS0.out];exact iD) ?_;(case hd1=>exact (HB2.out _).d))
 refine (Tr.out _).mono ?_
 rintro e wt ⟨rfl,Gt⟩
 have HRt:Hid (wt.heap[w.heap.size+1]?=some (.cells Z 71 (0,0))):=((HB2.out _).of Gt).z
 have HGt:Hid (Gr w wt):=(HG2.out _).trans Gt
 clear Gt Tr
 go_wp2_with (refine wpList_store_row rfl 71 _ _ rfl (w.heap.size+1) Dt rfl rfl 71 Z ?hd2 (by rw [HSt.out];exact iD) (by rw [HSt.out,hz]) HOt.out ?_;(case hd2=>exact HRt.out))
 refine bodyPost_ret (v:=.agg Dt) (results_cell_row rfl _ _ _ _ _ (0,0) _ rfl (srh HRt.out) Tryz.underlying71 rfl (by rw [HSt.out];exact iD)) rfl ⟨(dv0 h (.slice ao n cap)).setH ((dv0 h (.slice ao n cap)).h.trap 2),by rw [HDt.out],⟨Okt.out,rfl,⟨ao,n,cap,rfl,HM.out.of (gr_setRow HGt.out (by omega) _),.inl rfl⟩,.inl ⟨rfl,rfl⟩,.inl ⟨rfl,rfl,rfl⟩⟩,?_⟩
 exact gr_setRow HGt.out (by omega) _
end Go.Proofs.YtchllaeembmioaaGreatDoor.Hr
namespace Go.Proofs.YtchllaeembmioaaGreatDoor.Hr
open Go.ChangeShapes Go.WideShapes Go.ChangeAt Go.RowKit Mm Hh

variable {d : Dv} {rd im : Int} {w w5 : World} {J r1 r2 : Nat} {Z : Array Value}
structure Rest (P:Prop):Prop where
 out:P
theorem rshare {P Q:Prop}(h:Rest P→Q)(p:P):Q:=h ⟨p⟩
def rsRest {h:Hv} {ao:Option Addr} {n cap:Nat} {l:List UInt8} {w:World} {x op rd:Int} {r1 r2:Nat} {im:Int} (P:Pr h ao n cap l w x op rd r1 r2 im) (S:Sv):(G:Prop) ×' (Rest G→RStep h ao n cap w S):=by
 apply PSigma.mk
 intro CONT
 unfold RStep
 have o:=P.o
 have M:=P.M
 have hn:=P.hn
 have ok:=P.ok
 have D:=P.D
 rw [P.ex] at D
 have s1:=P.s1
 have t1:=P.t1
 have i0:=P.i0
 have i1:=P.i1
 have HD:Hid _:=D
 have wp:=W.pc o
 have wa:=W.reg o r1
 have wb:=W.reg o r2
 have wn:=W.lo im
 have Fo:Hid (∀W:World,Calls Tryz.prog 35 #[.int .i64 im] W fun e w'=>e=.returned (.int .u32 (Wd.lo im))∧Gr W w'):=fun W=>(Rw.Of_any im W (by omega) (by omega)).mono fun e w' h=>⟨h.1,by rw [h.2];exact Gr.refl _⟩
 have S4:Hid (∀W:World,Calls Tryz.prog 36 #[.int .u32 h.pc,.int .u32 4] W fun e w'=>e=.returned (.int .u32 (Wd.lo (h.pc+4)))∧Gr W w'):=fun W=>(sum_any h.pc 4 W wp.1 wp.2 (by omega) (by omega)).mono fun e w' h=>⟨h.1,by rw [h.2];exact Gr.refl _⟩
 have ST:Hid (∀W:World,Calls Tryz.prog 36 #[.int .u32 (rg h r1),.int .u32 (Wd.lo im)] W fun e w'=>e=.returned (.int .u32 (Wd.lo (rg h r1+Wd.lo im)))∧Gr W w'):=fun W=>(sum_any _ _ W wa.1 wa.2 wn.1 wn.2).mono fun e w' h=>⟨h.1,by rw [h.2];exact Gr.refl _⟩
 have SP:Hid (∀W:World,Calls Tryz.prog 36 #[.int .u32 h.pc,.int .u32 (Wd.lo im)] W fun e w'=>e=.returned (.int .u32 (Wd.lo (h.pc+Wd.lo im)))∧Gr W w'):=fun W=>(sum_any _ _ W wp.1 wp.2 wn.1 wn.2).mono fun e w' h=>⟨h.1,by rw [h.2];exact Gr.refl _⟩
 have g1:(hA h)[r1]?=some (.int .u32 (rg h r1)):=by simp only [hA,List.getElem?_toArray];exact hL_reg o s1
 have g2:(hA h)[r2]?=some (.int .u32 (rg h r2)):=by simp only [hA,List.getElem?_toArray];exact hL_reg o t1
 have HM:Hid _:=M
 have L:Hid (∀W:World,Gr w W→Calls Tryz.prog 24 #[.slice ao n cap,.int .i64 13,.int .u32 h.pc] W fun e w'=>e=.returned (.tuple #[.int .u32 (ldV l 13 h.pc),.bool true])∧Gr W w'):=fun W G=>by
  have:=Mr.Load_any cap 13 h.pc (M.of G) hn o.pc0 o.pc1
  rw [ok] at this
  exact this.mono fun e w' h=>⟨h.1,by rw [h.2];exact Gr.refl _⟩
 have HBu:Hid (Tryz.prog.built 71 [(0,.agg (hA h)),(1,.slice ao n cap)]=some (dA (dv0 h (.slice ao n cap)))):=Hc.built_did o _ rfl
 have HS:Hid ((hA h).size=37):=hA_size o
 have HS0:Hid ((dA (dv0 h (.slice ao n cap))).size=41):=dA_size (d:=dv0 _ _) o
 have HO0:Hid ((dA (dv0 h (.slice ao n cap))).all (·.oneCell')=true):=one_dA (dv0_ok o _ _ _)
 have gpc:(hA h)[32]?=some (.int .u32 h.pc):=by simp only [hA,List.getElem?_toArray];exact hL_fld o 0
 generalize hE0:dA (dv0 h (.slice ao n cap))=D0 at *
 generalize hE1:hA h=H at *
 generalize hth:(Wd.lo (rg h r1+Wd.lo im))=th at *
 generalize hpn:(Wd.lo (h.pc+Wd.lo im))=pn at *
 generalize hp4:(Wd.lo (h.pc+4))=p4 at *
 generalize hnn:(Wd.lo im)=nn at *
 generalize hxa:(rg h r1)=xa at *
 generalize hxb:(rg h r2)=xb at *
 generalize hlx:ldV l 13 h.pc=lx at *
 generalize hpc:h.pc=pc at *
 have EQS:Hid ((dA (dv0 h (.slice ao n cap))=D0∧hA h=H∧ldV l 13 pc=lx)∧rg h r1=xa∧rg h r2=xb∧Wd.lo im=nn∧Wd.lo (pc+4)=p4∧Wd.lo (xa+nn)=th∧h.pc=pc):=⟨⟨hE0,hE1,hlx⟩,hxa,hxb,hnn,hp4,hth,hpc⟩
 clear hE0 hE1 hth hpn hp4 hnn hxa hxb hlx hpc
 clear M ok o D wp wa wb wn
 have kpc:∀Z Y:Array Value,((((w.alloc (.cells H 51)).alloc (.cells Z 71)).alloc (.cells Y 71)).setRow (w.heap.size+1+1) D0).cell? ⟨w.heap.size,32,none⟩=some (.int .u32 pc):=fun Z Y=>((three_of (Gr.refl _)).cellH 32).trans gpc
 go_enter Tryz.func22,Tryz.ntmps22
 go_wp2_with (first
  | (refine wpList_load_row rfl 51 _ rfl w.heap.size rfl 51 H (0,0) _ ?ha1 Tryz.underlying51 rfl (by rw [HS.out];exact iH) ?_;(case ha1=>exact heap_alloc2_old w _ _))
  | (refine wpList_buildTo rfl 71 _ rfl _ rfl D0 (by have:=HBu.out;simp [Act.eval,Act.put];exact this) ?_)
  | (refine wpList_store_row rfl 71 _ _ rfl (w.heap.size+1+1) D0 rfl rfl 71 _ (third_of w _ _ _) (by rw [HS0.out];exact iD) (by rw [HS0.out];rfl) HO0.out ?_))
 refine (L.out _ (gr_three w _ _ _ _)).mono ?_
 rintro e w1 ⟨rfl,G1⟩
 have HZ:Hid (∃Z:Array Value,Z.size=41∧Bt w1 w.heap.size H Z D0):=⟨_,rfl,three_of G1⟩
 obtain ⟨Z,hz,hb⟩:=HZ.out
 have HG1:Hid (Gr w w1):=(gr_three w _ _ _ _).trans G1
 have HB1:Hid _:=hb
 clear G1 L hb HZ HBu kpc
 go_wp2_with fail
 refine (HD.out _).mono ?_
 rintro e w2 ⟨rfl,G2⟩
 have HB2:Hid (Bt w2 w.heap.size H Z D0):=HB1.out.of G2
 have HG2:Hid (Gr w w2):=HG1.out.trans G2
 have hJ:w.heap.size+1+1<w2.heap.size:=HB2.out.lt
 have HBs:Hid (Bs (w2.alloc (.cells #[.int .i64 op,.int .i64 rd,.int .i64 r1,.int .i64 r2,.int .i32 im] 77)) w.heap.size w2.heap.size H Z D0 #[.int .i64 op,.int .i64 rd,.int .i64 r1,.int .i64 r2,.int .i32 im]):=⟨HB2.out.of ((Gr.refl _).alloc _),heap_alloc_new w2 _⟩
 have kr1:w2.cell? ⟨w.heap.size,r1,none⟩=some (.int .u32 xa):=(HB2.out.cellH r1).trans g1
 have kr2:w2.cell? ⟨w.heap.size,r2,none⟩=some (.int .u32 xb):=(HB2.out.cellH r2).trans g2
 have hB2:w.heap.size<w2.heap.size:=by omega
 clear G2 HD HB1 HG1
 go_wp2_with fail
 refine (Fo.out _).mono ?_
 rintro e w3 ⟨rfl,G3⟩
 have HB3:Hid (Bs w3 w.heap.size w2.heap.size H Z D0 #[.int .i64 op,.int .i64 rd,.int .i64 r1,.int .i64 r2,.int .i32 im]):=HBs.out.of G3
 have HG3:Hid (Gr w w3):=(HG2.out.alloc _).trans G3
 have kpc:w3.cell? ⟨w.heap.size,32,none⟩=some (.int .u32 pc):=(HB3.out.t.cellH 32).trans gpc
 clear G3 Fo HB2 HG2 HBs kr1 kr2
 go_wp2_with fail
 refine (S4.out _).mono ?_
 rintro e w4 ⟨rfl,G4⟩
 have HB4:Hid (Bs w4 w.heap.size w2.heap.size H Z D0 #[.int .i64 op,.int .i64 rd,.int .i64 r1,.int .i64 r2,.int .i32 im]):=HB3.out.of G4
 have HG4:Hid (Gr w w4):=HG3.out.trans G4
 clear G4 S4 HB3 HG3 kpc
 go_wp2_with fail
 refine (ST.out _).mono ?_
 rintro e w5 ⟨rfl,G5⟩
 have HB5:Hid (Bs w5 w.heap.size w2.heap.size H Z D0 #[.int .i64 op,.int .i64 rd,.int .i64 r1,.int .i64 r2,.int .i32 im]):=HB4.out.of G5
 have HG5:Hid (Gr w w5):=HG4.out.trans G5
 have kpc:w5.cell? ⟨w.heap.size,32,none⟩=some (.int .u32 pc):=(HB5.out.t.cellH 32).trans gpc
 have kop:w5.cell? ⟨w2.heap.size,0,none⟩=some (.int .i64 op):=HB5.out.cellI 0
 have krd:w5.cell? ⟨w2.heap.size,1,none⟩=some (.int .i64 rd):=HB5.out.cellI 1
 clear G5 ST HB4 HG4
 have HB:=HB5.out
 have HG:=HG5.out
 clear HB5 HG5 kpc kop krd hB2 g1 g2 gpc HS HS0 HO0 SP
 clear w1 w3 w4
 obtain ⟨⟨rfl,rfl,rfl⟩,rfl,rfl,rfl,rfl,rfl,rfl⟩:=EQS.out
 clear EQS
 rename_i Q0 K1 A1 K2 A2
 revert K2
 revert K1
 revert Q0
 revert HG
 revert HB
 revert hJ
 generalize w2.heap.size=J
 clear w2
 revert J
 revert w5
 revert hz
 revert Z
 exact CONT.out
theorem setF (o:d.Ok){X:Int}(d0:0≤rd)(d1:rd<32)(wX:W X):Hid (∀W:World,Calls Tryz.prog 37 #[.agg (dA d),.int .i64 rd,.int .u32 X] W fun e w'=>e=.returned (.agg (dA (d.setH (d.h.set rd.toNat X))))∧Gr W w')∧(d.setH (d.h.set rd.toNat X)).Ok∧Hid ((dA (d.setH (d.h.set rd.toNat X))).size=41)∧Hid ((dA (d.setH (d.h.set rd.toNat X))).all (·.oneCell')=true):=by
 have k:(d.setH (d.h.set rd.toNat X)).Ok:=o.setH (o.h.set _ wX.1 wX.2)
 exact ⟨fun W=>set_any o rd X W d0 d1 wX.1 wX.2,k,dA_size k.h,one_dA k⟩
theorem finF (o:d.Ok){nx:Int}(wN:W nx):∃D2,Hid (dA (d.setH (d.h.go nx))=D2)∧Hid (D2.size=41)∧Hid (D2.all (·.oneCell')=true)∧Hid ((dA d).setIfInBounds 32 (.int .u32 nx)=D2)∧Hid (∃y,(dA d)[32]?=some (.int .u32 y))∧Hid ((d.setH (d.h.go nx)).Ok):=by
 have k:(d.setH (d.h.go nx)).Ok:=o.setH (o.h.go wN.1 wN.2)
 exact ⟨_,rfl,dA_size k.h,one_dA k,pc_e o.h nx,⟨_,(dA_get o.h (by omega)).trans (hL_fld o.h 0)⟩,k⟩
theorem trapF (o:d.Ok)(c:Int):∃Dt,Hid (∀W:World,Calls Tryz.prog 34 #[.agg (dA d),.int .i64 c] W fun e w'=>e=.returned (.agg Dt)∧Gr W w')∧Hid (Dt.size=41)∧Hid (Dt.all (·.oneCell')=true)∧Hid ((d.setH (d.h.trap c)).Ok)∧Hid (dA (d.setH (d.h.trap c))=Dt):=
 ⟨_,fun W=>trap_any o c W,dA_size (d:=d.setH _) (o.h.trap c),one_dA (o.setH (o.h.trap c)),o.setH (o.h.trap c),rfl⟩
theorem atIns {h:Hv}{ao:Option Addr}{n cap:Nat}{l:List UInt8}{I:Array Value}(o:h.Ok)(M:Mem w ao n l)(HB:Bs w5 w.heap.size J (hA h) Z (dA (dv0 h (.slice ao n cap))) I)(HG:Gr w w5)(hJ:w.heap.size+1+1<J):
  Hid (Bs w5 w.heap.size J (hA h) Z (dA (dv0 h (.slice ao n cap))) I)∧Hid (Gr w w5)∧Hid (Mem w ao n l)∧(W h.pc∧W (rg h r1)∧W (rg h r2)∧W (Wd.lo im))∧Hid (∀W:World,Calls Tryz.prog 36 #[.int .u32 h.pc,.int .u32 (Wd.lo im)] W fun e w'=>e=.returned (.int .u32 (Wd.lo (h.pc+Wd.lo im)))∧Gr W w')∧Hid ((dA (dv0 h (.slice ao n cap))).size=41)∧Hid ((dA (dv0 h (.slice ao n cap))).all (·.oneCell')=true)∧(hA h)[32]?=some (.int .u32 h.pc)∧w.heap.size<J:=
 ⟨HB,HG,M,⟨W.pc o,W.reg o r1,W.reg o r2,W.lo im⟩,fun W0=>(sum_any _ _ W0 (W.pc o).1 (W.pc o).2 (W.lo im).1 (W.lo im).2).mono fun e w' h=>⟨h.1,by rw [h.2];exact Gr.refl _⟩,dA_size (d:=dv0 _ _) o,one_dA (dv0_ok o _ _ _),by simp only [hA,List.getElem?_toArray];exact hL_fld o 0,by omega⟩
theorem insAt {H D:Array Value}{op pc:Int}(HB:Bs w5 w.heap.size J H Z D #[.int .i64 op,.int .i64 rd,.int .i64 r1,.int .i64 r2,.int .i32 im])(gpc:H[32]?=some (.int .u32 pc)):
  w5.cell? ⟨w.heap.size,32,none⟩=some (.int .u32 pc)∧w5.cell? ⟨J,0,none⟩=some (.int .i64 op)∧w5.cell? ⟨J,1,none⟩=some (.int .i64 rd):=
 ⟨(HB.t.cellH 32).trans gpc,HB.cellI 0,HB.cellI 1⟩
end Go.Proofs.YtchllaeembmioaaGreatDoor.Hr
