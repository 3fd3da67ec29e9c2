/- ours -/
import Derived.Test.YtiadhbmnfjfioaaGreatDoorX05
set_option linter.unusedVariables false
set_option linter.unusedSimpArgs false
set_option maxHeartbeats 8000000
set_option maxRecDepth 100000
set_option linter.unusedSectionVars false
namespace Go.Proofs.YtiadhbmnfjfioaaGreatDoor
open Go.Proofs.Tryz hiding cs d0 d1 d2 parts t0 t1 t2 t3
open Go.ChangeShapes Go.WideShapes Go.ChangeAt Go.RowKit
variable{a:Act}{K:Act->World->Prop}{listed:Array Bool}{ops:Array Oper}{fn:Func}{ss:List (Int×Int)}{ps:List (Nat×Nat)}{os:List Int}{rest:List Oper}{l m':List UInt8}{xs olds news rs:List Value}{base g t n fuel i k e sz gh hc c mn b cn ty size bytes m:Nat}{f:Nat×Nat}{o:Oper}{ao ca:Option Addr}{P:Program}{E:Prop}{z0 v z M O vx M':Value}{w x w':World}{S p:World->Prop}
namespace Hc
variable[Inhabited Hc.bN]
open Mm Hh
theorem DU {h:Hv}(I:In w base g h l os ss)(T:Tb w base)(hl:l.length<=140737488351232)(hss:ss.length<=1000000)(hos:os.length<=1000000)(op rd r1 r2 im:Int)(d0:0<=rd)(d1:rd<32)(s0:0<=r1)(s1:r1<32)(t0:0<=r2)(t1:r2<32)(i0 : -2147483648<=im)(i1:im<=2147483647):Calls prog 135 #[.pointer (some ⟨g,0,none⟩),.agg #[.int .i64 op,.int .i64 rd,.int .i64 r1,.int .i64 r2,.int .i32 im]] w fun e w'=>e=.returned (.tuple #[])/\In w' base g (ins h l op rd r1 r2 im).h (ins h l op rd r1 r2 im).m (os++(ins h l op rd r1 r2 im).out) (ss++(ins h l op rd r1 r2 im).av)/\Fr base w w':=by
 obtain⟨r1,rfl⟩:=apt s0;obtain⟨r2,rfl⟩:=apt t0;have HI:Hid (In w base g h l os ss):=I;have HT:Hid (Tb w base):=T;obtain⟨c0,rfl,J⟩:=I;have hr1:r1<32:=ab;have hr2:r2<32:=ab;have k1:=J.reg hr1;have k2:=J.reg hr2;have hg:=J.lt;have hbl:base<=w.heap.size:=J.ay;have wa:=W.reg J.ok r1;have wb:=W.reg J.ok r2;have wn:=W.lo im;have HE:Hid (ins c0.h l op rd (r1:Int) (r2:Int) im=done (fT c0.h l op (rg c0.h r1) (rg c0.h r2) (im%4294967296)) rd.toNat (qD c0.h op (rg c0.h r1) (rg c0.h r2) (im%4294967296))):=rfl;have ok:Hid ((fT c0.h l op (rg c0.h r1) (rg c0.h r2) (im%4294967296)).Ok l):=De J.ok l wa wb wn;have hx:Hid (W (qD c0.h op (rg c0.h r1) (rg c0.h r2) (im%4294967296))):=.qD;have N:Hid (∀W1,In W1 base g c0.h l os ss->Calls prog 160 #[.pointer (some ⟨g,0,none⟩),.int .i64 op,.int .u32 (rg c0.h r1),.int .u32 (rg c0.h r2),.int .u32 (im%4294967296)] W1 fun e w'=>e=.returned (.int .u32 (qD c0.h op (rg c0.h r1) (rg c0.h r2) (im%4294967296)))/\Gr W1 w'):=fun W1 I1=>(LB I1 op _ _ _ wa.1 wa.2 wb.1 wb.2 wn.1 wn.2).mono fun e w' h=>⟨h.1,by rw[h.2];exact Gr.refl _⟩
 have E:Hid (∀W1,In W1 base g c0.h l os ss->Tb W1 base->Calls prog 161 #[.pointer (some ⟨g,0,none⟩),.int .i64 op,.int .u32 (rg c0.h r1),.int .u32 (rg c0.h r2),.int .u32 (im%4294967296)] W1 fun e w'=>e=.returned (bP (fT c0.h l op (rg c0.h r1) (rg c0.h r2) (im%4294967296)).res)/\In w' base g (fT c0.h l op (rg c0.h r1) (rg c0.h r2) (im%4294967296)).h (fT c0.h l op (rg c0.h r1) (rg c0.h r2) (im%4294967296)).m (os++(fT c0.h l op (rg c0.h r1) (rg c0.h r2) (im%4294967296)).out) (ss++(fT c0.h l op (rg c0.h r1) (rg c0.h r2) (im%4294967296)).av)/\Fr base W1 w'):=fun W1 I1 T1=>oH I1 T1 hl hss hos op _ _ _ wa wb wn
 rw[HE.out];generalize fT c0.h l op (rg c0.h r1) (rg c0.h r2) (im%4294967296)=Z at *
 generalize qD c0.h op (rg c0.h r1) (rg c0.h r2) (im%4294967296)=X at *
 generalize rg c0.h r1=xa at *
 generalize rg c0.h r2=xb at *
 generalize c0.h=h0 at *
 clear J HE wa wb wn T;unfold done bP at *
 simp only at *
 have hw0:=kH ok.res;clear ok;generalize Z.res=rr at *
 cases rr with
 |none=>
  have e0:Z.h.put rd.toNat none=Z.h:=rfl;rw[e0];clear e0;generalize Z.h=HH at *
  go_enter func135,ntmps135;go_wp2_with fail;go_quiet (fail);go_wp2_with fail;refine(N _ (HI.of (br.drewN _))).mono ?_;rintro e w1 ⟨rfl,G0⟩;have G1:=(br.drewN _).trans G0;have HB1:=kH ((G0.block _ aq).trans (at5 w _));have HI1:=kH (HI.of G1);have rY:Hid (Fr base w w1):=.bD G1 hbl;have HT1:=kH (HT.of rY);have q0:w1.cell? ⟨w.heap.size,0,none⟩=some (.int .i64 op):=atZ _ _ _ _ _ _ HB1;clear G0 G1 N k1 k2 hg;go_wp2_with fail;refine(E _ HI1 HT1).mono ?_;rintro e w2 ⟨rfl,I2,F2⟩;have HB2:=kH ((F2.keep _ _ _ _ HB1 an an an).trans HB1);have q1:w2.cell? ⟨w.heap.size,1,none⟩=some (.int .i64 rd):=atZ _ _ _ _ _ _ HB2;have HI2:=kH I2;have pX:=kH (rY.trans F2);clear I2 F2 E HB1 HB2 HI1 rY HT1 HT HI q0;generalize hw:w2=w3 at *
  have HI3:=kH HI2;have Jk:=kH pX;clear hw HI2 pX q1;obtain⟨c1,hc1,J1⟩:=HI3.out;have QU:w3.cell? ⟨g,35,none⟩=some (.int .i64 HH.state):=(J1.hcell ab).trans (by rw[<-hc1];exact aW J1.ok 3);have Nf:w3.cell? ⟨g,32,none⟩=some (.int .u32 HH.pc):=(J1.hcell ab).trans (by rw[<-hc1];exact aW J1.ok 0);have fz:=J1.fz;have HP:Hid (In (w3.setCell ⟨g,32,none⟩ (.int .u32 X)) base g (HH.go X) Z.m (os++Z.out) (ss++Z.av)):=by
   have:=(J1.set ab (C9 J1.ok X) (J1.ok.go hx.out.1 hx.out.2)).rF;rw[<-hc1];exact this
  have HQ:Hid (Fr base w (w3.setCell ⟨g,32,none⟩ (.int .u32 X))):=Jk.out.trans (HI3.out.below ((Ch.refl g w3).setCell _ _));clear J1 hc1;by_cases h0:HH.state=0
  ·have e1:Hid (HH.on X=HH.go X):=by unfold Hid Hv.on;rw[at7 h0]
   rw[h0]at QU;clear h0;generalize HH.pc=pc at *
   go_wp2_with fail;go_end0;exact⟨rfl,by rw[e1.out];exact HP.out,HQ.out⟩
  ·have e1:Hid (HH.on X=HH):=by unfold Hid Hv.on;rw[at6 h0]
   have b0:(HH.state ==0)=false:=by simp[h0]
   clear h0;generalize HH.state=st at *
   generalize HH.pc=pc at *
   go_wp2_with fail;go_end0;exact⟨rfl,by rw[e1.out];exact HI3.out,Jk.out⟩
 |some x=>
  have e0:Z.h.put rd.toNat (some x)=Z.h.set rd.toNat x:=rfl;rw[e0];clear e0;have S:Hid (∀w2,In w2 base g Z.h Z.m (os++Z.out) (ss++Z.av)->Calls prog 162 #[.pointer (some ⟨g,0,none⟩),.int .i64 rd,.int .u32 x] w2 fun e w'=>e=.returned (.tuple #[])/\In w' base g (Z.h.set rd.toNat x) Z.m (os++Z.out) (ss++Z.av)/\Ch g w2 w'):=fun w2 I2=>yl I2 rd x d0 d1 hw0.1 hw0.2
  generalize Z.h.set rd.toNat x=HH at *
  simp only[aqw,Option.isSome_some]at E;go_enter func135,ntmps135;go_wp2_with fail;go_quiet (fail);go_wp2_with fail;refine(N _ (HI.of (br.drewN _))).mono ?_;rintro e w1 ⟨rfl,G0⟩;have G1:Gr w w1:=(br.drewN _).trans G0;have HB1:Hid (w1.heap[w.heap.size]?=some (.cells #[.int .i64 op,.int .i64 rd,.int .i64 r1,.int .i64 r2,.int .i32 im] 59 (0,0))):=(G0.block _ aq).trans (at5 w _);have HI1:Hid (In w1 base g h0 l os ss):=HI.of G1;have rY:Hid (Fr base w w1):=.bD G1 hbl;have HT1:Hid (Tb w1 base):=HT.of rY;have q0:w1.cell? ⟨w.heap.size,0,none⟩=some (.int .i64 op):=atZ _ _ _ _ _ _ HB1;clear G0 G1 N k1 k2 hg;go_wp2_with fail;refine(E _ HI1 HT1).mono ?_;rintro e w2 ⟨rfl,I2,F2⟩;have HB2:Hid (w2.heap[w.heap.size]?=some (.cells #[.int .i64 op,.int .i64 rd,.int .i64 r1,.int .i64 r2,.int .i32 im] 59 (0,0))):=(F2.keep _ _ _ _ HB1 an an an).trans HB1;have q1:w2.cell? ⟨w.heap.size,1,none⟩=some (.int .i64 rd):=atZ _ _ _ _ _ _ HB2;have HI2:Hid (In w2 base g Z.h Z.m (os++Z.out) (ss++Z.av)):=I2;have pX:Hid (Fr base w w2):=rY.trans F2;clear I2 F2 E HB1 HB2 HI1 rY HT1 HT HI q0;go_wp2_with fail;refine(S _ HI2).mono ?_;rintro e w3 ⟨rfl,I3,C3⟩;have HI3:Hid (In w3 base g HH Z.m (os++Z.out) (ss++Z.av)):=I3;have Jk:Hid (Fr base w w3):=pX.out.trans (HI2.out.below C3);clear I3 C3 S HI2 pX q1;obtain⟨c1,hc1,J1⟩:=HI3.out;have QU:w3.cell? ⟨g,35,none⟩=some (.int .i64 HH.state):=(J1.hcell ab).trans (by rw[<-hc1];exact aW J1.ok 3);have Nf:w3.cell? ⟨g,32,none⟩=some (.int .u32 HH.pc):=(J1.hcell ab).trans (by rw[<-hc1];exact aW J1.ok 0);have fz:=J1.fz;have HP:Hid (In (w3.setCell ⟨g,32,none⟩ (.int .u32 X)) base g (HH.go X) Z.m (os++Z.out) (ss++Z.av)):=by
   have:=(J1.set ab (C9 J1.ok X) (J1.ok.go hx.out.1 hx.out.2)).rF;rw[<-hc1];exact this
  have HQ:Hid (Fr base w (w3.setCell ⟨g,32,none⟩ (.int .u32 X))):=Jk.out.trans (HI3.out.below ((Ch.refl g w3).setCell _ _));clear J1 hc1;by_cases h0:HH.state=0
  ·have e1:Hid (HH.on X=HH.go X):=by unfold Hid Hv.on;rw[at7 h0]
   rw[h0]at QU;clear h0;generalize HH.pc=pc at *
   go_wp2_with fail;go_end0;exact⟨rfl,by rw[e1.out];exact HP.out,HQ.out⟩
  ·have e1:Hid (HH.on X=HH):=by unfold Hid Hv.on;rw[at6 h0]
   have b0:(HH.state ==0)=false:=by simp[h0]
   clear h0;generalize HH.state=st at *
   generalize HH.pc=pc at *
   go_wp2_with fail;go_end0;exact⟨rfl,by rw[e1.out];exact HI3.out,Jk.out⟩
end Hc
namespace Bk
open Mm Hh
def vK (x:Int):List Value:=[.int .i64 (Dc.aO x),.int .i64 (Dc.iF (Dc.aJ (Dc.aO x)) x),.int .i64 (Dc.bZ (Dc.aJ (Dc.aO x)) x),.int .i64 (Dc.bV (Dc.aJ (Dc.aO x)) x),.int .i32 (Dc.bS (Dc.aJ (Dc.aO x)) x)]
def vL (xs:List Int):List Value:=xs.flatMap vK
theorem Nl (xs:List Int)(x:Int):vL (xs++[x])=vL xs++vK x:=by simp[vL]
theorem FZ:∀(xs:List Int) (i j:Nat) (x:Int),xs[i]?=some x→j<5→(vL xs)[i*5+j]?=(vK x)[j]?
 | [],i,j,x,h,_=>by simp at h
 |p::r,0,j,x,h,hj=>by
  simp at h;subst h;show(vK p++vL r)[0*5+j]?=_
  rw[aqI,apu,apA (by simpa[vK]using hj)]
 |p::r,i+1,j,x,h,hj=>by
  have ih:=FZ r i j x (by simpa using h) hj;show(vK p++vL r)[(i+1)*5+j]?=_
  rw[apv (by simp[vK];omega)];rw[show(i+1)*5+j-(vK p).length=i*5+j by simp[vK];omega];exact ih
end Bk
namespace Hf
open Mm Hh
theorem Ba {W:World}{z1 z2 z3 z4:Value}(h:W.heap[g]?=some (.cells #[z0,z1,z2,z3,z4] t (0,0)))(a b c d e:Value)(o:Obj):((((((W.setCell ⟨g,0,none⟩ a).setCell ⟨g,1,none⟩ b).setCell ⟨g,2,none⟩ c).setCell ⟨g,3,none⟩ d).setCell ⟨g,4,none⟩ e).alloc o).heap[g]?=some (.cells #[a,b,c,d,e] t (0,0)):=by have h0:=aul W g 0 _ _ a h;have h1:=aul _ g 1 _ _ b h0;have h2:=aul _ g 2 _ _ c h1;have h3:=aul _ g 3 _ _ d h2;have h4:=aul _ g 4 _ _ e h3;exact(((Gr.refl _).alloc o).block _ (gs h4).1).trans h4
theorem mZ (x0 x1 x2 x3 x4:Int):(#[.int .i64 x0,.int .i64 x1,.int .i64 x2,.int .i64 x3,.int .i32 x4]:Array Value).all (·.oneCell')=true:=by refine auE (cs:=[.int .i64 x0,.int .i64 x1,.int .i64 x2,.int .i64 x3,.int .i32 x4]) ?_;intro u hu;simp only[apx,apB,auw]at hu;rcases hu with rfl|rfl|rfl|rfl|rfl<;>rfl
theorem iI:(prog.info? 59).map (·.size)=some 5:=al
theorem gm {p t:Tmp}{ty:TypeId}(h:fn.results=#[.cell p ty,.tmp t])(tmps:Array Value)(w:World)(g:Nat)(tt:TypeId)(cs:Array Value)(fr:Nat×Nat)(d:TypeDesc)
  (v:Value)(hp:tmps.getD p undef=.pointer (some ⟨g,0,none⟩))(hv:tmps.getD t undef=v)(hg:w.heap[g]?=some (.cells cs tt fr))
  (hu:P.underlying ty=some d)(hd:(match d with|.struct _|.array _ _=>true|_=>false)=true)(hi:(P.info? ty).map (·.size)=some cs.size):
  (results fn tmps).run P w=.ok (.tuple #[.agg cs,v]) w:=by
 subst hv;have hp':tmps[p]?.getD undef=.pointer (some ⟨g,0,none⟩):=by simpa using hp
 simp[results,h,hp',asAddr,au4 w g tt ty cs fr d hg hu hd hi]
theorem ng (cap:Nat)(pc:Int)(M:Mem w ao n l)(T:Dw.nK w)(hn:n<=140737488351232)(h0:0<=pc)(h1:pc<4294967296):Calls prog 29 #[.slice ao n cap,.int .u32 pc] w fun e w'=>e=.returned (.tuple #[Dw.kP (aN l 13 pc),.int .i64 (Bk.jR l pc)])/\Gr w w':=by
 have L:Hid (∀W:World,Gr w W->Calls prog 64 #[.slice ao n cap,.int .i64 13,.int .u32 pc] W fun e w'=>e=.returned (.tuple #[.int .u32 (aN l 13 pc),.bool (bM l 13 pc)])/\w'=W):=fun W G=>Mm.dY cap 13 pc (M.of G) hn h0 h1
 have wx:=W.aN l 13 pc;have HT:Hid (∀W:World,Gr w W->Dw.nK W):=fun W G=>⟨fun i v e=>(G.cell _ (by exact Dw.lt_of_cell (T.shapes i v e))).trans (T.shapes i v e),fun i v e=>(G.cell _ (by exact Dw.lt_of_cell (T.uppers i v e))).trans (T.uppers i v e)⟩
 have D:Hid (∀W:World,Gr w W->Calls prog 14 #[.int .u32 (aN l 13 pc)] W fun e w'=>e=.returned (.tuple #[Dw.kP (aN l 13 pc),.bool (Dw.fZ (aN l 13 pc))])/\Gr W w'):=fun W G=>(Dw.jh _ W (HT W G) wx.1 wx.2).mono fun e w' h=>⟨h.1,h.2.1⟩
 have E1:Hid (bM l 13 pc=false->aN l 13 pc=0):=Bk.YD;have E2:Hid (Bk.jR l pc=if bM l 13 pc=true then(if Dc.aO (aN l 13 pc)=0 then 2 else 0)else 1):=rfl;generalize aN l 13 pc=x at *
 generalize bM l 13 pc=B at *
 generalize Bk.jR l pc=c at *
 clear M T HT wx;cases B with
 |false=>
  have e1:=E1 rfl;have e2:=E2;subst e1 e2;have e3:=(Dw.j5 Bk.agq).1;rw[e3];clear E1 E2 D e3;unfold Dw.df;go_enter func29,ntmps29;go_wp2_with fail;refine(L _ br).mono ?_;rintro e w1 ⟨rfl,rfl⟩;clear L;go_wp2_with (refine auf rfl 59 _ _ rfl w.heap.size #[.int .i64 0,.int .i64 0,.int .i64 0,.int .i64 0,.int .i32 0] rfl rfl 59 _ (at5 w _) iI rfl rfl ?_);refine auc (v:=.tuple #[.agg #[.int .i64 0,.int .i64 0,.int .i64 0,.int .i64 0,.int .i32 0],.int .i64 1]) (gm results29 _ _ _ _ _ (0,0) _ _ rfl rfl (at5 w _) underlying59 rfl iI) rfl ⟨rfl,?_⟩;exact(Gr.refl _).alloc _
 |true=>
  by_cases hd:Dc.aO x=0
  ·have e2:c=2:=by rw[E2.out,at7 rfl,at7 hd]
   obtain⟨d1,d2⟩:=Dw.j5 hd;rw[d1,d2]at D;rw[d1];unfold Dw.df at D ⊢;subst e2;clear E1 E2 d1 d2 hd;go_enter func29,ntmps29;go_wp2_with fail;refine(L _ br).mono ?_;rintro e w1 ⟨rfl,rfl⟩;clear L;go_wp2_with fail;refine(D _ br).mono ?_;rintro e w1 ⟨rfl,G1⟩;have HB:=kH ((G1.block _ aq).trans (at5 w _));have aU:=kH (br.trans G1);have hlt:=(apk.1 HB).1;have r0:w1.cell? ⟨w.heap.size,0,none⟩=some (.int .i64 0):=atZ _ _ _ _ _ _ HB;have r1:w1.cell? ⟨w.heap.size,1,none⟩=some (.int .i64 0):=atZ _ _ _ _ _ _ HB;have r2:w1.cell? ⟨w.heap.size,2,none⟩=some (.int .i64 0):=atZ _ _ _ _ _ _ HB;have r3:w1.cell? ⟨w.heap.size,3,none⟩=some (.int .i64 0):=atZ _ _ _ _ _ _ HB;have r4:w1.cell? ⟨w.heap.size,4,none⟩=some (.int .i32 0):=atZ _ _ _ _ _ _ HB;have f3:∀j,w1.frozen? ⟨w.heap.size,j,none⟩=false:=fun j=>aus _ _ _ _ _ HB
   clear G1 D;go_wp2_with fail;refine auc (v:=.tuple #[.agg #[.int .i64 0,.int .i64 0,.int .i64 0,.int .i64 0,.int .i32 0],.int .i64 2]) (gm results29 _ _ _ _ _ (0,0) _ _ rfl rfl (Ba HB _ _ _ _ _ _) underlying59 rfl iI) rfl ⟨rfl,?_⟩;exact(((((aU.setCell aq _).setCell aq _).setCell aq _).setCell aq _).setCell aq _).alloc _
  ·have e2:c=0:=by rw[E2.out,at7 rfl,at6 hd]
   have d2:Dw.fZ x=true:=by unfold Dw.fZ;simp[hd]
   rw[d2]at D;unfold Dw.kP Dw.df at D ⊢;subst e2;clear E1 E2 d2 hd;generalize Dc.iF (Dc.aJ (Dc.aO x)) x=x1 at *
   generalize Dc.bZ (Dc.aJ (Dc.aO x)) x=x2 at *
   generalize Dc.bV (Dc.aJ (Dc.aO x)) x=x3 at *
   generalize Dc.bS (Dc.aJ (Dc.aO x)) x=x4 at *
   generalize Dc.aO x=x0 at *
   go_enter func29,ntmps29;go_wp2_with fail;refine(L _ br).mono ?_;rintro e w1 ⟨rfl,rfl⟩;clear L;go_wp2_with fail;refine(D _ br).mono ?_;rintro e w1 ⟨rfl,G1⟩;have HB:=kH ((G1.block _ aq).trans (at5 w _));have aU:=kH (br.trans G1);have hlt:=(apk.1 HB).1;have r0:w1.cell? ⟨w.heap.size,0,none⟩=some (.int .i64 0):=atZ _ _ _ _ _ _ HB;have r1:w1.cell? ⟨w.heap.size,1,none⟩=some (.int .i64 0):=atZ _ _ _ _ _ _ HB;have r2:w1.cell? ⟨w.heap.size,2,none⟩=some (.int .i64 0):=atZ _ _ _ _ _ _ HB;have r3:w1.cell? ⟨w.heap.size,3,none⟩=some (.int .i64 0):=atZ _ _ _ _ _ _ HB;have r4:w1.cell? ⟨w.heap.size,4,none⟩=some (.int .i32 0):=atZ _ _ _ _ _ _ HB;have f3:∀j,w1.frozen? ⟨w.heap.size,j,none⟩=false:=fun j=>aus _ _ _ _ _ HB
   clear G1 D;go_wp2_with fail;refine auc (v:=.tuple #[.agg #[.int .i64 x0,.int .i64 x1,.int .i64 x2,.int .i64 x3,.int .i32 x4],.int .i64 0]) (gm results29 _ _ _ _ _ (0,0) _ _ rfl rfl (Ba HB _ _ _ _ _ _) underlying59 rfl iI) rfl ⟨rfl,?_⟩;exact(((((aU.setCell aq _).setCell aq _).setCell aq _).setCell aq _).setCell aq _).alloc _
end Hf
namespace Hc
variable[Inhabited Hc.bN]
open Mm Hh
variable{h:Hv}
structure TT (w:World) (base:Nat):Prop where
 tab:Dw.nK w
 tb:Tb w base
 b1:0<base
 b2:3<base
theorem TT.of (T:TT w base)(h:Fr base w w'):TT w' base:=⟨⟨fun i n e=>(auJ h.below (by exact T.b1)).trans (T.tab.shapes i n e),fun i n e=>(auJ h.below (by exact T.b2)).trans (T.tab.uppers i n e)⟩,T.tb.of h,T.b1,T.b2⟩
theorem wN (f x:Int):0<=Dc.iF f x/\Dc.iF f x<32:=by unfold Dc.iF;split<;>omega
theorem yF {v:Int}(f:Int)(h0:0<=v)(h1:v<4294967296) : -2147483648<=Dc.bS f v/\Dc.bS f v<2147483648:=by
 unfold Dc.bS Wd.sg Dc.iT;repeat' split
 all_goals omega
theorem bu {md:Region.Mode}{Q:Exit→Act→World→Prop}{i:Nat}(hr:Region.ready md ops listed=[i])(hoi:ops[i]?=some o)(hg:o.guard=none)(ty:TypeId)(x y:Operand)(ho:o.op=.store ty x y)(g:Nat)(cells:Array Value)(hx:a.eval x=.pointer (some ⟨g,0,none⟩))(hy:a.eval y=.agg cells)(t:TypeId)(old:Array Value)(hb:w.heap[g]?=some (.cells old t (0,0)))(hi:(P.info? ty).map (·.size)=some cells.size)(hold:old.size=cells.size)(h1:cells.all (·.oneCell')=true)(hS:S (w.setRow g cells))(h:wpAnyH P md ops Q S fuel (listed.setIfInBounds i true) (a.put o.dst undef) (w.setRow g cells)):wpAnyH P md ops Q S (fuel+1) listed a w:=aue hr aq (aua hoi (fun K hK=>gP hg ty x y ho g cells hx hy t old hb hi hold h1 (hK.out _ _ hS fun _=>h)) aud)
theorem aT (F:World->Prop)(hF:F x)(h:∀y,F y->p y):p x:=h x hF
theorem cu (g:Gr w w'){x:Obj}(h:w.heap[k]?=some x):w'.heap[k]?=some x:=by rw[au1 g k (gs h).1];exact h
theorem Y8 (hc:¬Bk.jR l h.pc=0):dV h l=⟨h.trap (Bk.jR l h.pc),l,[],[]⟩:=by
 unfold dV Bk.jR at *
 by_cases ok:bM l 13 h.pc=true
 ·rw[at7 ok]at hc ⊢;rw[at7 ok];by_cases hd:Dc.aO (aN l 13 h.pc)=0
  ·rw[at7 hd];unfold oW;rw[at7 hd]
  ·rw[at6 hd]at hc;exact absurd rfl hc
 ·rw[at6 ok,at6 ok]
theorem TC (hc:Bk.jR l h.pc=0):dV h l=ins h l (Dc.aO (aN l 13 h.pc)) (Dc.iF (Dc.aJ (Dc.aO (aN l 13 h.pc))) (aN l 13 h.pc)) (Dc.bZ (Dc.aJ (Dc.aO (aN l 13 h.pc))) (aN l 13 h.pc)) (Dc.bV (Dc.aJ (Dc.aO (aN l 13 h.pc))) (aN l 13 h.pc)) (Dc.bS (Dc.aJ (Dc.aO (aN l 13 h.pc))) (aN l 13 h.pc)):=by
 unfold dV;unfold Bk.jR at hc;by_cases ok:bM l 13 h.pc=true
 ·rw[at7 ok]at hc ⊢;by_cases hd:Dc.aO (aN l 13 h.pc)=0
  ·rw[at7 hd]at hc;omega
  ·unfold oW;rw[at6 hd]
 ·rw[at6 ok]at hc;omega
theorem Bg (I:In w base g h l os ss)(T:TT w base)(hl:l.length≤140737488351232)(DO:Bk.jR l h.pc=0->∀W,In W base g h l os ss->Tb W base->Calls prog 135 #[.pointer (some ⟨g,0,none⟩),Dw.kP (aN l 13 h.pc)] W fun e w'=>e=.returned (.tuple #[])/\In w' base g (dV h l).h (dV h l).m (os++(dV h l).out) (ss++(dV h l).av)/\Fr base W w'):Calls prog 107 #[.pointer (some ⟨g,0,none⟩)] w fun e w'=>e=.returned (.tuple #[])/\In w' base g (dV h l).h (dV h l).m (os++(dV h l).out) (ss++(dV h l).av)/\Fr base w w':=by
 have Tr:Hid (∀W,In W base g h l os ss->∀c,Calls prog 134 #[.pointer (some ⟨g,0,none⟩),.int .i64 c] W fun e w'=>e=.returned (.tuple #[])/\In w' base g (h.trap c) l os ss/\Ch g W w'):=fun W I c=>dK I c
 have HD:Hid _:=DO;clear DO;have HI:=kH I;have HT:=kH T;obtain⟨c0,rfl,J⟩:=I;obtain⟨ao,cap,hm,M⟩:=J.mem.mem;have k37:w.cell? ⟨g,37,none⟩=some (.slice ao l.length cap):=(J.dJ 0).trans (by rw[hm];rfl);have Nf:=(J.hcell ab).trans (aW J.ok 0);have hbl:=J.ay;have hgl:=J.lt;have F:Hid (∀W:World,Gr w W->_):=fun W G=>Hf.ng cap c0.h.pc (M.of G) (T.of (Fr.bD G hbl)).tab hl J.ok.nH J.ok.jV
 have kv:Hid (∀W:World,Gr w W->W.cell? ⟨g,37,none⟩=some (.slice ao l.length cap)/\W.cell? ⟨g,32,none⟩=some (.int .u32 c0.h.pc)):=fun W G=>⟨(G.cell _ (by exact hgl)).trans k37,(G.cell _ (by exact hgl)).trans Nf⟩
 have HN:Hid (¬Bk.jR l c0.h.pc=0->dV c0.h l=⟨c0.h.trap (Bk.jR l c0.h.pc),l,[],[]⟩):=Y8;unfold Dw.kP Dw.df at F HD;generalize aN l 13 c0.h.pc=x at *
 generalize dV c0.h l=Z at *
 clear J M hm T;generalize Dc.iF (Dc.aJ (Dc.aO x)) x=x1 at *
 generalize Dc.bZ (Dc.aJ (Dc.aO x)) x=x2 at *
 generalize Dc.bV (Dc.aJ (Dc.aO x)) x=x3 at *
 generalize Dc.bS (Dc.aJ (Dc.aO x)) x=x4 at *
 generalize Dc.aO x=x0 at *
 generalize Bk.jR l c0.h.pc=c at *
 generalize c0.h.pc=pc at *
 generalize c0.h=h at *
 go_enter func107,ntmps107;go_wp2_with fail;refine aut (S:=fun W=>W.cell? ⟨g,37,none⟩=some (.slice ao l.length cap)/\W.cell? ⟨g,32,none⟩=some (.int .u32 pc)) al ?_ (fun hHeld=>?_)
 ·exact kv _ (Gr.refl _).drew
 have aY:=kH hHeld;clear hHeld;refine tK 0 (.pointer (some ⟨g,0,none⟩)) aY ?_;refine tK 1 (.pointer (some ⟨g,0,none⟩)) aY ?_;refine tK 2 (.pointer (some ⟨g,37,none⟩)) aY ?_;refine tK 3 (.slice ao l.length cap) aY ?_;refine tK 4 (.pointer (some ⟨g,0,none⟩)) aY ?_;refine tK 5 (.pointer (some ⟨g,0,none⟩)) aY ?_;refine tK 6 (.pointer (some ⟨g,0,none⟩)) aY ?_;refine tK 7 (.pointer (some ⟨g,32,none⟩)) aY ?_;refine tK 8 (.int .u32 pc) aY ?_;refine aue (rs:=[9,13]) al aq ?_;refine aua rfl (fun K hK=>?cf) (aua rfl (fun K hK=>?af) aud)
 case cf=>
  go_simp;refine(F _ (Gr.refl _).drew).mono ?_;rintro e wd ⟨rfl,Gd⟩;have gp:Hid (Gr w wd):=(Gr.refl _).drew.trans Gd;clear Gd;have fO:Hid _:=kv _ gp;refine hK.out _ _ fO (fun hx=>?_);clear hK K hx;refine tK 10 (.tuple #[.agg #[.int .i64 x0,.int .i64 x1,.int .i64 x2,.int .i64 x3,.int .i32 x4],.int .i64 c]) fO ?_;refine tK 11 (.agg #[.int .i64 x0,.int .i64 x1,.int .i64 x2,.int .i64 x3,.int .i32 x4]) fO ?_;refine tK 12 (.int .i64 c) fO ?_;refine aue (rs:=[13]) al aq ?_;refine aua rfl (fun K hK=>?_) aud;go_simp;refine hK.out _ _ (kv _ (gp.alloc _)) (fun hx=>?_);clear hK K hx;refine bu (i:=14) al rfl rfl 59 (.tmp 2) (.tmp 15) rfl wd.heap.size #[.int .i64 x0,.int .i64 x1,.int .i64 x2,.int .i64 x3,.int .i32 x4] aw aw 59 _ (at5 wd _) Hf.iI rfl (Hf.mZ _ _ _ _ _) ?_ ?_
  ·exact kv _ (ag (gp.alloc _) gp.size _)
  refine tK 15 (.int .i64 c) (kv _ (ag (gp.alloc _) gp.size _)) ?_;refine auy al ?_ _;refine aT (fun W=>W.heap[wd.heap.size]?=some (.cells #[.int .i64 x0,.int .i64 x1,.int .i64 x2,.int .i64 x3,.int .i32 x4] 59 (0,0))/\Gr w W) ?_ ?_
  ·exact⟨aup _ _ _ _ _ (0,0) (at5 wd _),ag (gp.alloc _) gp.size _⟩
  clear gp fO;generalize wd.heap.size=gi at *
  clear wd;clear kv aY F;rintro wD ⟨BD,GD⟩;have q0:wD.cell? ⟨gi,0,none⟩=some (.int .i64 x0):=atZ _ _ _ _ _ _ BD;have q1:wD.cell? ⟨gi,1,none⟩=some (.int .i64 x1):=atZ _ _ _ _ _ _ BD;have q2:wD.cell? ⟨gi,2,none⟩=some (.int .i64 x2):=atZ _ _ _ _ _ _ BD;have q3:wD.cell? ⟨gi,3,none⟩=some (.int .i64 x3):=atZ _ _ _ _ _ _ BD;have q4:wD.cell? ⟨gi,4,none⟩=some (.int .i32 x4):=atZ _ _ _ _ _ _ BD;have Nr:Hid (In wD base g h l os ss):=HI.of GD;have Nt:Hid (Fr base w wD):=Fr.bD GD hbl;have Y9:Hid (TT wD base):=HT.of Nt;clear BD GD HI HT k37 Nf;by_cases hc:c=0
  ·have Do:Hid (∀W,In W base g h l os ss->Tb W base->Calls prog 135 #[.pointer (some ⟨g,0,none⟩),.agg #[.int .i64 x0,.int .i64 x1,.int .i64 x2,.int .i64 x3,.int .i32 x4]] W fun e w'=>e=.returned (.tuple #[])/\In w' base g Z.h Z.m (os++Z.out) (ss++Z.av)/\Fr base W w'):=HD hc;subst hc;clear HD HN Tr;go_wp2_with fail;refine(Do _ Nr Y9.tb).mono ?_;rintro e w2 ⟨rfl,I2,C2⟩;have HI2:Hid (In w2 base g Z.h Z.m (os++Z.out) (ss++Z.av)):=I2;have pX:Hid (Fr base w w2):=Nt.trans C2;clear I2 C2 Do Nr Nt Y9;go_wp2_with fail;go_end0;exact⟨rfl,HI2,pX⟩
  ·have hb:(c ==0)=false:=by simpa using hc
   have HZ:Hid (Z=⟨h.trap c,l,[],[]⟩):=HN hc;clear HD HN hc;go_wp2_with fail;refine(Tr _ Nr c).mono ?_;rintro e w2 ⟨rfl,I2,C2⟩;have HI2:Hid (In w2 base g Z.h Z.m (os++Z.out) (ss++Z.av)):=by unfold Hid;rw[HZ.out,apz,apz];exact I2
   have pX:Hid (Fr base w w2):=Nt.trans (Nr.below C2);clear I2 C2 Tr Nr Nt Y9 HZ;go_wp2_with fail;refine auc (auV results107 _ _ _) rfl ?_;exact⟨rfl,HI2,pX⟩
 case af=>
  go_simp;refine hK.out _ _ (kv _ br.drew) (fun hx=>?_);clear hK K hx;refine aue (rs:=[9]) al aq ?_;refine aua rfl (fun K hK=>?_) aud;go_simp;refine(F _ br.drew).mono ?_;rintro e wd ⟨rfl,Gd⟩;have sM:Hid (wd.heap[w.heap.size]?=some (.cells _ 59 (0,0))):=cu Gd (cu (Gr.refl _).drew (at5 w _));have gp:Hid (Gr w wd):=Gr.trans (Gr.drew ((Gr.refl w).alloc _)) Gd;clear Gd;have fO:Hid _:=kv _ gp;refine hK.out _ _ fO (fun hx=>?_);clear hK K hx;refine tK 10 (.tuple #[.agg #[.int .i64 x0,.int .i64 x1,.int .i64 x2,.int .i64 x3,.int .i32 x4],.int .i64 c]) fO ?_;refine tK 11 (.agg #[.int .i64 x0,.int .i64 x1,.int .i64 x2,.int .i64 x3,.int .i32 x4]) fO ?_;refine tK 12 (.int .i64 c) fO ?_;refine bu (i:=14) al rfl rfl 59 (.tmp 2) (.tmp 15) rfl w.heap.size #[.int .i64 x0,.int .i64 x1,.int .i64 x2,.int .i64 x3,.int .i32 x4] aw aw 59 _ sM Hf.iI rfl (Hf.mZ _ _ _ _ _) ?_ ?_
  ·exact kv _ (ag gp (apn _) _)
  refine tK 15 (.int .i64 c) (kv _ (ag gp (apn _) _)) ?_;refine auy al ?_ _;refine aT (fun W=>W.heap[w.heap.size]?=some (.cells #[.int .i64 x0,.int .i64 x1,.int .i64 x2,.int .i64 x3,.int .i32 x4] 59 (0,0))/\Gr w W) ?_ ?_
  ·exact⟨aup _ _ _ _ _ (0,0) sM,ag gp (apn _) _⟩
  clear gp sM fO;obtain⟨gi,hgi⟩:∃g:Nat,g=w.heap.size:=⟨_,rfl⟩;rw[<-hgi];clear hgi wd;clear kv aY F;rintro wD ⟨BD,GD⟩;have q0:wD.cell? ⟨gi,0,none⟩=some (.int .i64 x0):=atZ _ _ _ _ _ _ BD;have q1:wD.cell? ⟨gi,1,none⟩=some (.int .i64 x1):=atZ _ _ _ _ _ _ BD;have q2:wD.cell? ⟨gi,2,none⟩=some (.int .i64 x2):=atZ _ _ _ _ _ _ BD;have q3:wD.cell? ⟨gi,3,none⟩=some (.int .i64 x3):=atZ _ _ _ _ _ _ BD;have q4:wD.cell? ⟨gi,4,none⟩=some (.int .i32 x4):=atZ _ _ _ _ _ _ BD;have Nr:Hid (In wD base g h l os ss):=HI.of GD;have Nt:Hid (Fr base w wD):=Fr.bD GD hbl;have Y9:Hid (TT wD base):=HT.of Nt;clear BD GD HI HT k37 Nf;by_cases hc:c=0
  ·have Do:Hid (∀W,In W base g h l os ss->Tb W base->Calls prog 135 #[.pointer (some ⟨g,0,none⟩),.agg #[.int .i64 x0,.int .i64 x1,.int .i64 x2,.int .i64 x3,.int .i32 x4]] W fun e w'=>e=.returned (.tuple #[])/\In w' base g Z.h Z.m (os++Z.out) (ss++Z.av)/\Fr base W w'):=HD hc;subst hc;clear HD HN Tr;go_wp2_with fail;refine(Do _ Nr Y9.tb).mono ?_;rintro e w2 ⟨rfl,I2,C2⟩;have HI2:Hid (In w2 base g Z.h Z.m (os++Z.out) (ss++Z.av)):=I2;have pX:Hid (Fr base w w2):=Nt.trans C2;clear I2 C2 Do Nr Nt Y9;go_wp2_with fail;go_end0;exact⟨rfl,HI2,pX⟩
  ·have hb:(c ==0)=false:=by simpa using hc
   have HZ:Hid (Z=⟨h.trap c,l,[],[]⟩):=HN hc;clear HD HN hc;go_wp2_with fail;refine(Tr _ Nr c).mono ?_;rintro e w2 ⟨rfl,I2,C2⟩;have HI2:Hid (In w2 base g Z.h Z.m (os++Z.out) (ss++Z.av)):=by unfold Hid;rw[HZ.out,apz,apz];exact I2
   have pX:Hid (Fr base w w2):=Nt.trans (Nr.below C2);clear I2 C2 Tr Nr Nt Y9 HZ;go_wp2_with fail;refine auc (auV results107 _ _ _) rfl ?_;exact⟨rfl,HI2,pX⟩
theorem Nv (I:In w base g h l os ss)(T:TT w base)(hl:l.length<=140737488351232)(hss:ss.length<=1000000)(hos:os.length<=1000000):Calls prog 107 #[.pointer (some ⟨g,0,none⟩)] w fun e w'=>e=.returned (.tuple #[])/\In w' base g (dV h l).h (dV h l).m (os++(dV h l).out) (ss++(dV h l).av)/\Fr base w w':=
 Bg I T hl fun hc V I1 T1=>by
  have HW:=W.aN l 13 h.pc;rw[TC hc];have ib:=yF (Dc.aJ (Dc.aO (aN l 13 h.pc))) HW.1 HW.2;exact DU I1 T1 hl hss hos _ _ _ _ _ (wN _ _).1 (wN _ _).2 (Ts.ME _ _).1 (Ts.ME _ _).2 (Ts.MF _ _).1 (Ts.MF _ _).2 ib.1 ab
theorem Jl (I:In w base g h l os ss)(T:TT w base)(hl:l.length<=140737488351232)(hf:¬Bk.jR l h.pc=0):Calls prog 107 #[.pointer (some ⟨g,0,none⟩)] w fun e w'=>e=.returned (.tuple #[])/\In w' base g (dV h l).h (dV h l).m (os++(dV h l).out) (ss++(dV h l).av)/\Fr base w w':=Bg I T hl fun hc=>absurd hc hf
end Hc
namespace Mm
end Mm
namespace Hc
variable[Inhabited Hc.bN]
open Mm Hh
end Hc
namespace Hc
variable[Inhabited Hc.bN]
open Mm Hh
def DW:List Int:=[0,0,0,0,0,0,0,0,0,0,0,0,0,0,0,0,1,2,4]
def kR:List Int:=[0,0,0,0,0,0,0,0,0,0,0,0,0,0,0,0,0,0,0,28,31,32,33,36,37,30,34,35]
theorem Za : prog.globalNamed "ferrybridge/hart.sizes" = some 13 := by kernel_rfl
theorem DX : prog.globalNamed "ferrybridge/hart.operations" = some 10 := by kernel_rfl
theorem Zb:(prog.globals[13]?).map (·.type)=some 286:=al
theorem DY:(prog.globals[10]?).map (·.type)=some 258:=al
theorem Jm:(List.range 19).map (Dw.look prog 3 286 (Rows.laid_ferrybridge_hart_sizes (H:=Unit)))=DW.map fun n=>some (.int .u32 n):=al
theorem Jn:(List.range 28).map (Dw.look prog 3 258 (Rows.laid_ferrybridge_hart_operations (H:=Unit)))=kR.map fun n=>some (.int .i64 n):=al
theorem TT.grow (T:TT w w.heap.size)(G:Gr w w'):TT w' w'.heap.size:=by have h:=T.of (Fr.bD G (apn _));have s:=G.size;exact⟨h.tab,⟨h.tb.sizes,h.tb.opers,apq h.tb.b1 s,apq h.tb.b2 s⟩,apq h.b1 s,apq h.b2 s⟩
end Hc
namespace Mc
variable[Inhabited Hc.bN]
open Mm Hh Hc
variable{h:Hv}
structure Qv where
 h:Hv
 m:Value
 out:Value
 n:Int
 av:Value
variable{d:Qv}
def qA (d:Qv):Array Value:=(hL d.h++[d.m,d.out,.int .i64 d.n,d.av]).toArray
theorem fG {d:Qv}(o:d.h.Ok):(qA d).size=41:=by simp[qA,aD o]
theorem Nw {d:Qv}(o:d.h.Ok)(hi:i<37):(qA d)[i]?=(hL d.h)[i]?:=by have:=aD o;unfold qA;rw[apm,apA ab]
theorem jl {d:Qv}(o:d.h.Ok)(j:Nat):(qA d)[37+j]?=[d.m,d.out,.int .i64 d.n,d.av][j]?:=by unfold qA;rw[apm,apv (by simp[aD o])];simp[aD o]
theorem lW (h1:d.m.oneCell'=true)(h2:d.out.oneCell'=true)(h3:d.av.oneCell'=true):(qA d).all (·.oneCell')=true:=by refine auE ?_;intro v hv;simp only[hL,apR,apK,apx,apB,auw]at hv;rcases hv with(⟨n,_,rfl⟩|rfl|rfl|rfl|rfl|rfl)|rfl|rfl|rfl|rfl<;>first|rfl|assumption
theorem iQ:(prog.info? 142).map (·.size)=some 41:=al
theorem zQ:(prog.info? 142).bind (·.zero)=some (.agg (qA ⟨h0,ax,ax,0,ax⟩)):=al
theorem lX (off:Nat)(v:Value)(cs:Array Value):((#[v]:Array Value).zipIdx.foldl (fun cs (x:Value×Nat)=>cs.setIfInBounds (off+x.2) x.1) cs)=cs.setIfInBounds off v:=rfl
theorem Jo (o:h.Ok)(d:Qv)(od:d.h.Ok):((hA h).zipIdx.foldl (fun cs (x:Value×Nat)=>cs.setIfInBounds (0+x.2) x.1) (qA d))=qA { d with h:=h }:=by
 have a1:=iA 0 (hA h) (qA d);have s1:=jC o;have s2:=fG od;apply aqC;intro k;rw[a1.2 k];by_cases hk:k<37
 ·rw[dU,Nw (d:={ d with h:=h }) o hk];simp[hA]
 ·rw[ak];obtain⟨j,rfl⟩:∃j,k=37+j:=⟨k-37,ab⟩;rw[jl od,jl (d:={ d with h:=h }) o]
theorem DZ {t:TypeId}{it:TypeInfo}{fs:Array Field}(hi:P.info? t=some it)(hu:P.underlying t=some (.struct fs))(hz:it.zero=some z)(hp:fs.toList.mapM (fun f=>(P.info? f.type).map fun i=>(f.offset,i.size))=some ps){n:Nat}(p0:ps.toArray[0]?=some (0,n))(p1:ps.toArray[1]?=some (n,1))(p2:ps.toArray[2]?=some (n+1,1))(p3:ps.toArray[3]?=some (n+2,1))(p4:ps.toArray[4]?=some (n+3,1))(A:Array Value)(hA:A.size=n)(v1 v2 v3 v4:Value)(h1:v1.cells=#[v1])(h2:v2.cells=#[v2])(h3:v3.cells=#[v3])(h4:v4.cells=#[v4])(hs:z.cells.size=n+4):P.built t [(0,.agg A),(1,v1),(2,v2),(3,v3),(4,v4)]=some ((((((A.zipIdx.foldl (fun cs (x:Value×Nat)=>cs.setIfInBounds (0+x.2) x.1) z.cells).setIfInBounds n v1).setIfInBounds (n+1) v2).setIfInBounds (n+2) v3).setIfInBounds (n+3) v4)):=by unfold Program.built;simp only[hi,hu,hz,hp];have a1:=(iA 0 A z.cells).1;unfold Instr.fill;simp only[p0];have e:(Value.agg A).cells=A:=rfl;rw[e,at6 (by simp[hA];omega)];unfold Instr.fill;simp only[p1];rw[h1,at6 (by rw[a1];simp;omega),lX];unfold Instr.fill;simp only[p2];rw[h2,at6 (by rw[ap4,a1];simp;omega),lX];unfold Instr.fill;simp only[p3];rw[h3,at6 (by rw[ap4,ap4,a1];simp;omega),lX];unfold Instr.fill;simp only[p4];rw[h4,at6 (by rw[ap4,ap4,ap4,a1];simp;omega),lX];unfold Instr.fill;rfl
theorem oI (o:h.Ok)(m out:Value)(n:Int)(av:Value)(h1:m.cells=#[m])(h2:out.cells=#[out])(h3:av.cells=#[av]):prog.built 142 [(0,.agg (hA h)),(1,m),(2,out),(3,.int .i64 n),(4,av)]=some (qA ⟨h,m,out,n,av⟩):=by obtain⟨it,hi,hz⟩:=ko zQ;have z0:=iO;rw[DZ (n:=37) hi underlying142 hz (ps:=[(0,37),(37,1),(38,1),(39,1),(40,1)]) al rfl rfl rfl rfl rfl (hA h) (jC o) m out (.int .i64 n) av h1 h2 rfl h3 (by show(qA _).size=41;exact fG z0)];have c0:(Value.agg (qA ⟨h0,ax,ax,0,ax⟩)).cells=qA ⟨h0,ax,ax,0,ax⟩:=rfl;rw[c0,Jo o _ z0];have l:=aD o;unfold qA;simp only[apl,apJ _ _ (show(hL h).length<=37 by omega),apJ _ _ (show(hL h).length<=38 by omega),apJ _ _ (show(hL h).length<=39 by omega),apJ _ _ (show(hL h).length<=40 by omega),l];rfl
end Mc
namespace Mc
variable[Inhabited Hc.bN]
open Mm Hh Hc
variable{s:Sh}
theorem uA (hw:Region.wanted o (yielded ops a.tmps)=true)(t:TypeId)(parts:Array (Nat×Operand))(ho:o.op=.build t parts)(cells:Array Value)(hf:P.built t (parts.map fun(i,x)=>(i,a.eval x)).toList=some cells):YieldsIf P ops S o (.agg cells) a:=
 .inl ⟨hw,fun w _=>by
  unfold execOp;simp only[ho,au3,run_build w t _ _ hf,auM];rfl⟩
structure Dq (w:World) (base:Nat) (d:Qv) (x:Wk):Prop where
 hh:d.h=x.h
 n:d.n=x.n
 mem:Own w Hc.mb d.m x.m
 out:w.ownsRow base 37 1 d.out x.out.length (x.out.map (Value.int .u32))
 av:w.ownsRow base 175 2 d.av x.av.length (rE x.av)
theorem az (h:w.ownsRow base e sz v n xs):v.cells=#[v]/\v.oneCell'=true/\∃a c,v=.slice a n c:=by
 rcases h.2 with⟨rfl,rfl⟩|⟨g,cap,_,rfl,_⟩
 ·exact⟨rfl,rfl,none,0,rfl⟩
 ·exact⟨rfl,rfl,_,cap,rfl⟩
theorem ni (w:World)(a b c:Obj):(((w.alloc a).alloc b).alloc c).drew.heap[w.heap.size+2]?=some c:=by
 have:=at5 ((w.alloc a).alloc b) c;have e:((w.alloc a).alloc b).heap.size=w.heap.size+2:=aq;rw[e]at this;exact this
theorem jm (w:World)(a b c:Obj):Gr w (((w.alloc a).alloc b).alloc c).drew:=Gr.drew (Gr.alloc (Gr.alloc (Gr.alloc (Gr.refl _) _) _) _)
theorem jd (w:World)(A:Array Value)(t:Nat)(b c:Obj):(((w.alloc (.cells A t)).alloc b).alloc c).drew.heap[w.heap.size]?=some (.cells A t (0,0)):=Hr.ae (Gr.drew (Gr.alloc (Gr.refl _) _)) (auR w _ _)
theorem wU (w:World)(a:Obj)(A:Array Value)(t:Nat)(c:Obj):(((w.alloc a).alloc (.cells A t)).alloc c).drew.heap[w.heap.size+1]?=some (.cells A t (0,0)):=Hr.ae (Gr.drew (Gr.alloc (Gr.refl _) _)) (au8 w _ _)
theorem Bh (B:Bw ty rs w base g M gh hc O s)(F:Fit s c mn)(lU:mn≤4096)(T:TT w w.heap.size){n:Nat}(hk:k<c)(hc4:c≤4)(hn:n≤400)(ST:∀(x:Wk) (W:World),AU x mn->x.n<n->(x.n=0->x=w0 s k)->In W w.heap.size (w.heap.size+2) x.h x.m x.out x.av->TT W w.heap.size->Calls prog 107 #[.pointer (some ⟨w.heap.size+2,0,none⟩)] W fun e w'=>e=.returned (.tuple #[])/\In w' w.heap.size (w.heap.size+2) (dV x.h x.m).h (dV x.h x.m).m (x.out++(dV x.h x.m).out) (x.av++(dV x.h x.m).av)/\Fr w.heap.size W w'):Calls prog 83 #[.pointer (some ⟨g,0,none⟩),.agg #[.int .i64 k,.int .i64 n]] w fun e w'=>∃d,e=.returned (.agg (qA d))/\d.h.Ok/\Dq w' w.heap.size d (wk (w0 s k) n)/\Gr w w':=by
 have hl:k<s.hs.length:=by rw[F.len];exact hk
 have eh:s.hs[k]?=some (at' s k):=by unfold at';rw[api hl];simp[List.getD,hl]
 have W0:=pQ F hk;have jM:(at' s k).Ok:=W0.ok;have RG:=kH (B.row.range eh);obtain⟨ma,mc,rfl,_⟩:=B.mem.mem;have lY:=F.mem;have HOM:Hid (Own w Hc.mb (.slice ma mn mc) s.m):=by unfold Hid;rw[<-lY];exact B.mem
 have WY:=kH (apr B.hz.2 (apr B.bg (aqP B.lt)));have HB0:Hid (w.cell? ⟨g,0,none⟩=some (.slice ma mn mc)):=by have:=B.c0;rw[lY]at this;exact this
 have HB1:Hid (w.cell? ⟨g,1,none⟩=some (.slice (some ⟨gh,0,none⟩) c hc)):=by have:=B.c1;rw[F.len]at this;exact this
 have HT:=kH T;have QY:=kH ST;have hgl:=B.lt;have Jp:gh<w.heap.size:=by obtain⟨_,e⟩:=B.row.row;exact(apk.1 e).1
 have HX:Hid (w0 s k=⟨at' s k,s.m,[],[],0⟩):=rfl;have HW0:=kH W0;have rH:Hid ((hL (at' s k)).length=37):=aD jM;have zR:Hid (at' s k).Ok:=jM;generalize at' s k=h at *
 generalize w0 s k=x0 at *
 generalize s.m=l at *
 have Na:Hid (prog.built 197 [(0,.agg (hL h).toArray),(1,.slice ma mn mc)]=some (cA ⟨h,.slice ma mn mc,ax,ax⟩)):=uq zR _ rfl;have HZc:Hid ((cA ⟨h,.slice ma mn mc,ax,ax⟩).size=40):=jD zR;have HOc:Hid ((cA ⟨h,.slice ma mn mc,ax,ax⟩).all (·.oneCell')=true):=yC _ rfl rfl rfl;have HSG:Hid (∀W:World,Gr w W->W.heap[w.heap.size]?=some (.cells #[.int .i64 k,.int .i64 n] 45 (0,0))->W.cell? ⟨g,1,none⟩=some (.slice (some ⟨gh,0,none⟩) c hc)/\W.cell? ⟨w.heap.size,0,none⟩=some (.int .i64 k)/\W.rangeAt gh (k*37) (hL h)/\W.cell? ⟨g,0,none⟩=some (.slice ma mn mc)):=fun W G e=>
  ⟨(G.cell _ (by exact hgl)).trans HB1,atZ _ _ _ _ _ _ e,fun j v hv=>(G.cell _ (by exact Jp)).trans (RG j v hv),(G.cell _ (by exact hgl)).trans HB0⟩
 go_enter func83,ntmps83;go_wp2_with fail;refine aut (S:=fun W=>W.cell? ⟨g,1,none⟩=some (.slice (some ⟨gh,0,none⟩) c hc)/\W.cell? ⟨w.heap.size,0,none⟩=some (.int .i64 k)/\W.rangeAt gh (k*37) (hL h)/\W.cell? ⟨g,0,none⟩=some (.slice ma mn mc)) al ?_ (fun hHeld=>?_)
 ·exact HSG _ (br.alloc _).drew (Hr.ae (Gr.refl _).drew (auR w _ _))
 have aY:=kH hHeld;refine tK 0 (.pointer (some ⟨g,0,none⟩)) aY ?_;refine tK 1 (.pointer (some ⟨g,0,none⟩)) aY ?_;refine tK 2 (.pointer (some ⟨g,0,none⟩)) aY ?_;refine tK 3 (.pointer (some ⟨g,0,none⟩)) aY ?_;refine tK 4 (.pointer (some ⟨g,1,none⟩)) aY ?_;refine tK 5 (.slice (some ⟨gh,0,none⟩) c hc) aY ?_;refine tK 6 (.pointer (some ⟨w.heap.size,0,none⟩)) aY ?_;refine tK 7 (.int .i64 k) aY ?_;refine tK 8 (.pointer (some ⟨gh,k*37,none⟩)) aY ?_;refine auF (i:=9) (v:=.agg (hL h).toArray) rfl al al al (fun _ _ _ h=>h) ?hy aY ?_
 case hy=>exact auN (by rfl) 43 (.tmp 15) rfl gh (k*37) aw (hL h) _ (fun W hW=>hW.2.2.1) underlying43 rfl (by rw[rH.out];exact iH)
 simp only[Act.put,apl,apC,apy];refine tK 10 (.pointer (some ⟨g,0,none⟩)) aY ?_;refine tK 11 (.pointer (some ⟨g,0,none⟩)) aY ?_;refine tK 12 (.pointer (some ⟨g,0,none⟩)) aY ?_;refine tK 13 (.pointer (some ⟨g,0,none⟩)) aY ?_;refine tK 14 (.pointer (some ⟨g,0,none⟩)) aY ?_;refine tK 15 (.slice ma mn mc) aY ?_;refine auF (i:=16) (v:=.agg (cA ⟨h,.slice ma mn mc,ax,ax⟩)) rfl al al al (fun _ _ _ h=>h) ?hy aY ?_
 case hy=>exact uA (by rfl) 197 _ rfl _ (by simpa[Act.eval]using Na.out)
 simp only[Act.put,apl,apC,apy];refine aue (rs:=[17]) al aq ?_;refine aua rfl (fun K hK=>?_) aud;go_simp;refine hK.out _ _ ?_ (fun _=>?_)
 ·exact HSG _ (jm _ _ _ _) (jd _ _ _ _ _)
 refine aue (rs:=[18]) al aq ?_;refine aua rfl (fun K hK=>?_) aud;refine gP rfl 197 (.tmp 5) (.tmp 23) rfl (w.heap.size+2) (cA ⟨h,.slice ma mn mc,ax,ax⟩) aw aw 197 (cA ⟨h0,ax,ax,ax⟩) (ni _ _ _ _) (by rw[HZc.out];exact iC) (by rw[HZc.out];rfl) HOc ?_;refine hK.out _ _ ?_ (fun _=>?_)
 ·refine HSG _ (ag (jm _ _ _ _) ab _) ?_;rw[auo _ _ _ _ ab];exact jd _ _ _ _ _
 refine auy al ?_ _;have Zc:Hid (∀o1 o2:Obj,Inv ((((w.alloc o1).alloc o2).alloc (.cells (cA ⟨h0,ax,ax,ax⟩) 197)).drew.setRow (w.heap.size+2) (cA ⟨h,.slice ma mn mc,ax,ax⟩)) w.heap.size (w.heap.size+2) ⟨h,.slice ma mn mc,ax,ax⟩ l [] []):=fun o1 o2=>by
  refine⟨zR,ab,aup _ _ _ _ _ (0,0) (ni _ _ _ _),HOM.to fun q ob f hq=>?_,WY,aur _ _ _ _,aur _ _ _ _⟩;have:=(apk.1 hq).1;rw[auo _ _ _ _ ab];exact(jm w o1 o2 _).block q this
 have fC:Hid (∀o1 o2 o3:Obj,Gr w ((((w.alloc o1).alloc o2).alloc o3).drew.setRow (w.heap.size+2) (cA ⟨h,.slice ma mn mc,ax,ax⟩))):=fun _ _ _=>ag (jm _ _ _ _) ab _
 go_wp2_with fail;go_loopw [6] (fun i wr=>∃x:Wk,i=.int .i64 x.n/\x.n<=n/\wk x0 n=wk x (n-x.n)/\AU x mn/\(x.n=0->x=x0)/\In wr w.heap.size (w.heap.size+2) x.h x.m x.out x.av/\Fr w.heap.size w wr/\wr.heap[w.heap.size]?=some (.cells #[.int .i64 k,.int .i64 n] 45 (0,0))/\∃Z:Array Value,Z.size=41/\wr.heap[w.heap.size+1]?=some (.cells Z 142 (0,0))) (fun i _=>n-(intOf i).toNat)
 case atStart=>
  refine⟨x0,by rw[HX.out];rfl,by rw[HX.out];exact apF _,by rw[HX.out];rfl,HW0,fun _=>rfl,?_,Fr.bD (fC _ _ _) (apn _),?_,qA ⟨h0,ax,ax,0,ax⟩,fG (d:=⟨h0,ax,ax,0,ax⟩) iO,?_⟩
  ·rw[HX.out];exact(Zc _ _).rF
  ·rw[auo _ _ _ _ ab];exact jd _ _ _ _ _
  ·rw[auo _ _ _ _ ab];exact wU _ _ _ _ _
 case round=>
  obtain⟨x,rfl,hxn,hxw,ok,hx0,I,Fq,P4,Z,hZ,D4⟩:=hrel;have HX0:=kH hx0;have HI:=kH I;have HF:=kH Fq;have HPk:=kH P4;have HD4:=kH D4;have HZ:=kH hZ;have HXW:=kH hxw;have HWO:=kH ok;have k1:wr.cell? ⟨w.heap.size,1,none⟩=some (.int .i64 n):=atZ _ _ _ _ _ _ P4;have QU:wr.cell? ⟨w.heap.size+2,35,none⟩=some (.int .i64 x.h.state):=by
   obtain⟨cv,e,J⟩:=HI;rw[<-e];exact(J.hcell ab).trans (aW J.ok 3)
  by_cases hgo:x.n<n/\x.h.state=0
  ·obtain⟨hlt,hst⟩:=hgo;have ado:=kH hst;rw[hst]at QU;have HST:=kH (QY x wr HWO hlt HX0 HI (HT.of HF));go_wp2_with fail;refine au0 HST ?_;rintro e w1 ⟨rfl,I1,F1⟩;have HI1:=kH I1;have rY:=kH (HF.trans F1);have QZ:=kH ((F1.keep _ _ _ _ HPk an an an).trans HPk);have HD1:=kH ((F1.keep _ _ _ _ HD4 an an an).trans HD4);have kL:Hid (wk x0 n=wk (FV x) (n-(FV x).n)):=by
    unfold Hid;rw[HXW.out,show n-x.n=(n-(x.n+1))+1 by omega,uk ado.out];rfl
   go_wp2_with fail;go_roundw
   case rel=>exact⟨FV x,by show Value.int .i64 _=.int .i64 ((x.n+1:Nat):Int);go_num,by show x.n+1<=n;omega,kL,yz HWO ado,fun e=>absurd e (Nat.succ_ne_zero _),HI1,rY,QZ,Z,HZ,HD1⟩
   case measure=>simp[intOf];omega
  ·have HE:Hid (wk x0 n=x):=by
    unfold Hid;rw[HXW.out];by_cases h1:x.n<n
    ·exact yw (fun e=>hgo ⟨h1,e⟩) _
    ·rw[show n-x.n=0 by omega];rfl
   have hc2:¬x.n<n\/(x.n<n/\(x.h.state ==0)=false):=by
    by_cases h1:x.n<n
    ·exact .inr ⟨h1,by simpa using fun e=>hgo ⟨h1,e⟩⟩
    ·exact .inl h1
   obtain⟨cv,hcv,J⟩:=HI;have TD:=kH HWO.ok;have HLx:=kH (aD TD);have HRx:Hid (wr.rangeAt (w.heap.size+2) 0 (hL x.h)):=fun j v hv=>by
    have hj:j<37:=by have:=(apj.1 hv).1;rwa[HLx.out]at this
    rw[apu,J.hcell hj,hcv];exact hv
   have k37:=J.dJ 0;have k38:=J.dJ 1;have KJ:=J.dJ 2;have HQ:Hid (Dq wr w.heap.size ⟨x.h,cv.m,cv.out,x.n,cv.av⟩ x):=⟨rfl,rfl,J.mem,J.out,J.av⟩;have HBd:Hid (prog.built 142 [(0,.agg (hL x.h).toArray),(1,cv.m),(2,cv.out),(3,.int .i64 x.n),(4,cv.av)]=some (qA ⟨x.h,cv.m,cv.out,x.n,cv.av⟩)):=oI TD.out _ _ _ _ HQ.out.mem.cells.1 (az HQ.out.out).1 (az HQ.out.av).1;have HOd:=kH (lW HQ.out.mem.cells.2 (az HQ.out.out).2.1 (az HQ.out.av).2.1);have HSd:Hid ((qA ⟨x.h,cv.m,cv.out,x.n,cv.av⟩).size=41):=fG TD;generalize hQA:qA ⟨x.h,cv.m,cv.out,x.n,cv.av⟩=QA at *
   have HQA:=kH hQA;rcases hc2 with h1|⟨h1,h2⟩
   all_goals
    go_wp2_with (first
     |(refine auA rfl 43 _ rfl (w.heap.size+2) 0 rfl (hL x.h) _ ?r1 underlying43 rfl (by rw[HLx.out];exact iH) ?_;(case r1=>exact HRx))
     |(refine au9 rfl 142 _ rfl _ rfl QA (by have:=HBd;simp[Act.eval,Act.put];exact this) ?_)
     |(refine auf rfl 142 _ _ rfl (w.heap.size+1) QA rfl rfl 142 Z ?r2 (by rw[HSd.out];exact iQ) (by rw[HSd.out,HZ.out]) HOd ?_;(case r2=>exact HD4)))
    refine auc (v:=.agg QA) (auD rfl _ _ _ _ _ (0,0) _ rfl (aup _ _ _ _ _ (0,0) HD4) underlying142 rfl (by rw[HSd.out];exact iQ)) rfl ⟨⟨x.h,cv.m,cv.out,x.n,cv.av⟩,by rw[HQA.out],TD,?_,?_⟩
    ·rw[HE.out];refine⟨rfl,rfl,?_,?_,?_⟩
     ·exact HQ.mem.to fun q ob f hq=>auo _ _ _ _ (aa hq HD4 an)
     ·exact aj HQ.out.out fun q ob f hq=>auo _ _ _ _ (aa hq HD4.out an)
     ·exact aj HQ.av fun q ob f hq=>auo _ _ _ _ (aa hq HD4 an)
    ·exact ag HF.below (aqi _) _
theorem Ny (B:Bw ty rs w base g M gh hc O s)(F:Fit s c mn)(lU:mn<=4096)(T:TT w w.heap.size)(hk:k<c)(hc4:c<=4)(hn:n<=400):Calls prog 83 #[.pointer (some ⟨g,0,none⟩),.agg #[.int .i64 k,.int .i64 n]] w fun e w'=>∃d,e=.returned (.agg (qA d))/\d.h.Ok/\Dq w' w.heap.size d (wk (w0 s k) n)/\Gr w w' := 
 Bh B F lU T hk hc4 hn fun x W ok hx _ I T=>Nv I T (by rw[ok.mem];omega) (by have:=ok.av;omega) (by have:=ok.out;omega)
theorem Jq (B:Bw ty rs w base g M gh hc O s)(F:Fit s c mn)(lU:mn<=4096)(T:TT w w.heap.size)(hk:k<c)(hc4:c<=4)(hf:¬Bk.jR s.m (at' s k).pc=0):Calls prog 83 #[.pointer (some ⟨g,0,none⟩),.agg #[.int .i64 k,.int .i64 1]] w fun e w'=>∃d,e=.returned (.agg (qA d))/\d.h.Ok/\Dq w' w.heap.size d (wk (w0 s k) 1)/\Gr w w' := 
 Bh (n:=1) B F lU T hk hc4 ab fun x W ok hx h0 I T=>Jl I T (by rw[ok.mem];omega) (by rw[h0 ab];exact hf)
end Mc
namespace Mc
variable[Inhabited Hc.bN]
open Mm Hh Hc
def Bi (ls:List (Nat×Int)):List Value:=ls.flatMap fun q=>[.int .i64 q.1,.int .u32 q.2]
theorem Nz (ls:List (Nat×Int))(q:Nat×Int):Bi (ls++[q])=Bi ls++[.int .i64 q.1,.int .u32 q.2]:=by simp[Bi]
theorem yG:∀(ls:List (Nat×Int)) (i:Nat) (q:Nat×Int),ls[i]?=some q→(Bi ls)[i*2]?=some (.int .i64 q.1)∧(Bi ls)[i*2+1]?=some (.int .u32 q.2)
 | [],i,q,h=>by simp at h
 |p::r,0,q,h=>by simp at h;subst h;exact⟨rfl,rfl⟩
 |p::r,i+1,q,h=>by
  have ih:=yG r i q (by simpa using h);have e:Bi (p::r)=[.int .i64 p.1,.int .u32 p.2]++Bi r:=rfl;rw[e,apv aE,apv aE];simp only[apH,ap8];rw[show(i+1)*2-(0+1+1)=i*2 by omega,show(i+1)*2+1-(0+1+1)=i*2+1 by omega];exact ih
theorem NA (a b:Int):∀u∈[Value.int .i64 a,Value.int .u32 b],u.oneCell'=true:=by intro u hu;simp only[apx,apB,auw]at hu;rcases hu with rfl|rfl<;>rfl
theorem adq:(prog.info? 159).map (fun i=>(i.zero,i.size,i.bytes))=some (some (.agg #[.int .i64 0,.int .u32 0]),2,16):=al
theorem Bj {s:Sh}(B:Bw ty rs w base g M gh hc O s)(hc4:s.hs.length<=4)(k:Nat)(p:Int×Int)(p0:0<=p.1)(p1:0<p.2)(p2:p.1+p.2<=4096):Calls prog 84 #[.pointer (some ⟨g,0,none⟩),.int .i64 k,.agg #[.int .u32 p.1,.int .u32 (Wd.lo (p.1+p.2))]] w fun e w'=>∃v,e=.returned v/\w'.ownsRow w.heap.size 159 2 v (aR k p s.hs s.hs.length).length (Bi (aR k p s.hs s.hs.length))/\Gr w w':=by
 have HR:=kH B.row;have hgl:=B.lt;have Jp:gh<w.heap.size:=by obtain⟨_,e⟩:=B.row.row;exact(apk.1 e).1
 have k1:=B.c1;have hlo:Wd.lo (p.1+p.2)=p.1+p.2:=by unfold Wd.lo;omega
 have WZ:Hid (∀h:Hv,h.Ok->∀W:World,Calls prog 108 #[.int .u32 h.aP,.agg #[.int .u32 p.1,.int .u32 (p.1+p.2)]] W fun e w'=>e=.returned (.bool (near h.aP p.1 p.2))/\Gr W w'):=fun h o W=>by
  rw[Dy o.x9 o.zO p0 p1 p2 (Int.le_refl _)];exact Jf o.x9 o.zO p0 ab W
 rw[hlo];obtain⟨f,q⟩:=p;simp only at *
 generalize hcc:s.hs.length=c at *
 have HC:=kH hcc;generalize s.hs=hs at *
 obtain⟨i0,hi,hz0,hz1,hz2⟩:=auz adq;generalize hT:f+q=t at *
 go_enter func84,ntmps84;go_wp2;go_loopw [17,7] (fun i v wr=>∃(j:Nat) (L:Value),j<=c/\i=.int .i64 j/\L=v/\wr.ownsRow (w.heap.size+1) 159 2 L (aR k (f,q) hs j).length (Bi (aR k (f,q) hs j))/\Gr (w.alloc (.cells #[.int .u32 f,.int .u32 t] 175)) wr) (fun i _ _=>c-(intOf i).toNat)
 case atStart=>exact⟨0,_,apF _,rfl,rfl,aur _ _ _ _,Gr.refl _⟩
 case round=>
  obtain⟨j,L,hj,rfl,rfl,hown,G⟩:=hrel;have HO:=kH hown;have HG:Hid (Gr (w.alloc (.cells #[.int .u32 f,.int .u32 t] 175)) wr):=G;by_cases hlt:j<c
  ·obtain⟨h,hh⟩:∃h,hs[j]?=some h:=⟨_,api (by rw[HC.out];exact hlt)⟩;have hgd:hs.getD j hN=h:=by simp[List.getD,hh]
   have jM:=HR.ok h (aps hh);have hgw:=br.trans HG;have RG:=kH ((HR.of hgw).range hh);have rH:=kH (aD jM);have sJ:Hid ((hL h).toArray.size=37):=by unfold Hid;simp[rH.out]
   have DR:=kH (qC h);have HLU:Hid (aR k (f,q) hs (j+1)=aR k (f,q) hs j++(if loses k (f,q) j h=true then[(j,h.aP)]else[])):=by unfold Hid;rw[aR,hgd]
   have hlu:=mX k (f,q) hs j;have HME:=kH (WZ h jM);have M8:Hid (∀Y:Array Value,Gr wr ((wr.alloc (.cells Y 43)).setRow wr.heap.size (hL h).toArray)):=fun Y=>ag br (apn _) _
   have KS:Hid (∀Y:Array Value,((wr.alloc (.cells Y 43)).setRow wr.heap.size (hL h).toArray).heap[wr.heap.size]?=some (.cells (hL h).toArray 43 (0,0))):=fun Y=>aup _ _ _ _ _ (0,0) (at5 wr _)
   have k33:∀Y:Array Value,((wr.alloc (.cells Y 43)).setRow wr.heap.size (hL h).toArray).cell? ⟨wr.heap.size,33,none⟩=some (.bool h.held):=fun Y=>(atZ _ _ _ _ _ _ (KS Y)).trans (by rw[apm];exact aW jM 1)
   have k34:∀Y:Array Value,((wr.alloc (.cells Y 43)).setRow wr.heap.size (hL h).toArray).cell? ⟨wr.heap.size,34,none⟩=some (.int .u32 h.aP):=fun Y=>(atZ _ _ _ _ _ _ (KS Y)).trans (by rw[apm];exact aW jM 2)
   have HRg:=kH (Hr.ae HG (at5 w _));have r0:∀Y:Array Value,((wr.alloc (.cells Y 43)).setRow wr.heap.size (hL h).toArray).cell? ⟨w.heap.size,0,none⟩=some (.int .u32 f):=fun Y=>atZ _ _ _ _ _ _ (Hr.ae (M8 Y) HRg)
   have r1:∀Y:Array Value,((wr.alloc (.cells Y 43)).setRow wr.heap.size (hL h).toArray).cell? ⟨w.heap.size,1,none⟩=some (.int .u32 t):=fun Y=>atZ _ _ _ _ _ _ (Hr.ae (M8 Y) HRg)
   have hwr:w.heap.size+1<=wr.heap.size:=by have:=HG.size;simpa using this
   have HB0:=kH jM.x9;generalize aR k (f,q) hs j=U at *
   generalize hhd:h.held=bh at *
   generalize hat:h.aP=ah at *
   have Q7:Hid (loses k (f,q) j h=(decide (j≠k) && (bh && near ah f q))):=by unfold Hid loses;rw[hhd,hat]
   by_cases hjk:j=k
   ·have hne:((j:Int) !=(k:Int))=false:=by simp[hjk]
    have HN:Hid (aR k (f,q) hs (j+1)=U):=by unfold Hid;rw[HLU.out,Q7.out,auh (by simp[hjk])];simp
    clear hjk HLU Q7
    go_wp2_with (first
      |(refine auA rfl 43 _ rfl gh (j*37) rfl (hL h) _ ?r1 underlying43 rfl (by rw[rH.out];exact iH) ?_;(case r1=>exact RG))
      |(refine auf rfl 43 _ _ rfl wr.heap.size (hL h).toArray rfl rfl 43 _ (at5 wr _) (by rw[sJ.out];exact iH) (by rw[sJ.out];rfl) DR ?_))
    go_roundw
    case rel=>exact⟨j+1,L,ab,by go_num,rfl,by rw[HN.out];exact aC HO (M8 _),HG.trans (M8 _)⟩
    case measure=>simp[intOf];omega
   ·have hne:((j:Int) !=(k:Int))=true:=by simp;omega
    cases bh with
    |false=>
     have HN:Hid (aR k (f,q) hs (j+1)=U):=by unfold Hid;rw[HLU.out,Q7.out];simp
     go_wp2_with (first
      |(refine auA rfl 43 _ rfl gh (j*37) rfl (hL h) _ ?r1 underlying43 rfl (by rw[rH.out];exact iH) ?_;(case r1=>exact RG))
      |(refine auf rfl 43 _ _ rfl wr.heap.size (hL h).toArray rfl rfl 43 _ (at5 wr _) (by rw[sJ.out];exact iH) (by rw[sJ.out];rfl) DR ?_))
     go_roundw
     case rel=>exact⟨j+1,L,ab,by go_num,rfl,by rw[HN.out];exact aC HO (M8 _),HG.trans (M8 _)⟩
     case measure=>simp[intOf];omega
    |true=>
     cases hnr:near ah f q with
     |false=>
      have Jr:Hid (∀W:World,Calls prog 108 #[.int .u32 ah,.agg #[.int .u32 f,.int .u32 t]] W fun e w'=>e=.returned (.bool false)/\Gr W w'):=fun W=>by have:=HME W;rwa[hnr]at this
      have HN:Hid (aR k (f,q) hs (j+1)=U):=by unfold Hid;rw[HLU.out,Q7.out,hnr];simp
      go_wp2_with (first
      |(refine auA rfl 43 _ rfl gh (j*37) rfl (hL h) _ ?r1 underlying43 rfl (by rw[rH.out];exact iH) ?_;(case r1=>exact RG))
      |(refine auf rfl 43 _ _ rfl wr.heap.size (hL h).toArray rfl rfl 43 _ (at5 wr _) (by rw[sJ.out];exact iH) (by rw[sJ.out];rfl) DR ?_))
      refine(Jr _).mono ?_;rintro e w1 ⟨rfl,G1⟩;have aU:=kH ((M8 _).trans G1);go_wp2_with fail;go_roundw
      case rel=>exact⟨j+1,L,ab,by go_num,rfl,by rw[HN.out];exact aC HO aU,HG.trans aU⟩
      case measure=>simp[intOf];omega
     |true=>
      have Jr:Hid (∀W:World,Calls prog 108 #[.int .u32 ah,.agg #[.int .u32 f,.int .u32 t]] W fun e w'=>e=.returned (.bool true)/\Gr W w'):=fun W=>by have:=HME W;rwa[hnr]at this
      have HN:Hid (aR k (f,q) hs (j+1)=U++[(j,ah)]):=by unfold Hid;rw[HLU.out,Q7.out,hnr,auq (show j≠k from hjk)];simp
      go_wp2_with (first
      |(refine auA rfl 43 _ rfl gh (j*37) rfl (hL h) _ ?r1 underlying43 rfl (by rw[rH.out];exact iH) ?_;(case r1=>exact RG))
      |(refine auf rfl 43 _ _ rfl wr.heap.size (hL h).toArray rfl rfl 43 _ (at5 wr _) (by rw[sJ.out];exact iH) (by rw[sJ.out];rfl) DR ?_))
      refine(Jr _).mono ?_;rintro e w1 ⟨rfl,G1⟩;have aU:=kH ((M8 _).trans G1);have q34:=(G1.cell _ aq).trans (k34 _);have ak6:wr.heap.size<w1.heap.size:=by have:=G1.size;simp at this;omega
      go_wp2_with (at_builtin;refine auK _ rfl (.tmp 35) (.tmp 40) 119 rfl (w.heap.size+1) 159 i0 (.agg #[.int .i64 0,.int .u32 0]) 2 16 underlying119 hi hz0 hz1 hz2 rfl an L U.length (Bi U) rfl (aC HO (aU.alloc _)) ⟨w1.heap.size,0,none⟩ 1 1 [.int .i64 j,.int .u32 ah] rfl rfl (dP aq aq) (NA _ _) bj ab aE ?_;intro v' w2 hown hgrow _;have kY:Hid (w2.ownsRow (w.heap.size+1) 159 2 v' (U.length+1) (Bi U++[.int .i64 j,.int .u32 ah])):=hown;have HG2:Hid (Gr (w.alloc (.cells #[.int .u32 f,.int .u32 t] 175)) w2):=(((HG.trans aU).alloc _).grown hgrow (fun b e=>by have:=(HO.lt b e).1;simp;omega));clear hown hgrow);go_roundw
      case rel=>exact⟨j+1,v',ab,by go_num,rfl,by rw[HN.out,Nz,apo];exact kY,HG2⟩
      case measure=>simp[intOf];omega
  ·have ej:j=c:=ab;go_wp2_with fail;go_ret;refine⟨L,rfl,?_,br.trans HG⟩;have:=HO;rw[ej]at this;refine⟨this.1,?_⟩;rcases this.2 with h|⟨g',cap,cur,hv,hb,r⟩
   ·exact .inl h
   ·exact .inr ⟨g',cap,cur,hv,ab,r⟩
end Mc
namespace Mc
variable[Inhabited Hc.bN]
open Mm Hh Hc
variable{ty:Nat}{rs:List Value}
variable{o:Array Value}{hs:List Hv}{s:Sh}
def Src (w:World) (vx:Value) (m sz:Nat) (news:List Value):Prop:=(vx=.slice none 0 0/\m=0/\news=[])\/∃ad c,vx=.slice (some ad) m c/\news.length=m*sz/\∀j u,news[j]?=some u->w.cell? (ad.add j)=some u
theorem Src.own (h:w.ownsRow base e sz v n xs):Src w v n sz xs:=by
 obtain⟨hl,h⟩:=h;rcases h with⟨rfl,rfl⟩|⟨g,cap,cur,rfl,_,hg,_,_,_,ht⟩
 ·exact .inl ⟨rfl,rfl,apX (by simpa using hl)⟩
 ·refine .inr ⟨_,cap,rfl,hl,fun j u hj=>?_⟩;rw[cz,apu,cr hg];rw[<-ht]at hj;rw[apS]at hj;split at hj
  ·simpa using hj
  ·cases hj
section
variable{i:TypeInfo}{t:TypeId}
theorem lZ (ty:TypeId)(h1:P.underlying t=some (.slice e))(h2:P.info? e=some i)(h3:i.zero=some z)(h4:i.size=size)(h5:i.bytes=bytes)(h6:z.cells.size=size)(h7:0<size)(hown:w.ownsRow base e size v n olds)(hsrc:Src w vx m size news)(h1c:∀u∈news,u.oneCell'=true)(b1:n+m<=maxLen)(b2:(n+m)*bytes<=140737488355328)(hbase:base<=w.heap.size):∃v' w',(Builtin.append_ #[t,t] ty #[v,vx]).run P w=.ok v' w'/\w'.ownsRow base e size v' (n+m) (olds++news)/\w.grownBy w' v.ownBlock:=by
 rcases hsrc with⟨rfl,rfl,rfl⟩|⟨ad,c,rfl,hl,hc⟩
 ·exact⟨v,w,run_append_owned_none w base t ty e i size h1 h2 v n olds hown,by simpa using hown,⟨rfl,rfl,rfl,apn _,fun _ _ _=>rfl⟩⟩
 ·obtain⟨v',w',hrun,r1,r2,_⟩:=au6 (P:=P) w base t ty e i z size bytes h1 h2 h3 h4 h5 h6 h7 v n olds hown ad m c news hl hc h1c b1 b2 hbase;exact⟨v',w',hrun,r1,r2⟩
theorem rZ {o:Oper}{Q:Exit→Act→World→Prop}(hg:o.guard=none)(s x:Operand)(hop:o.op=Op.call { callee:=Callee.builtin Builtin.append,args:=#[s,x],argTypes:=#[t,t] })(h1:P.underlying t=some (.slice e))(h2:P.info? e=some i)(h3:i.zero=some z)(h4:i.size=size)(h5:i.bytes=bytes)(h6:z.cells.size=size)(h7:0<size)(hs:a.eval s=v)(hx:a.eval x=vx)(hown:w.ownsRow base e size v n olds)(hsrc:Src w vx m size news)(h1c:∀u∈news,u.oneCell'=true)(b1:n+m<=maxLen)(b2:(n+m)*bytes<=140737488355328)(hbase:base<=w.heap.size)(hK:∀v' w',w'.ownsRow base e size v' (n+m) (olds++news)->w.grownBy w' v.ownBlock->K (a.put o.dst v') w'):if Region.wanted o (yielded ops a.tmps)=true then Oper.wp P o a w K Q else E:=by
 have hw:Region.wanted o (yielded ops a.tmps)=true:=by simp[Region.wanted,hg]
 rw[at7 hw];obtain⟨v',w',hrun,r1,r2⟩:=lZ (P:=P) o.type h1 h2 h3 h4 h5 h6 h7 hown hsrc h1c b1 b2 hbase;unfold Oper.wp;simp[execOp,hop,resolve,invoke,builtin,hs,hx,hrun,Result.andThen];exact hK v' w' r1 r2
theorem pY {o:Oper}{Q:Exit→Act→World→Prop}(hg:o.guard=none)(s x:Operand)(hop:o.op=Op.call { callee:=Callee.builtin Builtin.append,args:=#[s,x],argTypes:=#[t,t] })(h1:P.underlying t=some (.slice e))(h2:P.info? e=some i)(h3:i.zero=some z)(h4:i.size=size)(h5:i.bytes=bytes)(h6:z.cells.size=size)(h7:0<size)(hs:a.eval s=v)(hx:a.eval x=vx)(hown:w.ownsRow base e size v n olds)(hsrc:Src w vx m size news)(h1c:∀u∈news,u.oneCell'=true)(b1:n+m<=maxLen)(b2:(n+m)*bytes<=140737488355328)(hbase:base<=w.heap.size)(hK:∀v' w',w'.ownsRow base e size v' (n+m) (olds++news)->w.grownBy w' v.ownBlock->wpList P ops Q rest (a.put o.dst v') w'):wpList P ops Q (o::rest) a w:=by
 refine au5 hg fun K hk=>?_
 obtain⟨v',w',hrun,r1,r2⟩:=lZ (P:=P) o.type h1 h2 h3 h4 h5 h6 h7 hown hsrc h1c b1 b2 hbase;unfold Oper.wp;simp[execOp,hop,resolve,invoke,builtin,hs,hx,hrun,Result.andThen];exact hk _ _ (hK v' w' r1 r2)
end
theorem uB {o:Oper}{Q:Exit→Act→World→Prop}(hg:o.guard=none)(ty:TypeId)(x y:Operand)(ho:o.op=.store ty x y)(b j:Nat)(cells:Array Value)(hx:a.eval x=.pointer (some ⟨b,j,none⟩))(hy:a.eval y=.agg cells)(ht:w.there b j cells.size)(hi:(P.info? ty).map (·.size)=some cells.size)(h1:cells.all (·.oneCell')=true)(h:K (a.put o.dst undef) (w.setCells b j cells.toList)):if Region.wanted o (yielded ops a.tmps)=true then Oper.wp P o a w K Q else E:=by rw[at7 (by simp[Region.wanted,hg])];exact wp_store_mid ty x y ho b j cells hx hy ht hi h1 h
theorem l6 {md:Region.Mode}{Q:Exit→Act→World→Prop}{i:Nat}{o:Oper}(hr:Region.ready md ops listed=[i])(hoi:ops[i]?=some o)(hg:o.guard=none)(ty:TypeId)(x y:Operand)(ho:o.op=.store ty x y)(b j:Nat)(cells:Array Value)(hx:a.eval x=.pointer (some ⟨b,j,none⟩))(hy:a.eval y=.agg cells)(ht:w.there b j cells.size)(hi:(P.info? ty).map (·.size)=some cells.size)(h1:cells.all (·.oneCell')=true)(hS:S (w.setCells b j cells.toList))(h:wpAnyH P md ops Q S fuel (listed.setIfInBounds i true) (a.put o.dst undef) (w.setCells b j cells.toList)):wpAnyH P md ops Q S (fuel+1) listed a w:=aue hr aq (aua hoi (fun K hK=>uB hg ty x y ho b j cells hx hy ht hi h1 (hK.out _ _ hS fun _=>h)) aud)
theorem Js (os:List Int):∀u∈os.map (Value.int .u32),u.oneCell'=true:=by intro u hu;obtain⟨b,_,rfl⟩:=apK.1 hu;rfl
theorem ads:(prog.info? 37).map (fun i=>(i.zero,i.size,i.bytes))=some (some (Value.int .u32 0),1,4):=al
theorem gZ {w:World}(R:bQ w gh hs)(q:Ch gh w w')(ht:t≠43)(hk:w.heap[k]?=some (.cells o t f)):w'.heap[k]?=w.heap[k]?:=by obtain⟨rest,e⟩:=R.row;exact q.block k (gs hk).1 (fun h=>aa hk e ht (by injection h))
theorem Bw.ch (B:Bw ty rs w base g M gh hc O s)(q:Ch gh w w')(R:bQ w' gh hs)(hl:hs.length=s.hs.length)(z:Zh w' gh hc):Bw ty rs w' base g M gh hc O ⟨hs,s.m,s.out,s.steps⟩:=⟨B.t1,B.t2,B.t3,B.bg,by show w'.heap[g]?=some (.cells (M::.slice (some ⟨gh,0,none⟩) hs.length hc::O::.int .i64 s.steps::rs).toArray _ _);rw[hl];exact(gZ B.row q B.t3 B.blk).trans B.blk,B.mem.to fun k o f hk=>gZ B.row q an hk,B.bh,R,aj B.out fun k o f hk=>gZ B.row q an hk,⟨z,B.hz.2⟩⟩
theorem Dq.ch {d:Qv}{x:Wk}(D:Dq w b d x)(R:bQ w gh hs)(q:Ch gh w w'):Dq w' b d x:=⟨D.hh,D.n,D.mem.to fun k o f hk=>gZ R q an hk,aj D.out fun k o f hk=>gZ R q an hk,aj D.av fun k o f hk=>gZ R q an hk⟩
theorem Ch.bD (G:Gr w w'):Ch g w w':=(Ch.refl g w).gr G
theorem Dq.gr {w w':World}{b:Nat}{d:Qv}{x:Wk}(D:Dq w b d x)(G:Gr w w'):Dq w' b d x:=⟨D.hh,D.n,gT D.mem G,aC D.out G,aC D.av G⟩
theorem Ch.setCells {g:Nat}{a w:World}(h:Ch g a w):∀(vs:List Value) (o:Nat),Ch g a (w.setCells g o vs)
 | [],o=>h
 |v::r,o=>by rw[World.setCells];exact Ch.setCells (h.setCell o v) r (o+1)
theorem Bw.fz (B:Bw ty rs w base g M gh hc O s)(i:Nat):w.frozen? ⟨g,i,none⟩=false:=lh B.blk
theorem Bw.ay (B:Bw ty rs w base g M gh hc O s):base<=w.heap.size:=apr B.bg (aqP (gs B.blk).1)
theorem dG (B:Bw ty rs w base g M gh hc O s)(i:Nat)(v:Value)(ht:t≠ty)(hk:w.heap[k]?=some (.cells o t f)):(w.setCell ⟨g,i,none⟩ v).heap[k]?=w.heap[k]?:=hso (by exact aa hk B.blk ht)
theorem bQ.to {w':World}(r:bQ w g hs)(h:∀(k:Nat) (o:Array Value) (f:Nat×Nat),w.heap[k]?=some (.cells o 43 f)->w'.heap[k]?=w.heap[k]?):bQ w' g hs:=by obtain⟨rest,e⟩:=r.row;exact⟨r.ok,rest,(h _ _ _ e).trans e⟩
theorem Bw.agH (B:Bw ty rs w base g M gh hc O s)(h:Own w Hc.mb M' m'):Bw ty rs (w.setCell ⟨g,0,none⟩ M') base g M' gh hc O ⟨s.hs,m',s.out,s.steps⟩:=⟨B.t1,B.t2,B.t3,B.bg,by rw[hss B.blk];simp,h.to fun k o f hk=>dG B _ _ B.t1.symm hk,B.bh,B.row.to fun k o f hk=>dG B _ _ B.t3.symm hk,aj B.out fun k o f hk=>dG B _ _ B.t2.symm hk,⟨B.hz.1.to fun k o f hk=>dG B _ _ B.t3.symm hk,B.hz.2⟩⟩
theorem Bw.agI (B:Bw ty rs w base g M gh hc O s)(n':Nat):Bw ty rs (w.setCell ⟨g,3,none⟩ (.int .i64 n')) base g M gh hc O ⟨s.hs,s.m,s.out,n'⟩:=⟨B.t1,B.t2,B.t3,B.bg,by rw[hss B.blk];simp,B.mem.to fun k o f hk=>dG B _ _ B.t1.symm hk,B.bh,B.row.to fun k o f hk=>dG B _ _ B.t3.symm hk,aj B.out fun k o f hk=>dG B _ _ B.t2.symm hk,⟨B.hz.1.to fun k o f hk=>dG B _ _ B.t3.symm hk,B.hz.2⟩⟩
theorem Bw.vM (B:Bw ty rs w base g M gh hc O s)(i:Nat)(v:Value):Bw ty (rs.set i v) (w.setCell ⟨g,4+i,none⟩ v) base g M gh hc O s:=⟨B.t1,B.t2,B.t3,B.bg,by rw[hss B.blk,apl,Nat.add_comm];rfl,B.mem.to fun k o f hk=>dG B _ _ B.t1.symm hk,B.bh,B.row.to fun k o f hk=>dG B _ _ B.t3.symm hk,aj B.out fun k o f hk=>dG B _ _ B.t2.symm hk,⟨B.hz.1.to fun k o f hk=>dG B _ _ B.t3.symm hk,B.hz.2⟩⟩
structure Fe (ty:Nat) (base:Nat) (w w':World):Prop where
 below:Below base w w'
 keep:∀(k:Nat) (o:Obj),w.heap[k]?=some o->(∀q f,¬o=.cells q ty f)->(∀q f,¬o=.cells q 43 f)->(∀q f,¬o=.cells q 37 f)->w'.heap[k]?=some o
theorem Fe.refl (base:Nat)(w:World):Fe ty base w w:=⟨auC _ _,fun _ _ h _ _ _=>h⟩
theorem Fe.trans {base:Nat}{a b c:World}(h:Fe ty base a b)(k:Fe ty base b c):Fe ty base a c:=⟨h.below.trans k.below,fun i o e t1 t2 t3=>k.keep i o (h.keep i o e t1 t2 t3) t1 t2 t3⟩
theorem Fe.bD (G:Gr w w')(hb:base<=w.heap.size):Fe ty base w w':=⟨aun G hb,fun i o e _ _ _=>(G.block i (gs e).1).trans e⟩
theorem Fe.drew {base:Nat}{a w:World}(h:Fe ty base a w):Fe ty base a w.drew:=⟨h.below.drew,h.keep⟩
theorem Fe.ch (R:bQ w gh hs)(q:Ch gh w w')(hg:base<=gh)(hb:base<=w.heap.size):Fe ty base w w':=⟨q.below hg hb,fun i o e _ t2 _=>by obtain⟨rest,e2⟩:=R.row;refine(q.block i (gs e).1 (fun h=>?_)).trans e;injection h with h;subst h;rw[e2]at e;injection e with e;exact t2 _ _ e.symm⟩
theorem Fe.setCell {base:Nat}{a w:World}{g:Nat}{Y:Array Value}{f:Nat×Nat}(h:Fe ty base a w)(hy:w.heap[g]?=some (.cells Y ty f))(hg:base<=g)(i:Nat)(v:Value):Fe ty base a (w.setCell ⟨g,i,none⟩ v):=⟨auS h.below (by exact hg) _,fun k o e t1 t2 t3=>by
 have e2:=h.keep k o e t1 t2 t3;rw[hso (by
  show k≠g
  intro ek;subst ek;rw[hy]at e2;injection e2 with e2;exact t1 _ _ e2.symm)]
 exact e2⟩
theorem Fe.grown {base:Nat}{w w':World}{O:Value}{n:Nat}{xs:List Value}(hO:w.ownsRow base 37 1 O n xs)(q:w.grownBy w' O.ownBlock)(hb:base<=w.heap.size):Fe ty base w w':=⟨(auC base w).grown q hb fun k e=>(hO.lt k e).1,fun k o e _ _ t3=>(q.block k (gs e).1 (fun h=>by
  rcases hO.2 with⟨h0,_⟩|⟨g',cap,cur,hv,_,hg,_⟩
  ·rw[h0]at h;cases h
  ·rw[hv]at h;injection h with h;subst h;rw[hg]at e;injection e with e;exact t3 _ _ e.symm)).trans e⟩
theorem Fe.cells {base:Nat}{w w':World}(h:Fe ty base w w'){k:Nat}{q:Array Value}{t:Nat}{f:Nat×Nat}(e:w.heap[k]?=some (.cells q t f))(t1:t≠ty)(t2:t≠43)(t3:t≠37):w'.heap[k]?=w.heap[k]?:=(h.keep k _ e (fun _ _ c=>t1 (by injection c)) (fun _ _ c=>t2 (by injection c)) (fun _ _ c=>t3 (by injection c))).trans e.symm
theorem eF (hO:w.ownsRow base e sz O n xs)(q:w.grownBy w' O.ownBlock)(ht:t≠e)(hk:w.heap[k]?=some (.cells o t f)):w'.heap[k]?=w.heap[k]?:=
 q.block k (gs hk).1 (fun h=>by
  rcases hO.2 with⟨h0,_⟩|⟨g',cap,cur,hv,_,hg,_⟩
  ·rw[h0]at h;cases h
  ·rw[hv]at h;injection h with h;exact aa hk hg ht h)
theorem Bw.grown {w w':World}{base g gh hc:Nat}{M O:Value}{s:Sh}(B:Bw ty rs w base g M gh hc O s)(q:w.grownBy w' O.ownBlock){v:Value}{os:List Int}(ho:w'.ownsRow base 37 1 v os.length (os.map (Value.int .u32))):w'.cell? ⟨g,2,none⟩=some O/\w'.frozen? ⟨g,2,none⟩=false/\Bw ty rs (w'.setCell ⟨g,2,none⟩ v) base g M gh hc v ⟨s.hs,s.m,os,s.steps⟩/\Fe ty base w (w'.setCell ⟨g,2,none⟩ v):=by
 have st:∀{t:Nat},t≠37->∀{k:Nat} {o:Array Value} {f:Nat×Nat},w.heap[k]?=some (.cells o t f)->w'.heap[k]?=w.heap[k]?:=fun ht _ _ _ hk=>eF B.out q ht hk
 have hb:=(st B.t2 B.blk).trans B.blk;have ne:∀{t:Nat},t≠ty->∀{k:Nat} {o:Array Value} {f:Nat×Nat},w'.heap[k]?=some (.cells o t f)->(w'.setCell ⟨g,2,none⟩ v).heap[k]?=w'.heap[k]?:=fun ht _ _ _ hk=>hso (by exact aa hk hb ht)
 have two:∀{t:Nat},t≠ty->t≠37->∀{k:Nat} {o:Array Value} {f:Nat×Nat},w.heap[k]?=some (.cells o t f)->(w'.setCell ⟨g,2,none⟩ v).heap[k]?=w.heap[k]?:=fun h1 h2 _ _ _ hk=>by
  have e:=st h2 hk;exact(ne h1 (e.trans hk)).trans e
 refine⟨(cr hb).trans aq,lh hb,⟨B.t1,B.t2,B.t3,B.bg,by rw[hss hb];simp,B.mem.to fun k o f hk=>two B.t1.symm an hk,B.bh,B.row.to fun k o f hk=>two B.t3.symm an hk,aj ho fun k o f hk=>ne B.t2.symm hk,⟨B.hz.1.to fun k o f hk=>two B.t3.symm an hk,B.hz.2⟩⟩,?_⟩;exact Fe.setCell (Fe.grown B.out q B.ay) hb B.bg _ _
end Mc
namespace Mi
variable[Inhabited Hc.bN]
open Mm Hh Hc
variable{b:Bool}{α:Type}{i:Mv}{x:Int}
structure Cs (w:World) (ao:Option Addr) (n:Nat) (code:List Mv):Prop where
 len:code.length=n
 wn:∀i∈code,W i.n
 wo:∀i∈code, -9223372036854775808<=i.op/\i.op<=9223372036854775807
 spot:0<n->∃b o,ao=some ⟨b,o,none⟩/\b<w.heap.size/\∀j i,code[j]?=some i->w.cell? ⟨b,o+j*5,none⟩=some (.int .i64 i.op)/\w.cell? ⟨b,o+j*5+1,none⟩=some (.int .i64 i.d)/\w.cell? ⟨b,o+j*5+2,none⟩=some (.int .i64 i.a)/\w.cell? ⟨b,o+j*5+3,none⟩=some (.int .i64 i.b)/\w.cell? ⟨b,o+j*5+4,none⟩=some (.int .u32 i.n)
theorem Cs.of {code:List Mv}(h:Cs w ao n code)(g:Gr w w'):Cs w' ao n code:=
 ⟨h.len,h.wn,h.wo,fun hn=>by
  obtain⟨b,o,e,hb,hc⟩:=h.spot hn;refine⟨b,o,e,apq hb g.size,fun j i hj=>?_⟩;obtain⟨h0,h1,h2,h3,h4⟩:=hc j i hj;exact⟨(g.cell _ (by exact hb)).trans h0,(g.cell _ (by exact hb)).trans h1,(g.cell _ (by exact hb)).trans h2,(g.cell _ (by exact hb)).trans h3,(g.cell _ (by exact hb)).trans h4⟩⟩
theorem l7 {a:Bool}(h:a=b):Ending.returned (.bool a)=.returned (.bool b):=by rw[h]
theorem Jt (f:α->Bool)(l:List α)(k:Nat)(x:α)(h:l[k]?=some x):(l.take (k+1)).all f=((l.take k).all f && f x):=by rw[apU,h];simp
theorem yH {f:α->Bool}{l:List α}{x:α}(h:l[k]?=some x)(hx:f x=false):l.all f=false:=by rw[List.all_eq_false];exact⟨x,aps h,by simp[hx]⟩
theorem TE (h:named i.op<0):dZ i=false:=by unfold dZ;rw[auh ab];rfl
end Mi
namespace Ts
variable[Inhabited Hc.bN]
open Mm Hc Mi Bk
open Hh
variable{code:List Mv}
theorem qR (h:w.ownsRow base e sz v n xs):∃a c,v=.slice a n c:=by
 rcases h.2 with⟨rfl,rfl⟩|⟨g,cap,_,rfl,_⟩
 ·exact⟨none,0,rfl⟩
 ·exact⟨_,cap,rfl⟩
theorem NB (h:w.ownsRow base e sz v n xs)(hn:0<n):∃g c,v=.slice (some ⟨g,0,none⟩) n c/\g<w.heap.size/\∀j u,xs[j]?=some u->w.cell? ⟨g,j,none⟩=some u:=by obtain⟨g,c,rfl⟩:=dh h hn;refine⟨g,c,rfl,(h.lt g rfl).2,fun j u hu=>?_⟩;have:=h.cells (g:=g) rfl j u hu;rwa[cz,apu]at this
def Sr (w:World) (vx:Value) (m sz:Nat) (news:List Value):Prop:=(vx=.slice none 0 0/\m=0/\news=[])\/∃ad c,vx=.slice (some ad) m c/\news.length=m*sz/\∀j u,news[j]?=some u->w.cell? (ad.add j)=some u
theorem Sr.gr {w w':World}{vx:Value}{m sz:Nat}{news:List Value}(h:Sr w vx m sz news)(G:Gr w w'):Sr w' vx m sz news:=by
 rcases h with h|⟨ad,c,e,hl,hc⟩
 ·exact .inl h
 ·exact .inr ⟨ad,c,e,hl,fun j u hj=>(G.cell _ (aug w _ (hc j u hj))).trans (hc j u hj)⟩
theorem Sr.new (w:World)(cs:Array Value)(t n c:Nat)(h:cs.size=n*5):Sr (w.alloc (.cells cs t)) (.slice (some ⟨w.heap.size,0,none⟩) n c) n 5 cs.toList:=.inr ⟨_,_,rfl,by simpa using h,fun j u hj=>by rw[cz,apu,cr (at5 w _)];simpa using hj⟩
section
variable{i:TypeInfo}{t:TypeId}
theorem kC {Q:Exit→Act→World→Prop}(hg:o.guard=none)(s x:Operand)(hop:o.op=Op.call { callee:=Callee.builtin Builtin.append,args:=#[s,x],argTypes:=#[t,t] })(h1:P.underlying t=some (.slice e))(h2:P.info? e=some i)(h3:i.zero=some z)(h4:i.size=size)(h5:i.bytes=bytes)(h6:z.cells.size=size)(h7:0<size)(hs:a.eval s=v)(hx:a.eval x=vx)(hown:w.ownsRow base e size v n olds)(hsrc:Sr w vx m size news)(h1c:∀u∈news,u.oneCell'=true)(b1:n+m<=maxLen)(b2:(n+m)*bytes<=140737488355328)(hbase:base<=w.heap.size)(hK:∀v' w',w'.ownsRow base e size v' (n+m) (olds++news)->w.grownBy w' v.ownBlock->wpList P ops Q rest (a.put o.dst v') w'):wpList P ops Q (o::rest) a w:=by
 refine au5 hg fun K hk=>?_
 have hr:∃v' w',(Builtin.append_ #[t,t] o.type #[v,vx]).run P w=.ok v' w'/\w'.ownsRow base e size v' (n+m) (olds++news)/\w.grownBy w' v.ownBlock:=by
  rcases hsrc with⟨rfl,rfl,rfl⟩|⟨ad,c,rfl,hl,hc⟩
  ·exact⟨v,w,run_append_owned_none w base t o.type e i size h1 h2 v n olds hown,by simpa using hown,⟨rfl,rfl,rfl,apn _,fun _ _ _=>rfl⟩⟩
  ·obtain⟨v',w',hrun,r1,r2,_⟩:=au6 (P:=P) w base t o.type e i z size bytes h1 h2 h3 h4 h5 h6 h7 v n olds hown ad m c news hl hc h1c b1 b2 hbase;exact⟨v',w',hrun,r1,r2⟩
 obtain⟨v',w',hrun,r1,r2⟩:=hr;unfold Oper.wp;simp[execOp,hop,resolve,invoke,builtin,hs,hx,hrun,Result.andThen];exact hk _ _ (hK v' w' r1 r2)
end
def vN (i:Mv):List Value:=[.int .i64 i.op,.int .i64 i.d,.int .i64 i.a,.int .i64 i.b,.int .u32 i.n]
def r9 (code:List Mv):List Value:=code.flatMap vN
theorem TF (a b:List Mv):r9 (a++b)=r9 a++r9 b:=by simp[r9]
theorem F7:∀(code:List Mv) (i j:Nat) (x:Mv),code[i]?=some x→j<5→(r9 code)[i*5+j]?=(vN x)[j]?
 | [],i,j,x,h,_=>by simp at h
 |p::r,0,j,x,h,hj=>by
  simp at h;subst h;show(vN p++r9 r)[0*5+j]?=_
  rw[aqI,apu,apA (by simpa[vN]using hj)]
 |p::r,i+1,j,x,h,hj=>by
  have ih:=F7 r i j x (by simpa using h) hj;show(vN p++r9 r)[(i+1)*5+j]?=_
  rw[apv (by simp[vN];omega)];rw[show(i+1)*5+j-(vN p).length=i*5+j by simp[vN];omega];exact ih
theorem TG (code:List Mv):∀u∈r9 code,u.oneCell'=true:=by intro u hu;simp only[r9,arp]at hu;obtain⟨i,_,hu⟩:=hu;simp only[vN,apx,apB,auw]at hu;rcases hu with rfl|rfl|rfl|rfl|rfl<;>rfl
theorem ND (O:w.ownsRow base 235 5 v code.length (r9 code))(hn:∀i∈code,Hh.W i.n)(ho:∀i∈code, -9223372036854775808<=i.op/\i.op<=9223372036854775807):∃ca cc,v=.slice ca code.length cc/\Cs w ca code.length code:=by
 obtain⟨ca,cc,rfl⟩:=qR O;refine⟨ca,cc,rfl,rfl,hn,ho,fun h0=>?_⟩;obtain⟨g,c,e,hg,hc⟩:=NB O h0;injection e with e1 _ _;refine⟨g,0,e1,hg,fun j i hi=>?_⟩;rw[apu];have q:=fun t (ht:t<5)=>F7 code j t i hi ht
 refine⟨hc _ _ ?_,hc _ _ ?_,hc _ _ ?_,hc _ _ ?_,hc _ _ ?_⟩
 ·have:=q 0 ab;rwa[aqt]at this
 ·exact q 1 ab
 ·exact q 2 ab
 ·exact q 3 ab
 ·exact q 4 ab
def Ct (w:World) (ca:Option Addr) (cn:Nat) (code:List Mv):Prop:=∀W:World,(∀(k:Nat) (o:Array Value) (f:Nat×Nat),w.heap[k]?=some (.cells o 235 f)->W.heap[k]?=w.heap[k]?)->Cs W ca cn code
theorem Ct.cs (h:Ct w ca cn code):Cs w ca cn code:=h w fun _ _ _ _=>rfl
theorem Ct.to {w':World}(h:Ct w ca cn code)(q:∀(k:Nat) (o:Array Value) (f:Nat×Nat),w.heap[k]?=some (.cells o 235 f)->w'.heap[k]?=w.heap[k]?):Ct w' ca cn code:=fun W hW=>h W fun k o f hk=>(hW k o f ((q k o f hk).trans hk)).trans (q k o f hk)
theorem Ct.of (h:Ct w ca cn code)(G:Gr w w'):Ct w' ca cn code:=h.to fun k o f hk=>G.block k (gs hk).1
theorem Zd (O:w.ownsRow base 235 5 v code.length (r9 code))(hn:∀i∈code,Hh.W i.n)(ho:∀i∈code, -9223372036854775808<=i.op/\i.op<=9223372036854775807):∃ca cc,v=.slice ca code.length cc/\Ct w ca code.length code:=by obtain⟨ca,cc,rfl,_⟩:=ND O hn ho;refine⟨ca,cc,rfl,fun W q=>?_⟩;obtain⟨ca',cc',e,C⟩:=ND (aj O q) hn ho;injection e with e1 _ _;subst e1;exact C
end Ts
namespace Kc
variable[Inhabited Hc.bN]
open Mm Ts Hc
variable{x y:Value}
theorem uC {W:World}{z1 z2 z3:Value}(h:W.heap[g]?=some (.cells #[z0,z1,z2,z3] t (0,0)))(a b c d:Value):((((W.setCell ⟨g,0,none⟩ a).setCell ⟨g,1,none⟩ b).setCell ⟨g,2,none⟩ c).setCell ⟨g,3,none⟩ d).heap[g]?=some (.cells #[a,b,c,d] t (0,0)):=by have h0:=aul W g 0 _ _ a h;have h1:=aul _ g 1 _ _ b h0;have h2:=aul _ g 2 _ _ c h1;exact aul _ g 3 _ _ d h2
theorem Bl {x:World}(F:World->Prop)(h:F x)(k:∀y,F y->p y):p x:=k x h
end Kc
end Go.Proofs.YtiadhbmnfjfioaaGreatDoor
