/- ours -/
import Derived.Test.YtiadhbmnfjfioaaGreatDoorX19
set_option linter.unusedVariables false
set_option linter.unusedSimpArgs false
set_option maxHeartbeats 8000000
set_option maxRecDepth 100000
set_option linter.unusedSectionVars false
namespace Go.Proofs.YtiadhbmnfjfioaaGreatDoor
open Go.Proofs.Tryz hiding t1 t2 t3 t4 t5 t6 t8
namespace Ts
variable [Inhabited Go.Proofs.YtiadhbmnfjfioaaGreatDoor.Hc.bN]
open Go.ChangeShapes Go.WideShapes Go.ChangeAt Go.RowKit Mm Hc Mi Bk
open Hh hiding Rn

variable {w w' :World} {sn k :Nat} {sa :Option Addr} {is :List Iv}
def Iv.Sound (i:Iv):Prop:=Dw.Same i.op i.rd i.r1 i.r2 i.im (Dw.Wv i.op i.rd i.r1 i.r2 i.im)
theorem Iv.Sound.fits {i:Iv}(h:i.Sound):i.In:=by
 have hv:=Dw.nN i.op i.rd i.r1 i.r2 i.im;obtain⟨h0,h1,h2,h3,h4,h5⟩:=h;have hb:=Re.yu hv.1 hv.2;have a:=wO (Dc.aJ (Dc.aO (Dw.Wv i.op i.rd i.r1 i.r2 i.im))) (Dw.Wv i.op i.rd i.r1 i.r2 i.im);have b:=MC (Dc.aJ (Dc.aO (Dw.Wv i.op i.rd i.r1 i.r2 i.im))) (Dw.Wv i.op i.rd i.r1 i.r2 i.im);have c:=ME (Dc.aJ (Dc.aO (Dw.Wv i.op i.rd i.r1 i.r2 i.im))) (Dw.Wv i.op i.rd i.r1 i.r2 i.im);rw[h2]at a;rw[h3]at b;rw[h4]at c;have hne:¬Dc.aO (Dw.Wv i.op i.rd i.r1 i.r2 i.im)=0:=by unfold Dw.fZ at h0;simpa using h0
 rw[h1]at hb hne;exact⟨by omega,hb.2,a.1,a.2,b.1,b.2,c.1,c.2⟩
theorem TV (T:Dw.nK w):∀W:World,Gr w W->Dw.nK W:=fun W G=>⟨fun i v e=>(G.cell _ (by exact Dw.lt_of_cell (T.shapes i v e))).trans (T.shapes i v e),fun i v e=>(G.cell _ (by exact Dw.lt_of_cell (T.uppers i v e))).trans (T.uppers i v e)⟩
theorem JB (pc:Int)(sc:Nat)(I:Is w sa sn is)(T:Dw.nK w)(h:sn<=16):Calls prog 139 #[.agg #[.int .u32 pc,.slice sa sn sc]] w fun e w'=>∃b,e=.returned (.bool b)/\(b=true↔∀i∈is,i.Sound)/\Gr w w':=by
 have HI:Hid (∀W:World,Gr w W->_):=fun W G=>I.of G
 have HT:=kH (TV T);have HL:=kH I.len;have HK:=kH I.ok;go_enter func139,ntmps139;go_wp2_with fail;go_loopw [14] (fun i wr=>∃k:Nat,k<=sn/\i=.int .i64 k/\(∀j c,j<k->is[j]?=some c->c.Sound)/\Gr w wr) (fun i _=>sn-(intOf i).toNat)
 case atStart=>exact⟨0,apF _,rfl,fun j c hj=>absurd hj (by omega),(Gr.refl _).alloc _⟩
 case round=>
  obtain⟨k,hk,rfl,hall,G⟩:=hrel;have HA:=kH hall;have HG:=kH G;by_cases hlt:k<sn
  ·obtain⟨c,hc⟩:∃c,is[k]?=some c:=⟨_,api (by rw[HL.out];exact hlt)⟩;obtain⟨b,o,rfl,hb,hcell⟩:=(HI.out wr HG.out).spot (by omega);obtain⟨p0,p1,p2,p3,p4⟩:=hcell k c hc;have hmem:=aps hc;have ok:=HK.out c hmem;have hi:=ok.im;by_cases hs:c.Sound
   ·have E:Hid (∀W:World,Gr w W->Calls prog 31 #[.agg #[.int .i64 c.op,.int .i64 c.rd,.int .i64 c.r1,.int .i64 c.r2,.int .i32 c.im]] W fun e w'=>∃v,e=.returned (.tuple #[.int .u32 v,.int .i64 0])/\Gr W w'):=fun W G=>(Dw.uH c.op c.rd c.r1 c.r2 c.im W (HT.out W G) hi.1 (by omega) hs).mono fun e w' ⟨h1,h2⟩=>⟨_,h1,h2.1⟩
    have HN:Hid (∀j c,j<k+1->is[j]?=some c->c.Sound):=fun j d hj hd=>by
     by_cases e:j=k
     ·subst e;rw[hc]at hd;injection hd with hd;subst hd;exact hs
     ·exact HA.out j d (by omega) hd
    obtain⟨op,rd,r1,r2,im⟩:=c;simp only at *
    go_wp2_with fail;refine(E.out _ (by repeat (first|exact HG.out|refine Gr.alloc ?_ _))).mono ?_;rintro e w1 ⟨v,rfl,G1⟩;have aU:Hid (Gr w w1):=Gr.trans (by repeat (first|exact HG.out|refine Gr.alloc ?_ _)) G1;go_wp2_with fail;go_roundw
    case rel=>exact⟨k+1,by omega,by go_num,HN.out,aU.out⟩
    case measure=>simp[intOf];omega
   ·have E:Hid (∀W:World,Gr w W->Calls prog 31 #[.agg #[.int .i64 c.op,.int .i64 c.rd,.int .i64 c.r1,.int .i64 c.r2,.int .i32 c.im]] W fun e w'=>e=.returned (.tuple #[.int .u32 0,.int .i64 2])/\Gr W w'):=fun W G=>(Dw.JA c.op c.rd c.r1 c.r2 c.im W (HT.out W G) hi.1 (by omega) hs).mono fun e w' ⟨h1,h2⟩=>⟨h1,h2.1⟩
    have HN:Hid (¬∀i∈is,_):=fun q=>hs (q c hmem)
    obtain⟨op,rd,r1,r2,im⟩:=c;simp only at *
    go_wp2_with fail;refine(E.out _ (by repeat (first|exact HG.out|refine Gr.alloc ?_ _))).mono ?_;rintro e w1 ⟨rfl,G1⟩;have aU:Hid (Gr w w1):=Gr.trans (by repeat (first|exact HG.out|refine Gr.alloc ?_ _)) G1;go_wp2_with fail;go_ret;exact⟨false,rfl,⟨fun q=>(by cases q),fun q=>absurd q HN.out⟩,aU.out⟩
  ·have ek:k=sn:=by omega
   have HN:Hid (∀i∈is,i.Sound):=fun i hm=>by
    obtain⟨j,hj⟩:=aqe.1 hm;have:j<is.length:=(apj.1 hj).1;exact HA.out j i (by rw[HL.out]at this;omega) hj
   go_wp2_with fail;go_ret;exact⟨true,rfl,⟨fun _=>HN.out,fun _=>rfl⟩,HG.out⟩
theorem qY {base e sz n:Nat}{O:Value}{xs:List Value}(hO:w.ownsRow base e sz O n xs)(q:w.grownBy w' O.ownBlock){t:Nat}(ht:t≠e){o:Array Value}{f:Nat×Nat}(hk:w.heap[k]?=some (.cells o t f)):w'.heap[k]?=some (.cells o t f):=
 (q.block k (gs hk).1 (fun h=>by
  rcases hO.2 with⟨h0,_⟩|⟨g',cap,cur,hv,_,hg,_⟩
  ·rw[h0]at h;cases h
  ·rw[hv]at h;injection h with h;exact aa hk hg ht h)).trans hk
theorem cu (g:Gr w w'){x:Obj}(h:w.heap[k]?=some x):w'.heap[k]?=some x:=by rw[au1 g k (gs h).1];exact h
theorem adz:(prog.info? 235).map (fun i=>(i.zero,i.size,i.bytes))=some (some (.agg #[.int .i64 0,.int .i64 0,.int .i64 0,.int .i64 0,.int .u32 0]),5,40):=by kernel_rfl
theorem NQ (x0 x1 x2 x3 x4:Int):∀u∈([.int .i64 x0,.int .i64 x1,.int .i64 x2,.int .i64 x3,.int .u32 x4]:List Value),u.oneCell'=true:=by intro u hu;simp only[apx,apB,auw]at hu;rcases hu with rfl|rfl|rfl|rfl|rfl<;>rfl
theorem je {α:Type}{l:List α}{c:α}(h:l[k]?=some c):l.take (k+1)=l.take k++[c]:=by obtain⟨hk,rfl⟩:=apj.1 h;rw[List.take_succ_eq_append_getElem hk]
theorem TW {w:World}(pc:Int){sa:Option Addr}{sn:Nat}(sc:Nat){is:List Iv}(I:Is w sa sn is)(T:Dw.nK w)(Q:Tq w)(h:sn<=16)(hs:∀i∈is,i.Sound):Calls prog 110 #[.agg #[.int .u32 pc,.slice sa sn sc]] w fun e w'=>∃ca cn cc,e=.returned (.slice ca cn cc)/\Ct w' ca cn (aS pc is 0)/\Gr w w':=by
 have HI:Hid (∀W:World,Gr w W->Is W sa sn is):=fun W G=>I.of G
 have HL:Hid (is.length=sn):=I.len;have HS:Hid (∀W:World,Gr w W->Calls prog 139 #[.agg #[.int .u32 pc,.slice sa sn sc]] W fun e w'=>e=.returned (.bool true)/\Gr W w'):=fun W G=>(JB pc sc (I.of G) (TV T W G) h).mono fun e w' ⟨b,h1,h2,h3⟩=>⟨by rw[h1,h2.2 hs],h3⟩
 have HM:Hid (∀(k:Nat) (c:Iv),is[k]?=some c->∀W:World,Gr w W->Calls prog 140 #[.agg #[.int .i64 c.op,.int .i64 c.rd,.int .i64 c.r1,.int .i64 c.r2,.int .i32 c.im],.int .u32 ((pc+4*(k:Int))%4294967296)] W fun e w'=>∃v,e=.returned v/\Sr w' v (CG (at4 pc k) c).length 5 (r9 (CG (at4 pc k) c))/\Gr W w'):=fun k c hc W G=>NP (a:=at4 pc k) (hs c (aps hc)).fits W (Q.of G)
 have HF:Hid (∀k,(aS pc (is.take k) 0).length<=4*k):=fun k=>by
  have:=(ji pc (is.take k) 0 (fun i hi=>(hs i (aq7 hi)).fits)).2;have hl:(is.take k).length<=k:=by rw[ap5];omega
  omega
 have HFm:Hid (∀(k:Nat) (c:Iv),is[k]?=some c->(CG (at4 pc k) c).length<=3):=fun k c hc=>(FT (hs c (aps hc)).fits).2
 have HE:=kH ((ji pc is 0 (fun i hi=>(hs i hi).fits)).1);have HC:Hid (∀(k:Nat) (c:Iv),is[k]?=some c->aS pc (is.take (k+1)) 0=aS pc (is.take k) 0++(⟨1,0,0,0,at4 pc k⟩::CG (at4 pc k) c)):=fun k c hc=>by
  have hk:=(apj.1 hc).1;rw[je hc,uh,apu,ap5,arA (by omega)]
 have HZ:Hid (aS pc (is.take sn) 0=aS pc is 0):=by rw[Hid,<-HL.out,ap9]
 obtain⟨i0,hi,hz0,hz1,hz2⟩:=auz adz;go_enter func110,ntmps110;go_wp2_with fail;refine(HS.out _ ((Gr.refl _).alloc _)).mono ?_;rintro e w1 ⟨rfl,G1⟩;have HB1:=kH (cu G1 (at5 w _));have aU:=kH (((Gr.refl _).alloc _).trans G1);have q1:w1.cell? ⟨w.heap.size,1,none⟩=some (.slice sa sn sc):=atZ _ _ _ _ _ _ HB1.out;go_wp2_with fail;go_loopw [13,3] (fun i cd wr=>∃(k:Nat) (a:Option Addr) (c:Nat),k<=sn/\i=.int .i64 k/\cd=.slice a (aS pc (is.take k) 0).length c/\wr.ownsRow (w.heap.size+1) 235 5 (.slice a (aS pc (is.take k) 0).length c) (aS pc (is.take k) 0).length (r9 (aS pc (is.take k) 0))/\wr.heap[w.heap.size]?=some (.cells #[.int .u32 pc,.slice sa sn sc] 64 (0,0))/\Gr w wr) (fun i _ _=>sn-(intOf i).toNat)
 case atStart=>exact⟨0,none,0,apF _,rfl,rfl,aur _ _ _ _,HB1.out,aU.out⟩
 case round=>
  obtain⟨k,a,c0,hk,rfl,rfl,O,B,G⟩:=hrel;have HO:=kH O;have HB:=kH B;have HG:=kH G;have alk:=(apk.1 B).1;have hlen:=HF.out k;by_cases hlt:k<sn
  ·obtain⟨c,hc⟩:∃c,is[k]?=some c:=⟨_,api (by rw[HL.out];exact hlt)⟩;obtain⟨b,o,rfl,hb,hcell⟩:=(HI.out wr HG.out).spot (by omega);obtain⟨p0,p1,p2,p3,p4⟩:=hcell k c hc;have HM1:Hid _:=HM.out k c hc;have hm3:=HFm.out k c hc;have HCk:Hid _:=HC.out k c hc;generalize aS pc (is.take k) 0=cv at *
   generalize CG (at4 pc k) c=md at *
   obtain⟨op,rd,r1,r2,im⟩:=c;simp only at *
   have Jq:=kH HM1;have adA:=kH HCk;have q0:wr.cell? ⟨w.heap.size,0,none⟩=some (.int .u32 pc):=atZ _ _ _ _ _ _ HB.out;have CJ:Hid ((aS pc (is.take (k+1)) 0).length=cv.length+1+md.length):=by rw[Hid,adA.out];simp;omega
   have HV1:Hid (r9 (aS pc (is.take (k+1)) 0)=(r9 cv++[.int .i64 1,.int .i64 0,.int .i64 0,.int .i64 0,.int .u32 ((pc+4*(k:Int))%4294967296)])++r9 md):=by rw[Hid,adA.out,TD];simp[r9,vN,at4,Wd.lo]
   have HK:=kH hlt;generalize hcn:cv.length=cn at *
   go_wp2_with (at_builtin;refine kC rfl (.tmp 24) (.tmp 27) rfl underlying177 hi hz0 hz1 hz2 rfl (by decide) (base:=w.heap.size+1) (n:=cn) (m:=1) (v:=.slice a cn c0) (vx:=.slice (some ⟨wr.heap.size+1,0,none⟩) 1 1) (olds:=r9 cv) (news:=[.int .i64 1,.int .i64 0,.int .i64 0,.int .i64 0,.int .u32 ((pc+4*(k:Int))%4294967296)]) rfl rfl (aC HO.out (by repeat (first|exact Gr.refl wr|refine Gr.alloc ?_ _))) (Sr.at_ (by simp) #[.int .i64 1,.int .i64 0,.int .i64 0,.int .i64 0,.int .u32 ((pc+4*(k:Int))%4294967296)] 235 1 1 rfl) (NQ _ _ _ _ _) (by unfold maxLen;omega) (by omega) (by simp;omega) ?_;intro v' w2 hown hgrow;obtain⟨a',c',rfl⟩:=qR hown;have kY:Hid (w2.ownsRow (w.heap.size+1) 235 5 (.slice a' (cn+1) c') (cn+1) (r9 cv++[.int .i64 1,.int .i64 0,.int .i64 0,.int .i64 0,.int .u32 ((pc+4*(k:Int))%4294967296)])):=hown;have HG2:Hid (Gr w w2):=Gr.grown (HG.out.trans (by repeat (first|exact Gr.refl wr|refine Gr.alloc ?_ _))) hgrow (fun b e=>by have:=(HO.out.lt b e).1;omega);have HB2:Hid (w2.heap[w.heap.size]?=some (.cells #[.int .u32 pc,.slice (some ⟨b,o,none⟩) sn sc] 64 (0,0))):=qY (aC HO.out (by repeat (first|exact Gr.refl wr|refine Gr.alloc ?_ _))) hgrow (by decide) (cu (by repeat (first|exact Gr.refl wr|refine Gr.alloc ?_ _)) HB.out);have HJ2:Hid (w2.heap[wr.heap.size]?=some (.cells #[.int .i64 op,.int .i64 rd,.int .i64 r1,.int .i64 r2,.int .i32 im] 59 (0,0))):=qY (aC HO.out (by repeat (first|exact Gr.refl wr|refine Gr.alloc ?_ _))) hgrow (by decide) (auR wr _ _);have r0:w2.cell? ⟨wr.heap.size,0,none⟩=some (.int .i64 op):=atZ _ _ _ _ _ _ HJ2.out;have r1':w2.cell? ⟨wr.heap.size,1,none⟩=some (.int .i64 rd):=atZ _ _ _ _ _ _ HJ2.out;have r2':w2.cell? ⟨wr.heap.size,2,none⟩=some (.int .i64 r1):=atZ _ _ _ _ _ _ HJ2.out;have r3':w2.cell? ⟨wr.heap.size,3,none⟩=some (.int .i64 r2):=atZ _ _ _ _ _ _ HJ2.out;have r4':w2.cell? ⟨wr.heap.size,4,none⟩=some (.int .i32 im):=atZ _ _ _ _ _ _ HJ2.out;clear hown hgrow);refine(Jq.out _ HG2.out).mono ?_;rintro e w3 ⟨v,rfl,S3,G3⟩;have HS3:=kH S3;have fQ:=kH G3;have hb3:w.heap.size+1<=w3.heap.size:=by have:=(apk.1 HB2.out).1;have:=G3.size;omega
   generalize md.length=mn at *
   go_wp2_with (at_builtin;refine kC rfl (.tmp 29) (.tmp 32) rfl underlying177 hi hz0 hz1 hz2 rfl (by decide) (base:=w.heap.size+1) (n:=cn+1) (m:=mn) (v:=.slice a' (cn+1) c') (vx:=v) (olds:=r9 cv++[.int .i64 1,.int .i64 0,.int .i64 0,.int .i64 0,.int .u32 ((pc+4*(k:Int))%4294967296)]) (news:=r9 md) rfl rfl (aC kY.out fQ.out) HS3.out (TE _) (by unfold maxLen;omega) (by omega) hb3 ?_;intro v'' w4 hown hgrow;obtain⟨a'',c'',rfl⟩:=qR hown;have Zn:Hid (w4.ownsRow (w.heap.size+1) 235 5 (.slice a'' (cn+1+mn) c'') (cn+1+mn) ((r9 cv++[.int .i64 1,.int .i64 0,.int .i64 0,.int .i64 0,.int .u32 ((pc+4*(k:Int))%4294967296)])++r9 md)):=hown;have fC:Hid (Gr w w4):=Gr.grown (HG2.out.trans fQ.out) hgrow (fun b e=>by have:=(kY.out.lt b e).1;omega);have sj:Hid (w4.heap[w.heap.size]?=some (.cells #[.int .u32 pc,.slice (some ⟨b,o,none⟩) sn sc] 64 (0,0))):=qY (aC kY.out fQ.out) hgrow (by decide) (cu fQ.out HB2.out);clear hown hgrow);go_roundw
   case rel=>exact⟨k+1,a'',c'',by have:=HK.out;omega,by go_num,by rw[CJ.out],by rw[CJ.out,HV1.out];exact Zn.out,sj.out,fC.out⟩
   case measure=>simp[intOf];have:=HK.out;omega
  ·have ek:k=sn:=by omega
   subst ek;have HOE:Hid (wr.ownsRow (w.heap.size+1) 235 5 (.slice a (aS pc is 0).length c0) (aS pc is 0).length (r9 (aS pc is 0))):=by have:=HO.out;rwa[HZ.out]at this
   have HZ2:Hid ((aS pc (is.take k) 0).length=(aS pc is 0).length):=by rw[Hid,HZ.out]
   generalize(aS pc (is.take k) 0).length=cn at *
   go_wp2_with fail;go_ret;have e:=HZ2.out;subst e;obtain⟨ca,cc,hv,C⟩:=Zb HOE.out (fun i hi=>(HE.out i hi).2.1) (fun i hi=>by have:=(HE.out i hi).2.2;omega);injection hv with hv1 _ hv2;subst hv1 hv2;exact⟨_,_,_,rfl,C,HG.out⟩
end Ts
namespace Dw
open Re

variable {k v l m u rd bL bT :Int}
theorem tmod_zero (n k:Int):n.tmod k=0↔n%k=0:=by rw[<-Int.dvd_iff_tmod_eq_zero,<-Int.dvd_iff_emod_eq_zero]
abbrev TB (k:Int):Prop:=Dc.bK k=Dc.bK k%128+Dc.bK k/4096%8*4096+Dc.bK k/33554432*33554432/\0<=Dc.bK k/\Dc.bK k<4294967296/\
 (Dc.aJ k=8->Dc.bK k/33554432%4=0)/\(Dc.aJ k=1\/Dc.aJ k=2\/Dc.aJ k=3\/Dc.aJ k=5\/Dc.aJ k=6->Dc.bK k/33554432=0)/\(Dc.aJ k=1\/Dc.aJ k=2->Dc.bK k/4096%8=0)
theorem Zo:∀n:Fin 58,1<=n.val->TB (n.val:Int):=by decide +kernel
theorem tb (h1:1<=k)(h2:k<=57):TB k:=by have:=Zo ⟨k.toNat,by omega⟩ (by simp;omega);rwa[show((⟨k.toNat,by omega⟩:Fin 58).val:Int)=k by simp;omega]at this
theorem canon {a b c:Int}(hv:v=l+a*128+m*4096+b*32768+c*1048576+u*33554432)(l0:0≤l)(l1:l<128)(a0:0≤a)(a1:a<32)(m0:0≤m)(m1:m<8)(b0:0<=b)(b1:b<32)(c0:0<=c)(c1:c<32):v%128=l/\v/128%32=a/\v/4096%8=m/\v/32768%32=b/\v/1048576%32=c/\v/33554432=u/\v/1048576=c+u*32/\v/4096=m+b*8+c*256+u*8192/\v/128=a+(m+b*8+c*256+u*8192)*32/\v/32768=b+c*32+u*1024:=by
 have e5:v/33554432=u:=by omega
 have e4:v/1048576=c+u*32:=by omega
 have e3:v/32768=b+c*32+u*1024:=by omega
 have e2:v/4096=m+b*8+c*256+u*8192:=by omega
 have e1:v/128=a+(m+b*8+c*256+u*8192)*32:=by omega
 refine⟨by omega,by rw[e1];omega,by rw[e2];omega,by rw[e3];omega,by rw[e4];omega,e5,e4,e2,e1,e3⟩
theorem NS {T:Int}(hT:T=l+m*4096+u*33554432)(l0:0<=l)(l1:l<128)(m0:0<=m)(m1:m<8)(u0:0<=u)(u1:u<128)(a1:0<=rd)(a2:rd<=31)(b1:0<=bL)(b2:bL<=31)(c1:0<=bT)(c2:bT<=31):bits .or .u32 T (bits .or .u32 (bits .or .u32 (rd%4294967296*128%4294967296) (bL%4294967296*32768%4294967296)) (bT%4294967296*1048576%4294967296))=l+rd*128+m*4096+bL*32768+bT*1048576+u*33554432:=by
 rw[show rd%4294967296*128%4294967296=rd*2^7 by omega,show bL%4294967296*32768%4294967296=bL*2^15 by omega,show bT%4294967296*1048576%4294967296=bT*2^20 by omega];have s1:Wd.rW (rd*2^7) (bL*2^15)=rd*2^7+bL*2^15:=iX _ _ 15 5 (by omega) b1 (by omega) (by omega);have s2:Wd.rW (rd*2^7+bL*2^15) (bT*2^20)=rd*2^7+bL*2^15+bT*2^20:=iX _ _ 20 5 (by omega) c1 (by omega) (by omega);rw[cO (rd*2^7) (bL*2^15) (by omega) (by omega) (by omega) (by omega),s1,cO _ (bT*2^20) (by omega) (by omega) (by omega) (by omega),s2,
  cO T _ (by omega) (by omega) (by omega) (by omega),<-s2,<-s1,<-qN,<-qN]
 have z1:T/2^7=m*32+u*262144:=by omega
 rw[iX T rd 7 5 (by omega) a1 (by rw[z1];omega) (by omega)];have z2:(T+rd*2^7)/2^15=u*1024:=by omega
 rw[iX _ bL 15 5 (by omega) b1 (by rw[z2];omega) (by omega)];have z3:(T+rd*2^7+bL*2^15)/2^20=u*32:=by omega
 rw[iX _ bT 20 5 (by omega) c1 (by rw[z3];omega) (by omega)];omega
theorem ig {op jw f:Int}(h0:0≤v)(h1:v<4294967296)(o1:1≤op)(o2:op≤59)(hf:Dc.aJ op=f)(ht:Dc.part f v=Dc.bK op)(hl:op=46→v/1048576%32=0)(e1:Dc.iF f v=rd)(e2:Dc.bZ f v=bL)(e3:Dc.bV f v=bT)(e4:Dc.bS f v=jw):Same op rd bL bT jw v:=by
 have hr:=Dc.zY h0 h1 o1 o2 (by rw[hf];exact ht);have hd:Dc.aO v=op:=by unfold Dc.aO;rw[hr,ak]
 refine⟨by unfold fZ;rw[hd];simp;omega,hd,by rw[hd,hf];exact e1,by rw[hd,hf];exact e2,by rw[hd,hf];exact e3,by rw[hd,hf];exact e4⟩
end Dw
namespace Dw
open Re

variable {op rd bL bT n p q :Int}
theorem or_zero (n:Int)(h0:0<=n)(h1:n<4294967296):bits .or .u32 n 0=n:=(YM n 0 0 h0 (by omega) (by omega) (by omega) (by omega)).trans (by omega)
theorem kS {jw l m u:Int}(hT:Dc.bK op=l+m*4096+u*33554432)(l0:0≤l)(l1:l<128)(m0:0≤m)(m1:m<8)(u0:0≤u)(u1:u<128)(a1:0<=rd)(a2:rd<=31)(b1:0<=bL)(b2:bL<=31)(c1:0<=bT)(c2:bT<=31):Wv op rd bL bT jw=bits .or .u32 (l+rd*128+m*4096+bL*32768+bT*1048576+u*33554432) (wI (Dc.aJ op) (jw%4294967296)):=by unfold Wv;rw[NS hT l0 l1 m0 m1 u0 u1 a1 a2 b1 b2 c1 c2]
theorem jq (h1:1<=op)(h2:op<=57):∃l m u,Dc.bK op=l+m*4096+u*33554432/\0<=l/\l<128/\0<=m/\m<8/\0<=u/\u<128/\(Dc.aJ op=8->u%4=0)/\ (Dc.aJ op=1\/Dc.aJ op=2\/Dc.aJ op=3\/Dc.aJ op=5\/Dc.aJ op=6->u=0)/\(Dc.aJ op=1\/Dc.aJ op=2->m=0):=by obtain⟨t1,t2,t3,t4,t5,t6⟩:=tb h1 h2;exact⟨_,_,_,t1,by omega,by omega,by omega,by omega,by omega,by omega,t4,t5,t6⟩
theorem Zp (o1:1<=op)(o2:op<=57)(hf:Dc.aJ op=1)(a1:0<=rd)(a2:rd<=31)(n0 : -2147483648<=n)(n1:n<2147483648)(hn:n%4096=0):Same op rd 0 0 n (Wv op rd 0 0 n):=by
 obtain⟨l,m,u,hT,l0,l1,m0,m1,u0,u1,t8,tu,tm⟩:=jq o1 o2;have hu:=tu (Or.inl hf);have hm:=tm (Or.inl hf);have hb:=nN op rd 0 0 n;rw[kS hT l0 l1 m0 m1 u0 u1 a1 a2 (by omega) (by omega) (by omega) (by omega),hf]at hb ⊢;have hD:wI 1 (n%4294967296)=n%4294967296/4096%1048576*2^12:=rfl;have hV:bits .or .u32 (l+rd*128+m*4096+0*32768+0*1048576+u*33554432) (wI 1 (n%4294967296))=l+rd*128+n%4294967296/4096%1048576*4096:=by
  rw[hD,oz _ _ 12 20 (by omega) (by omega) (by omega) (by omega) (by omega) (by omega) (by omega)];omega
 rw[hV]at hb ⊢;generalize hv:l+rd*128+n%4294967296/4096%1048576*4096=v at *
 refine ig hb.1 hb.2 o1 (by omega) hf (show v%128=_ by omega) (fun h=>absurd hf (by rw[h];decide)) (show v/128%32=rd by omega) rfl rfl ?_;show Wd.sg v-v%4096=n
 unfold Wd.sg;split<;>omega
theorem Zq (o1:1<=op)(o2:op<=57)(hf:Dc.aJ op=2)(a1:0<=rd)(a2:rd<=31)(n0 : -1048576<=n)(n1:n<=1048574)(hn:n%2=0):Same op rd 0 0 n (Wv op rd 0 0 n):=by
 obtain⟨l,m,u,hT,l0,l1,m0,m1,u0,u1,t8,tu,tm⟩:=jq o1 o2;have hu:=tu (Or.inr (Or.inl hf));have hm:=tm (Or.inr hf);have hb:=nN op rd 0 0 n;rw[kS hT l0 l1 m0 m1 u0 u1 a1 a2 (by omega) (by omega) (by omega) (by omega),hf]at hb ⊢;have hD:wI 2 (n%4294967296)=n%4294967296/1048576%2*2147483648+n%4294967296/4096%256*4096+n%4294967296/2048%2*1048576+n%4294967296/2%1024*2097152:=rfl;have hN:Dc.iT 1048576 (n%4294967296/1048576%2*1048576+n%4294967296/4096%256*4096+n%4294967296/2048%2*2048+n%4294967296/2%1024*2)=n:=by
  unfold Dc.iT;split<;>omega
 have x0:0<=n%4294967296/1048576%2/\n%4294967296/1048576%2<2:=by omega
 have y0:0<=n%4294967296/4096%256/\n%4294967296/4096%256<256:=by omega
 have z0:0<=n%4294967296/2048%2/\n%4294967296/2048%2<2:=by omega
 have s0:0<=n%4294967296/2%1024/\n%4294967296/2%1024<1024:=by omega
 rw[hD]at hb ⊢;generalize n%4294967296/1048576%2=x at *
 generalize n%4294967296/4096%256=y at *
 generalize n%4294967296/2048%2=z at *
 generalize n%4294967296/2%1024=s at *
 have hV:bits .or .u32 (l+rd*128+m*4096+0*32768+0*1048576+u*33554432) (x*2147483648+y*4096+z*1048576+s*2097152)=l+rd*128+y*4096+z*1048576+s*2097152+x*2147483648:=by
  rw[show x*2147483648+y*4096+z*1048576+s*2097152=(x*524288+y+z*256+s*512)*2^12 by omega,oz _ _ 12 20 (by omega) (by omega) (by omega) (by omega) (by omega) (by omega) (by omega)];omega
 rw[hV]at hb ⊢;generalize hv:l+rd*128+y*4096+z*1048576+s*2097152+x*2147483648=v at *
 have q1:v/2147483648=x:=by omega
 have q2:v/2097152=s+x*1024:=by omega
 have q3:v/1048576=z+s*2+x*2048:=by omega
 have q4:v/4096=y+z*256+s*512+x*524288:=by omega
 have q5:v/128=rd+(y+z*256+s*512+x*524288)*32:=by omega
 refine ig hb.1 hb.2 o1 (by omega) hf (show v%128=_ by omega) (fun h=>absurd hf (by rw[h];decide)) (show v/128%32=rd by rw[q5];omega) rfl rfl ?_;show Dc.iT 1048576 (v/2147483648*1048576+v/4096%256*4096+v/1048576%2*2048+v/2097152%1024*2)=n
 rw[q1,q2,q3,q4,show(y+z*256+s*512+x*524288)%256=y by omega,show(z+s*2+x*2048)%2=z by omega,show(s+x*1024)%1024=s by omega];exact hN
theorem yU (o1:1<=op)(o2:op<=57)(hf:Dc.aJ op=3)(a1:0<=rd)(a2:rd<=31)(b1:0<=bL)(b2:bL<=31)(n0 : -2048<=n)(n1:n<=2047):Same op rd bL 0 n (Wv op rd bL 0 n):=by
 obtain⟨l,m,u,hT,l0,l1,m0,m1,u0,u1,t8,tu,tm⟩:=jq o1 o2;have hu:=tu (Or.inr (Or.inr (Or.inl hf)));have hb:=nN op rd bL 0 n;rw[kS hT l0 l1 m0 m1 u0 u1 a1 a2 b1 b2 (by omega) (by omega),hf]at hb ⊢;have hD:wI 3 (n%4294967296)=n%4294967296%4096*2^20:=rfl;have hV:bits .or .u32 (l+rd*128+m*4096+bL*32768+0*1048576+u*33554432) (wI 3 (n%4294967296))=l+rd*128+m*4096+bL*32768+n%4294967296%4096*1048576:=by
  rw[hD,oz _ _ 20 12 (by omega) (by omega) (by omega) (by omega) (by omega) (by omega) (by omega)];omega
 rw[hV]at hb ⊢;have hN:Dc.iT 2048 (n%4294967296%4096)=n:=by unfold Dc.iT;split<;>omega
 have e0:0<=n%4294967296%4096/\n%4294967296%4096<4096:=by omega
 generalize n%4294967296%4096=e at *
 generalize hv:l+rd*128+m*4096+bL*32768+e*1048576=v at *
 obtain⟨v1,v2,v3,v4,v5,v6,v7,_,_,_⟩:=canon (v:=v) (l:=l) (a:=rd) (m:=m) (b:=bL) (c:=e%32) (u:=e/32) (by omega) l0 l1 a1 (by omega) m0 m1 b1 (by omega) (by omega) (by omega);refine ig hb.1 hb.2 o1 (by omega) hf (show v%128+v/4096%8*4096=_ by rw[v1,v3];omega) (fun h=>absurd hf (by rw[h];decide)) v2 v4 rfl ?_;show Dc.iT 2048 (v/1048576)=n
 rw[v7,show e%32+e/32*32=e by omega];exact hN
theorem Zr (o1:1<=op)(o2:op<=57)(hf:Dc.aJ op=4)(a1:0<=rd)(a2:rd<=31)(b1:0<=bL)(b2:bL<=31)(n0:0<=n)(n1:n<=31):Same op rd bL 0 n (Wv op rd bL 0 n):=by
 obtain⟨l,m,u,hT,l0,l1,m0,m1,u0,u1,t8,tu,tm⟩:=jq o1 o2;have hb:=nN op rd bL 0 n;rw[kS hT l0 l1 m0 m1 u0 u1 a1 a2 b1 b2 (by omega) (by omega),hf]at hb ⊢;have hD:wI 4 (n%4294967296)=n*2^20:=by show n%4294967296%32*1048576=_;omega
 have hz:(l+rd*128+m*4096+bL*32768+0*1048576+u*33554432)/2^20=u*32:=by omega
 have hV:bits .or .u32 (l+rd*128+m*4096+bL*32768+0*1048576+u*33554432) (wI 4 (n%4294967296))=l+rd*128+m*4096+bL*32768+n*1048576+u*33554432:=by
  rw[hD,oz _ _ 20 5 (by omega) (by omega) (by rw[hz];omega) (by omega) (by omega) (by omega) (by omega)];omega
 rw[hV]at hb ⊢;generalize hv:l+rd*128+m*4096+bL*32768+n*1048576+u*33554432=v at *
 obtain⟨v1,v2,v3,v4,v5,v6,v7,_,_,_⟩:=canon hv.symm l0 l1 a1 (by omega) m0 m1 b1 (by omega) n0 (by omega);exact ig hb.1 hb.2 o1 (by omega) hf (show v%128+v/4096%8*4096+v/33554432*33554432=_ by rw[v1,v3,v6];omega) (fun h=>absurd hf (by rw[h];decide)) v2 v4 rfl v5
theorem TY {S:Int}(s0:0<=S)(s1:S<33554432)(sz:S/128%32=0)(p0:0<=p)(p1:p<32)(q0:0<=q)(q1:q<128):bits .or .u32 S (p*128+q*33554432)=S+p*128+q*33554432:=by
 rw[cO S _ s0 (by omega) (by omega) (by omega),show p*128+q*33554432=p*2^7+q*2^25 by omega,<-iX (p*2^7) q 25 7 (by omega) q0 (by omega) (by omega),<-qN,
  iX S p 7 5 s0 p0 sz (by omega),iX _ q 25 7 (by omega) q0 (by omega) (by omega)]
 omega
theorem Gg {f:Int}(o1:1≤op)(o2:op≤57)(hf:Dc.aJ op=f)(f56:f=5∨f=6)(b1:0≤bL)(b2:bL≤31)(c1:0≤bT)(c2:bT≤31)(p0:0<=p)(p1:p<32)(q0:0<=q)(q1:q<128)(hD:wI f (n%4294967296)=p*128+q*33554432)(hI:∀v:Int,v/33554432=q->v/128%32=p->Dc.bS f v=n):Same op 0 bL bT n (Wv op 0 bL bT n):=by
 obtain⟨l,m,u,hT,l0,l1,m0,m1,u0,u1,t8,tu,tm⟩:=jq o1 o2;have hu:=tu (by omega);have hb:=nN op 0 bL bT n;rw[kS hT l0 l1 m0 m1 u0 u1 (by omega) (by omega) b1 b2 c1 c2,hf]at hb ⊢;have hz:(l+0*128+m*4096+bL*32768+bT*1048576+u*33554432)/128=(m+bL*8+bT*256)*32:=by omega
 rw[hD,TY (by omega) (by omega) (by rw[hz];omega) p0 p1 q0 q1]at hb ⊢;generalize hv:l+0*128+m*4096+bL*32768+bT*1048576+u*33554432+p*128+q*33554432=v at *
 obtain⟨v1,v2,v3,v4,v5,v6,v7,_,_,_⟩:=canon (v:=v) (l:=l) (a:=p) (m:=m) (b:=bL) (c:=bT) (u:=q) (by omega) l0 l1 p0 p1 m0 m1 b1 (by omega) c1 (by omega);rcases f56 with rfl|rfl
 ·exact ig hb.1 hb.2 o1 (by omega) hf (show v%128+v/4096%8*4096=_ by rw[v1,v3];omega) (fun h=>absurd hf (by rw[h];decide)) rfl v4 v5 (hI v v6 v2)
 ·exact ig hb.1 hb.2 o1 (by omega) hf (show v%128+v/4096%8*4096=_ by rw[v1,v3];omega) (fun h=>absurd hf (by rw[h];decide)) rfl v4 v5 (hI v v6 v2)
theorem Zt (o1:1<=op)(o2:op<=57)(hf:Dc.aJ op=5)(b1:0<=bL)(b2:bL<=31)(c1:0<=bT)(c2:bT<=31)(n0 : -4096<=n)(n1:n<=4094)(hn:n%2=0):Same op 0 bL bT n (Wv op 0 bL bT n):=by
 have hN:Dc.iT 4096 (n%4294967296/4096%2*4096+n%4294967296/2048%2*2048+n%4294967296/32%64*32+n%4294967296/2%16*2)=n:=by
  unfold Dc.iT;split<;>omega
 have hD:wI 5 (n%4294967296)=n%4294967296/4096%2*2147483648+n%4294967296/2048%2*128+n%4294967296/32%64*33554432+n%4294967296/2%16*256:=rfl;have x0:0<=n%4294967296/4096%2/\n%4294967296/4096%2<2:=by omega
 have y0:0<=n%4294967296/2048%2/\n%4294967296/2048%2<2:=by omega
 have z0:0<=n%4294967296/32%64/\n%4294967296/32%64<64:=by omega
 have s0:0<=n%4294967296/2%16/\n%4294967296/2%16<16:=by omega
 refine Gg (p:=n%4294967296/2048%2+n%4294967296/2%16*2) (q:=n%4294967296/4096%2*64+n%4294967296/32%64) o1 o2 hf (Or.inl rfl) b1 b2 c1 c2 (by omega) (by omega) (by omega) (by omega) (by rw[hD];omega) ?_;intro v h1 h2;generalize n%4294967296/4096%2=x at *
 generalize n%4294967296/2048%2=y at *
 generalize n%4294967296/32%64=z at *
 generalize n%4294967296/2%16=s at *
 show Dc.iT 4096 (v/2147483648*4096+v/128%2*2048+v/33554432%64*32+v/256%16*2)=n
 rw[show v/2147483648=x by omega,h1,show(x*64+z)%64=z by omega,show v/128%2=y by omega,show v/256%16=s by omega];exact hN
theorem Zu (o1:1<=op)(o2:op<=57)(hf:Dc.aJ op=6)(b1:0<=bL)(b2:bL<=31)(c1:0<=bT)(c2:bT<=31)(n0 : -2048<=n)(n1:n<=2047):Same op 0 bL bT n (Wv op 0 bL bT n):=by
 have hN:Dc.iT 2048 (n%4294967296/32%128*32+n%4294967296%32)=n:=by unfold Dc.iT;split<;>omega
 have hD:wI 6 (n%4294967296)=n%4294967296/32%128*33554432+n%4294967296%32*128:=rfl;refine Gg (p:=n%4294967296%32) (q:=n%4294967296/32%128) o1 o2 hf (Or.inr rfl) b1 b2 c1 c2 (by omega) (by omega) (by omega) (by omega) (by rw[hD];omega) ?_;intro v h1 h2;show Dc.iT 2048 (v/33554432*32+v/128%32)=n
 rw[h1,h2];exact hN
theorem Zv (o1:1<=op)(o2:op<=57)(hf:Dc.aJ op=7)(a1:0<=rd)(a2:rd<=31)(b1:0<=bL)(b2:bL<=31)(c1:0<=bT)(c2:bT<=31):Same op rd bL bT 0 (Wv op rd bL bT 0):=by
 obtain⟨l,m,u,hT,l0,l1,m0,m1,u0,u1,t8,tu,tm⟩:=jq o1 o2;have hb:=nN op rd bL bT 0;rw[kS hT l0 l1 m0 m1 u0 u1 a1 a2 b1 b2 c1 c2,hf,show wI 7 (0%4294967296)=0 from rfl,or_zero _ (by omega) (by omega)]at hb ⊢;generalize hv:l+rd*128+m*4096+bL*32768+bT*1048576+u*33554432=v at *
 obtain⟨v1,v2,v3,v4,v5,v6,v7,_,_,_⟩:=canon hv.symm l0 l1 a1 (by omega) m0 m1 b1 (by omega) c1 (by omega);exact ig hb.1 hb.2 o1 (by omega) hf (show v%128+v/4096%8*4096+v/33554432*33554432=_ by rw[v1,v3,v6];omega) (fun h=>absurd hf (by rw[h];decide)) v2 v4 v5 rfl
theorem Zw (o1:1<=op)(o2:op<=57)(hf:Dc.aJ op=8)(a1:0<=rd)(a2:rd<=31)(b1:0<=bL)(b2:bL<=31)(c1:0<=bT)(c2:bT<=31)(n0:0<=n)(n1:n<=3)(h46:op=46->bT=0):Same op rd bL bT n (Wv op rd bL bT n):=by
 obtain⟨l,m,u,hT,l0,l1,m0,m1,u0,u1,t8,tu,tm⟩:=jq o1 o2;have hu:=t8 hf;have hb:=nN op rd bL bT n;rw[kS hT l0 l1 m0 m1 u0 u1 a1 a2 b1 b2 c1 c2,hf]at hb ⊢;have hD:wI 8 (n%4294967296)=n*2^25:=by show n%4294967296%4*33554432=_;omega
 have hz:(l+rd*128+m*4096+bL*32768+bT*1048576+u*33554432)/2^25=u:=by omega
 have hV:bits .or .u32 (l+rd*128+m*4096+bL*32768+bT*1048576+u*33554432) (wI 8 (n%4294967296))=l+rd*128+m*4096+bL*32768+bT*1048576+(u+n)*33554432:=by
  rw[hD,oz _ _ 25 2 (by omega) (by omega) (by rw[hz];omega) (by omega) (by omega) (by omega) (by omega)];omega
 rw[hV]at hb ⊢;generalize hv:l+rd*128+m*4096+bL*32768+bT*1048576+(u+n)*33554432=v at *
 obtain⟨v1,v2,v3,v4,v5,v6,v7,_,_,_⟩:=canon hv.symm l0 l1 a1 (by omega) m0 m1 b1 (by omega) c1 (by omega);have v8:v/134217728=u/4:=by omega
 exact ig hb.1 hb.2 o1 (by omega) hf (show v%128+v/4096%8*4096+v/134217728*134217728=_ by rw[v1,v3,v8];omega) (fun h=>by rw[v5];exact h46 h) v2 v4 v5 (show v/33554432%4=n by rw[v6];omega)
theorem Zx (o1:58<=op)(o2:op<=59):Same op 0 0 0 0 (Wv op 0 0 0 0):=by
 have h:op=58\/op=59:=by omega
 rcases h with rfl|rfl
 ·exact ig (f:=9) (v:=Wv 58 0 0 0 0) (by decide +kernel) (by decide +kernel) (by omega) (by omega) (by decide) (by decide +kernel) (fun h=>by omega) rfl rfl rfl rfl
 ·exact ig (f:=9) (v:=Wv 59 0 0 0 0) (by decide +kernel) (by decide +kernel) (by omega) (by omega) (by decide) (by decide +kernel) (fun h=>by omega) rfl rfl rfl rfl
theorem BB (h1:1<=op)(h2:op<=2):Dc.aJ op=1:=by unfold Dc.aJ;repeat (first|rw[dU]|rw[ak])
theorem BC (h1:3<=op)(h2:op<=3):Dc.aJ op=2:=by unfold Dc.aJ;repeat (first|rw[dU]|rw[ak])
theorem BF (h1:4<=op)(h2:op<=4):Dc.aJ op=3:=by unfold Dc.aJ;repeat (first|rw[dU]|rw[ak])
theorem BG (h1:5<=op)(h2:op<=10):Dc.aJ op=5:=by unfold Dc.aJ;repeat (first|rw[dU]|rw[ak])
theorem wY (h1:11<=op)(h2:op<=15):Dc.aJ op=3:=by unfold Dc.aJ;repeat (first|rw[dU]|rw[ak])
theorem wZ (h1:16<=op)(h2:op<=18):Dc.aJ op=6:=by unfold Dc.aJ;repeat (first|rw[dU]|rw[ak])
theorem xk (h1:19<=op)(h2:op<=24):Dc.aJ op=3:=by unfold Dc.aJ;repeat (first|rw[dU]|rw[ak])
theorem xq (h1:25<=op)(h2:op<=27):Dc.aJ op=4:=by unfold Dc.aJ;repeat (first|rw[dU]|rw[ak])
theorem xu (h1:28<=op)(h2:op<=45):Dc.aJ op=7:=by unfold Dc.aJ;repeat (first|rw[dU]|rw[ak])
theorem xw (h1:46<=op)(h2:op<=56):Dc.aJ op=8:=by unfold Dc.aJ;repeat (first|rw[dU]|rw[ak])
theorem xx (h1:57<=op)(h2:op<=57):Dc.aJ op=3:=by unfold Dc.aJ;repeat (first|rw[dU]|rw[ak])
theorem JC (h1:58<=op)(h2:op<=59):Dc.aJ op=9:=by unfold Dc.aJ;repeat (first|rw[dU]|rw[ak])
theorem uI (h:XI op rd bL bT n)(n0 : -2147483648<=n)(n1:n<2147483648):Same op rd bL bT n (Wv op rd bL bT n):=by
 obtain⟨⟨o1,o2,a1,a2,b1,b2,c1,c2⟩,h⟩:=h;rcases h with⟨p,q,r⟩|⟨p,q,r⟩|⟨p,q,r⟩|⟨p,q,r⟩|⟨p,q,r⟩|⟨p,q,r⟩|⟨p,q,r⟩|⟨p,q,r⟩|⟨p,q,r⟩|⟨p,q,r⟩|⟨p,q,r⟩|⟨p,q,r⟩
 ·obtain⟨rfl,rfl,r⟩:=r;exact Zp o1 (by omega) (BB p q) a1 a2 n0 n1 ((tmod_zero _ _).1 r)
 ·obtain⟨rfl,rfl,r1,r2,r⟩:=r;exact Zq o1 (by omega) (BC p q) a1 a2 r1 r2 ((tmod_zero _ _).1 r)
 ·obtain⟨rfl,r1,r2⟩:=r;exact yU o1 (by omega) (BF p q) a1 a2 b1 b2 r1 r2
 ·obtain⟨rfl,r1,r2,r⟩:=r;exact Zt o1 (by omega) (BG p q) b1 b2 c1 c2 r1 r2 ((tmod_zero _ _).1 r)
 ·obtain⟨rfl,r1,r2⟩:=r;exact yU o1 (by omega) (wY p q) a1 a2 b1 b2 r1 r2
 ·obtain⟨rfl,r1,r2⟩:=r;exact Zu o1 (by omega) (wZ p q) b1 b2 c1 c2 r1 r2
 ·obtain⟨rfl,r1,r2⟩:=r;exact yU o1 (by omega) (xk p q) a1 a2 b1 b2 r1 r2
 ·obtain⟨rfl,r1,r2⟩:=r;exact Zr o1 (by omega) (xq p q) a1 a2 b1 b2 r1 r2
 ·subst r;exact Zv o1 (by omega) (xu p q) a1 a2 b1 b2 c1 c2
 ·obtain⟨r1,r2,r⟩:=r;exact Zw o1 (by omega) (xw p q) a1 a2 b1 b2 c1 c2 r1 r2 (fun h=>by omega)
 ·obtain⟨rfl,r1,r2⟩:=r;exact yU o1 (by omega) (xx p q) a1 a2 b1 b2 r1 r2
 ·obtain⟨rfl,rfl,rfl,rfl⟩:=r;exact Zx p q
theorem uJ {v:Int}(h0:0<=v)(h1:v<4294967296)(h:Same op rd bL bT n v):XI op rd bL bT n:=by
 obtain⟨hok,e0,e1,e2,e3,e4⟩:=h;have hd:Dc.aO v≠0:=by simpa[fZ]using hok
 have hbd:0<=Dc.aO v/\Dc.aO v<=59:=by
  have:=Dc.kI h0 h1;unfold Dc.aO;split<;>omega
 have h46:op=46->v/1048576%32=0:=by
  intro h;rw[h]at e0;unfold Dc.aO at e0;split at e0
  ·omega
  ·rename_i hh;have:Dc.raw v=46:=e0;omega
 rw[e0]at hd hbd e1 e2 e3 e4;clear hok e0;by_cases u1:op<=2
 ·rw[BB (by omega) (by omega)]at e1 e2 e3 e4;have e1:v/128%32=rd:=e1;have e2:0=bL:=e2;have e3:0=bT:=e3;have e4:Wd.sg v-v%4096=n:=e4;exact⟨⟨by omega,by omega,by omega,by omega,by omega,by omega,by omega,by omega⟩,Or.inl ⟨by omega,by omega,⟨by omega,by omega,(tmod_zero _ _).2 (by unfold Wd.sg at e4;split at e4<;>omega)⟩⟩⟩
 by_cases u3:op<=3
 ·rw[BC (by omega) (by omega)]at e1 e2 e3 e4;have e1:v/128%32=rd:=e1;have e2:0=bL:=e2;have e3:0=bT:=e3;have e4:Dc.iT 1048576 (v/2147483648*1048576+v/4096%256*4096+v/1048576%2*2048+v/2097152%1024*2)=n:=e4;exact⟨⟨by omega,by omega,by omega,by omega,by omega,by omega,by omega,by omega⟩,Or.inr (Or.inl ⟨by omega,by omega,⟨by omega,by omega,by unfold Dc.iT at e4;split at e4<;>omega,by unfold Dc.iT at e4;split at e4<;>omega,(tmod_zero _ _).2 (by unfold Dc.iT at e4;split at e4<;>omega)⟩⟩)⟩
 by_cases u4:op<=4
 ·rw[BF (by omega) (by omega)]at e1 e2 e3 e4;have e1:v/128%32=rd:=e1;have e2:v/32768%32=bL:=e2;have e3:0=bT:=e3;have e4:Dc.iT 2048 (v/1048576)=n:=e4;exact⟨⟨by omega,by omega,by omega,by omega,by omega,by omega,by omega,by omega⟩,Or.inr (Or.inr (Or.inl ⟨by omega,by omega,⟨by omega,by unfold Dc.iT at e4;split at e4<;>omega,by unfold Dc.iT at e4;split at e4<;>omega⟩⟩))⟩
 by_cases u5:op<=10
 ·rw[BG (by omega) (by omega)]at e1 e2 e3 e4;have e1:0=rd:=e1;have e2:v/32768%32=bL:=e2;have e3:v/1048576%32=bT:=e3;have e4:Dc.iT 4096 (v/2147483648*4096+v/128%2*2048+v/33554432%64*32+v/256%16*2)=n:=e4;exact⟨⟨by omega,by omega,by omega,by omega,by omega,by omega,by omega,by omega⟩,Or.inr (Or.inr (Or.inr (Or.inl ⟨by omega,by omega,⟨by omega,by unfold Dc.iT at e4;split at e4<;>omega,by unfold Dc.iT at e4;split at e4<;>omega,(tmod_zero _ _).2 (by unfold Dc.iT at e4;split at e4<;>omega)⟩⟩)))⟩
 by_cases u11:op<=15
 ·rw[wY (by omega) (by omega)]at e1 e2 e3 e4;have e1:v/128%32=rd:=e1;have e2:v/32768%32=bL:=e2;have e3:0=bT:=e3;have e4:Dc.iT 2048 (v/1048576)=n:=e4;exact⟨⟨by omega,by omega,by omega,by omega,by omega,by omega,by omega,by omega⟩,Or.inr (Or.inr (Or.inr (Or.inr (Or.inl ⟨by omega,by omega,⟨by omega,by unfold Dc.iT at e4;split at e4<;>omega,by unfold Dc.iT at e4;split at e4<;>omega⟩⟩))))⟩
 by_cases u16:op<=18
 ·rw[wZ (by omega) (by omega)]at e1 e2 e3 e4;have e1:0=rd:=e1;have e2:v/32768%32=bL:=e2;have e3:v/1048576%32=bT:=e3;have e4:Dc.iT 2048 (v/33554432*32+v/128%32)=n:=e4;exact⟨⟨by omega,by omega,by omega,by omega,by omega,by omega,by omega,by omega⟩,Or.inr (Or.inr (Or.inr (Or.inr (Or.inr (Or.inl ⟨by omega,by omega,⟨by omega,by unfold Dc.iT at e4;split at e4<;>omega,by unfold Dc.iT at e4;split at e4<;>omega⟩⟩)))))⟩
 by_cases u19:op<=24
 ·rw[xk (by omega) (by omega)]at e1 e2 e3 e4;have e1:v/128%32=rd:=e1;have e2:v/32768%32=bL:=e2;have e3:0=bT:=e3;have e4:Dc.iT 2048 (v/1048576)=n:=e4;exact⟨⟨by omega,by omega,by omega,by omega,by omega,by omega,by omega,by omega⟩,Or.inr (Or.inr (Or.inr (Or.inr (Or.inr (Or.inr (Or.inl ⟨by omega,by omega,⟨by omega,by unfold Dc.iT at e4;split at e4<;>omega,by unfold Dc.iT at e4;split at e4<;>omega⟩⟩))))))⟩
 by_cases u25:op<=27
 ·rw[xq (by omega) (by omega)]at e1 e2 e3 e4;have e1:v/128%32=rd:=e1;have e2:v/32768%32=bL:=e2;have e3:0=bT:=e3;have e4:v/1048576%32=n:=e4;exact⟨⟨by omega,by omega,by omega,by omega,by omega,by omega,by omega,by omega⟩,Or.inr (Or.inr (Or.inr (Or.inr (Or.inr (Or.inr (Or.inr (Or.inl ⟨by omega,by omega,⟨by omega,by omega,by omega⟩⟩)))))))⟩
 by_cases u28:op<=45
 ·rw[xu (by omega) (by omega)]at e1 e2 e3 e4;have e1:v/128%32=rd:=e1;have e2:v/32768%32=bL:=e2;have e3:v/1048576%32=bT:=e3;have e4:0=n:=e4;exact⟨⟨by omega,by omega,by omega,by omega,by omega,by omega,by omega,by omega⟩,Or.inr (Or.inr (Or.inr (Or.inr (Or.inr (Or.inr (Or.inr (Or.inr (Or.inl ⟨by omega,by omega,e4.symm⟩))))))))⟩
 by_cases u46:op<=56
 ·rw[xw (by omega) (by omega)]at e1 e2 e3 e4;have e1:v/128%32=rd:=e1;have e2:v/32768%32=bL:=e2;have e3:v/1048576%32=bT:=e3;have e4:v/33554432%4=n:=e4;exact⟨⟨by omega,by omega,by omega,by omega,by omega,by omega,by omega,by omega⟩,Or.inr (Or.inr (Or.inr (Or.inr (Or.inr (Or.inr (Or.inr (Or.inr (Or.inr (Or.inl ⟨by omega,by omega,⟨by omega,by omega,by by_cases h:op=46;exact Or.inr (by have:=h46 h;omega);exact Or.inl h⟩⟩)))))))))⟩
 by_cases u57:op<=57
 ·rw[xx (by omega) (by omega)]at e1 e2 e3 e4;have e1:v/128%32=rd:=e1;have e2:v/32768%32=bL:=e2;have e3:0=bT:=e3;have e4:Dc.iT 2048 (v/1048576)=n:=e4;exact⟨⟨by omega,by omega,by omega,by omega,by omega,by omega,by omega,by omega⟩,Or.inr (Or.inr (Or.inr (Or.inr (Or.inr (Or.inr (Or.inr (Or.inr (Or.inr (Or.inr (Or.inl ⟨by omega,by omega,⟨by omega,by unfold Dc.iT at e4;split at e4<;>omega,by unfold Dc.iT at e4;split at e4<;>omega⟩⟩))))))))))⟩
 ·rw[JC (by omega) (by omega)]at e1 e2 e3 e4;have e1:0=rd:=e1;have e2:0=bL:=e2;have e3:0=bT:=e3;have e4:0=n:=e4;exact⟨⟨by omega,by omega,by omega,by omega,by omega,by omega,by omega,by omega⟩,Or.inr (Or.inr (Or.inr (Or.inr (Or.inr (Or.inr (Or.inr (Or.inr (Or.inr (Or.inr (Or.inr (⟨by omega,by omega,⟨e1.symm,e2.symm,e3.symm,e4.symm⟩⟩)))))))))))⟩
end Dw
namespace Ts
variable [Inhabited Go.Proofs.YtiadhbmnfjfioaaGreatDoor.Hc.bN]
open Go.ChangeShapes Go.WideShapes Go.ChangeAt Go.RowKit Mm Hc Mi Bk
open Hh hiding Rn

variable {w :World} {sa :Option Addr} {x :Int} {xs :List Int} {b :Nat}
theorem Gh {v:Int}(f:Int)(h0:0<=v)(h1:v<4294967296) : -2147483648<=Dc.bS f v/\Dc.bS f v<2147483648:=by
 unfold Dc.bS Wd.sg Dc.iT;repeat' split
 all_goals omega
theorem JD (h0:0<=x)(h1:x<4294967296)(hx:¬Dc.aO x=0):(ui x).Sound:=by have b:=Gh (Dc.aJ (Dc.aO x)) h0 h1;have hs:Dw.Same (Dc.aO x) (Dc.iF (Dc.aJ (Dc.aO x)) x) (Dc.bZ (Dc.aJ (Dc.aO x)) x) (Dc.bV (Dc.aJ (Dc.aO x)) x) (Dc.bS (Dc.aJ (Dc.aO x)) x) x:=⟨by unfold Dw.fZ;simpa using hx,rfl,rfl,rfl,rfl,rfl⟩;exact Dw.uI (Dw.uJ h0 h1 hs) b.1 b.2
theorem Zy (h0:0<=x)(h1:x<4294967296)(hx:¬Dc.aO x=0):(ui x).Ok:=by have i:=Du h0 h1 hx;have b:=Gh (Dc.aJ (Dc.aO x)) h0 h1;exact⟨by have:=i.o1;have:=i.o2;unfold WG;omega,by have:=i.d0;have:=i.d1;unfold WG;omega,by have:=i.a0;have:=i.a1;unfold WG;omega,by have:=i.b0;have:=i.b1;unfold WG;omega,b.1,by show Dc.bS (Dc.aJ (Dc.aO x)) x<=2147483647;omega⟩
def Words (xs:List Int):Prop:=∀x∈xs,0<=x/\x<4294967296/\¬Dc.aO x=0
theorem NT {base:Nat}{sc:Nat}(O:w.ownsRow base 59 5 (.slice sa xs.length sc) xs.length (vL xs))(hx:Words xs):Is w sa xs.length (xs.map ui):=by
 refine⟨by simp,fun i hi=>?_,fun h0=>?_⟩
 ·obtain⟨x,hm,rfl⟩:=apK.1 hi;obtain⟨a,b,c⟩:=hx x hm;exact Zy a b c
 ·obtain⟨g,c,e,hg,hc⟩:=NA O h0;injection e with e1 _ _;refine⟨g,0,e1,hg,fun j i hj=>?_⟩;rw[apT]at hj;cases hxj:xs[j]? with
  |none=>rw[hxj]at hj;cases hj
  |some x=>
   rw[hxj]at hj;simp at hj;subst hj;rw[apu];have q:=fun t (ht:t<5)=>FY xs j t x hxj ht
   refine⟨hc _ _ ?_,hc _ _ ?_,hc _ _ ?_,hc _ _ ?_,hc _ _ ?_⟩
   ·have:=q 0 (by omega);rwa[aqt]at this
   ·exact q 1 (by omega)
   ·exact q 2 (by omega)
   ·exact q 3 (by omega)
   ·exact q 4 (by omega)
theorem xy (l:List UInt8)(pc:Int):Words (blk l pc 16 0):=fun x hx=>by obtain⟨j,hj⟩:=aqe.1 hx;obtain⟨a,b,_⟩:=(fM l pc 16 0).2 j (apj.1 hj).1;rw[apu]at a b;rw[b]at hj;injection hj with hj;subst hj;have:=W.aN l 13 (at4 pc j);exact⟨this.1,this.2,(mV a).2⟩
theorem NU (pc:Int)(sc:Nat)(O:w.ownsRow b 59 5 (.slice sa xs.length sc) xs.length (vL xs))(hx:Words xs)(T:Dw.nK w)(Q:Tq w)(hn:xs.length<=16):Calls prog 110 #[.agg #[.int .u32 pc,.slice sa xs.length sc]] w fun e w'=>∃ca cn cc,e=.returned (.slice ca cn cc)/\Ct w' ca cn (aS pc (xs.map ui) 0)/\Gr w w':=
 TW pc sc (NT O hx) T Q hn fun i hi=>by
  obtain⟨x,hm,rfl⟩:=apK.1 hi;obtain⟨a,b,c⟩:=hx x hm;exact JD a b c
end Ts
end Go.Proofs.YtiadhbmnfjfioaaGreatDoor
