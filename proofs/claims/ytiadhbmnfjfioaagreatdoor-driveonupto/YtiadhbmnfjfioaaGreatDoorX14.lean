/- ours -/
import Derived.Test.YtiadhbmnfjfioaaGreatDoorX13
import Derived.RangeFuncNested
import Derived.RangeFuncBound
import Derived.Shelf.RegionOpen
import Derived.OwnWalkIn
import Derived.LoopNIn
import Derived.LoopIn
set_option linter.unusedVariables false
set_option linter.unusedSimpArgs false
set_option maxHeartbeats 8000000
set_option maxRecDepth 100000
set_option linter.unusedSectionVars false
namespace Go.Proofs.YtiadhbmnfjfioaaGreatDoor
open Go.Proofs.Tryz hiding cs t1 t2
open Go.ChangeShapes Go.WideShapes Go.ChangeAt Go.RowKit
variable{a:Act}{K:Act->World->Prop}{ops:Array Oper}{Y:Array Value}{st z:Int}{k:IntKind}{q:Int×Int}{ls ps:List (Int×Int)}{rest:List Oper}{m l:List UInt8}{f cap mn j c n B N mc hn hc ln lc gh b base:Nat}{D D':Nat->Prop}{fr:Nat×Nat}{o:Oper}{ao ma ha la:Option Addr}{r:Option Nat}{P:Program}{E:Prop}{M H U v:Value}{w w' W0:World}
variable [Inhabited Hc.bN]
namespace Ud
open Mm Hh Hc Mc
variable{w w' W0:World}{n z gh hc:Nat}{M:Value}{hs:List Hv}{m:List UInt8}{u:Uv}{x:List Value}
structure Mz (w:World) (n z:Nat) (M:Value) (gh hc:Nat) (hs:List Hv) (m:List UInt8):Prop where
 blk:w.heap[z]?=some (.cells #[M,.slice (some ⟨gh,0,none⟩) hs.length hc] 28 (0,0))
 bz:n<=z
 mem:Hc.Own w n M m
 bh:n<=gh
 row:bQ w gh hs
 hz:Zh w gh hc
structure Th (n:Nat) (w w':World):Prop where
 below:Below n w w'
 keep:∀(k:Nat) (o:Obj),w.heap[k]?=some o->(∀q f,¬o=.cells q 43 f)->(∀q f,¬o=.cells q 5 f)->w'.heap[k]?=some o
theorem Th.refl (n:Nat)(w:World):Th n w w:=⟨auC _ _,fun _ _ h _ _=>h⟩
theorem Th.trans {a b c:World}(h:Th n a b)(k:Th n b c):Th n a c:=⟨h.below.trans k.below,fun i o e t1 t2=>k.keep i o (h.keep i o e t1 t2) t1 t2⟩
theorem Th.bD (G:Gr w w')(hb:n<=w.heap.size):Th n w w':=⟨aun G hb,fun i o e _ _=>(G.block i (gs e).1).trans e⟩
theorem Th.row (h:Th n w w'){k:Nat}{q:Array Value}{t:Nat}{f:Nat×Nat}(e:w.heap[k]?=some (.cells q t f))(t1:t≠43)(t2:t≠5):w'.heap[k]?=some (.cells q t f):=h.keep k _ e (fun _ _ c=>t1 (by injection c)) (fun _ _ c=>t2 (by injection c))
theorem zD {g t:Nat}(hy:w.heap[g]?=some (.cells Y t fr))(ht:t=43\/t=5)(hg:n<=g)(hb:n<=w.heap.size)(q:w.grownBy w' (some g)):Th n w w':=
 ⟨⟨q.os,q.tape,q.output,q.size,fun k hk=>q.block k ab (fun e=>by injection e with e;omega)⟩,fun k o e t1 t2=>(q.block k (gs e).1 (fun e2=>by
  injection e2 with e2;subst e2;rw[hy]at e;injection e with e;rcases ht with rfl|rfl
  ·exact t1 _ _ e.symm
  ·exact t2 _ _ e.symm)).trans e⟩
theorem Xw (G:Gr W0 w)(T:Th W0.heap.size w w'):Gr W0 w':=auI G T.below
theorem Cn {Q:Exit→Act→World→Prop}(hgd:o.guard=none)(d s:Operand)(dT sT:TypeId)(ho:o.op=.call { callee:=.builtin .copy,args:=#[d,s],argTypes:=#[dT,sT] })(elem:TypeId)(hu:P.underlying dT=some (.slice elem))(hsz:(P.info? elem).map (·.size)=some 1)(g off dLen dCap:Nat)(ad:Addr)(sLen sCap:Nat)(hd:a.eval d=.slice (some ⟨g,off,none⟩) dLen dCap)(hs:a.eval s=.slice (some ad) sLen sCap)(cur:Array Value)(t:TypeId)(hg:w.heap[g]?=some (.cells cur t (0,0)))(cs:List Value)(hn:cs.length=Nat.min sLen dLen)(hsrc:∀j v,cs[j]?=some v->w.cell? (ad.add j)=some v)(hfit:off+cs.length<=cur.size)(h1:∀v∈cs,v.oneCell'=true)(h:K (a.put o.dst (goInt cs.length)) (w.setRow g (cur.toList.take off++(cs++cur.toList.drop (off+cs.length))).toArray)):if Region.wanted o (yielded ops a.tmps)=true then Oper.wp P o a w K Q else E:=by rw[at7 (by simp[Region.wanted,hgd])];have hrun:=run_copy_row (P:=P) w dT sT o.type elem g off dLen dCap ad sLen sCap cur t cs hu hsz hg hn hsrc hfit h1;unfold Oper.wp;simp[execOp,ho,resolve,invoke,builtin,hd,hs,hrun,Result.andThen];exact h
theorem Co {Q:Exit→Act→World→Prop}(hgd:o.guard=none)(d s:Operand)(dT sT:TypeId)(ho:o.op=.call { callee:=.builtin .copy,args:=#[d,s],argTypes:=#[dT,sT] })(elem:TypeId)(hu:P.underlying dT=some (.slice elem))(hsz:(P.info? elem).map (·.size)=some 1)(dp sp:Option Addr)(dLen dCap sLen sCap:Nat)(hd:a.eval d=.slice dp dLen dCap)(hs:a.eval s=.slice sp sLen sCap)(hn:Nat.min sLen dLen=0)(h:K (a.put o.dst (goInt 0)) w):if Region.wanted o (yielded ops a.tmps)=true then Oper.wp P o a w K Q else E:=by rw[at7 (by simp[Region.wanted,hgd])];have hrun:=run_copy_none (P:=P) w dT sT o.type elem dp sp dLen dCap sLen sCap hu hsz hn;unfold Oper.wp;simp[execOp,ho,resolve,invoke,builtin,hd,hs,hrun,Result.andThen];exact h
theorem U5 {bs:List UInt8}{mk cap:Nat}{rest:List Value}(hm:w.heap[mk]?=some (.cells (bc m++rest).toArray 5 (0,0)))(h:f+bs.length<=m.length):w.setRow mk ((bc m++rest).toArray.toList.take f++(bc bs++(bc m++rest).toArray.toList.drop (f+(bc bs).length))).toArray=w.setRow mk (bc (lay m f bs)++rest).toArray:=by congr 2;have l1:=gH m;have l2:=gH bs;simp only[arb];rw[aqB ab,aqO ab,l2];unfold lay bc;simp[aqb,List.map_take,List.map_drop]
def Cq (mo:Option Addr) (cap f:Nat):Option Addr:=if cap=f then mo else mo.map fun ad=>⟨ad.block,ad.off+f,ad.spot⟩
theorem Cr {Q:Exit→Act→World→Prop}(hgd:o.guard=none)(d s:Operand)(ho:o.op=.call { callee:=.builtin .copy,args:=#[d,s],argTypes:=#[25,25] }){mo sp:Option Addr}{mn cap f sl sc n:Nat}{m bs:List UInt8}(hd:a.eval d=.slice (Cq mo cap f) (mn-f) (cap-f))(hs:a.eval s=.slice sp sl sc)(hO:Hc.Own w n (.slice mo mn cap) m)(lY:m.length=mn)(hcap:mn<=cap)(MB:Mem w sp sl bs)(hfit:f+bs.length<=mn)(hnw:n<=w.heap.size)(hK:∀w',Hc.Own w' n (.slice mo mn cap) (lay m f bs)->Th n w w'->(∀(k:Nat) (q:Array Value) (t:Nat) (fr:Nat×Nat),t≠5->w.heap[k]?=some (.cells q t fr)->w'.heap[k]?=w.heap[k]?)->K (a.put o.dst (goInt bs.length)) w'):if Region.wanted o (yielded ops a.tmps)=true then Oper.wp prog o a w K Q else E:=by
 have hbl:=MB.len;by_cases h0:bs.length=0
 ·obtain rfl:bs=[]:=apX h0;have e:lay m f []=m:=by simp[lay]
  refine Co hgd d s 25 25 ho 5 underlying25 al _ _ _ _ _ _ hd hs (by rw[<-hbl];simp) ?_;exact hK w (by rw[e];exact hO) (Th.refl _ _) (fun _ _ _ _ _ _=>rfl)
 ·rcases hO with⟨h1,h2⟩|⟨mk,cp,h1,⟨h2,h3⟩,rest,hr,hz,hmx⟩
  ·rw[h2]at lY;simp at lY;omega
  ·injection h1 with e1 e2 e3;subst e1 e3;have hc:Cq (some ⟨mk,0,none⟩) cap f=some ⟨mk,f,none⟩:=by unfold Cq;rw[ak];simp
   rw[hc]at hd;cases sp with
   |none=>exact absurd (MB.nil rfl) ab
   |some ad=>
    have hg:=U5 (w:=w) (cap:=cap) hr (show f+bs.length<=m.length by omega);refine Cn hgd d s 25 25 ho 5 underlying25 al mk f _ _ ad _ _ hd hs _ 5 hr (bc bs) (by rw[gH,hbl];exact(arA ab).symm) (fun j v hj=>?_) (by simp[gH];omega) (xX bs) ?_
    ·obtain⟨j1,j2⟩:=xW hj;rw[j2];exact MB.cell ad rfl j ab
    ·rw[hg,gH];have G:w.grownBy (w.setRow mk (bc (lay m f bs)++rest).toArray) (some mk):=⟨rfl,rfl,rfl,by simp[World.setRow],fun k _ hk=>sV (fun e=>hk (by rw[e]))⟩;have hll:(lay m f bs).length=m.length:=by unfold lay;simp;omega
     refine hK _ (.inr ⟨mk,cap,by rw[hll,lY],⟨h2,ab⟩,rest,Ih hr,by rw[apo,gH]at hz ⊢;omega,hmx⟩) (zD hr (.inr rfl) h2 hnw G) (fun k q t fr ht hk=>sV (aa hk hr ht))
theorem EM (hs:List Hv)(ls:List (Int×Int))(h:ls[j]?=some q):gives hs (ls.take (j+1))=(gives hs (ls.take j)).set q.1.toNat (((gives hs (ls.take j)).getD q.1.toNat hN).hold true q.2):=by rw[apU,h,Option.toList_some,xH];rfl
theorem qj (U:Uc W0 u x)(G:Gr W0 w)(Z:Mz w W0.heap.size z M gh hc hs m)(hcl:hs.length=c)(hc4:c<=4)(lY:m.length=mn)(lU:mn<=4096)(hf:fB c mn u=true):Calls prog 39 #[.pointer (some ⟨z,0,none⟩),.agg x.toArray] w fun e w'=>e=.returned (.tuple #[])/\Mz w' W0.heap.size z M gh hc (bX (hs,m) u).1 (bX (hs,m) u).2/\Th W0.heap.size w w':=by
 have CS:Hid (x.length=41):=U.len;have kL:Hid (x.toArray.all (·.oneCell')=true):=U.one;obtain⟨ba,bn,bc',l1,l2,l3,hx,ok,_,_,MB,LS,_,b2⟩:=U;unfold fB at hf;simp only[apD,auk,apM]at hf;obtain⟨⟨a0,a1⟩,a2,a3,a4⟩:=hf;obtain⟨k,hk⟩:=apt a0;obtain⟨f,hf⟩:=apt ok.f0;have hkc:k<c:=ab;have hfm:f+u.bs.length<=mn:=ab;have Ju:Hid (x[0]?=some (.int .i64 k)/\(∀i v,(hL u.was)[i]?=some v->x[1+i]?=some v)/\x[38]?=some (.int .u32 f)/\x[39]?=some (.slice ba bn bc')/\x[40]?=some (.slice l1 l2 l3)):=by
  rw[hx,<-hk,<-hf];refine⟨rfl,fun i v hi=>?_,eO ok.was 0,eO ok.was 1,eO ok.was 2⟩;have:i<37:=by have:=(apj.1 hi).1;rwa[aD ok.was]at this
  rw[q9 ok.was this];exact hi
 have HBk:Hid (bX (hs,m) u=(gives (hs.set k u.was) u.lost,lay m f u.bs)):=by unfold Hid bX;rw[hk,hf];simp only[apG]
 have WY:Hid (Mem W0 ba bn u.bs):=MB;have HLS:Hid (Ls W0 l1 l2 u.lost):=LS;have HLQ:Hid (∀q∈u.lost,(0<=q.1/\q.1<c)/\0<=q.2/\q.2<4294967296):=fun q hq=>⟨a4 q hq,ok.lost q hq⟩
 have HOW:Hid u.was.Ok:=ok.was;have xD:Hid ((hL u.was).length=37):=aD ok.was;have HZ:Hid (Mz w W0.heap.size z M gh hc hs m):=Z;have oJ:Hid (Gr W0 w):=G;have HCL:Hid (hs.length=c):=hcl;have Xx:Hid (m.length=mn):=lY;have hn0:=G.size;have hzl:z<w.heap.size:=(gs Z.blk).1;have Jp:gh<w.heap.size:=by obtain⟨_,e⟩:=Z.row.row;exact(gs e).1
 have hzg:z≠gh:=by obtain⟨_,e⟩:=Z.row.row;exact aa Z.blk e an
 clear Z G hx ok MB LS a0 a1 a2 a3 a4 hcl lY hk hf;go_enter func39,ntmps39;go_wp2_with fail;refine JW (fun W=>W.heap[w.heap.size]?=some (.cells x.toArray 121 (0,0))/\Gr w W) ⟨at5 w _,(Gr.refl _).alloc _⟩ ?_;rintro W1 ⟨KU,G1⟩;obtain⟨ub,hub⟩:∃ub:Nat,ub=w.heap.size:=⟨_,rfl⟩;rw[<-hub]at KU ⊢;have rQ:Hid (W1.heap[ub]?=some (.cells x.toArray 121 (0,0))):=KU;have HZ1:Hid (Mz W1 W0.heap.size z M gh hc hs m):=⟨(G1.block _ hzl).trans HZ.blk,HZ.bz,gT HZ.mem G1,HZ.bh,HZ.row.of G1,HZ.hz.of G1⟩;have aU:Hid (Gr w W1):=G1;have hzu:z≠ub:=ab;have hgu:gh≠ub:=ab;have rT:Hid (∀V:World,V.heap[z]?=W1.heap[z]?->V.heap[ub]?=W1.heap[ub]?->(fun W=>W.cell? ⟨z,1,none⟩=some (.slice (some ⟨gh,0,none⟩) c hc)/\W.cell? ⟨ub,0,none⟩=some (.int .i64 k)/\W.rangeAt ub 1 (hL u.was)) V):=fun V e1 e2=>by
  have h1:=e1.trans HZ1.blk;have h2:=e2.trans rQ;rw[HCL.out]at h1;exact⟨iY h1,(cr h2).trans (by rw[apm];exact Ju.1),fun i v hi=>by rw[cr h2,apm];exact Ju.2.1 i v hi⟩
 clear KU G1 hub;refine aut (S:=fun W=>W.cell? ⟨z,1,none⟩=some (.slice (some ⟨gh,0,none⟩) c hc)/\W.cell? ⟨ub,0,none⟩=some (.int .i64 k)/\W.rangeAt ub 1 (hL u.was)) al (rT _ rfl rfl) (fun hHeld=>?_);have aY:Hid _:=hHeld;clear hHeld;refine tK 0 (.pointer (some ⟨z,0,none⟩)) aY ?_;refine tK 1 (.pointer (some ⟨z,0,none⟩)) aY ?_;refine tK 2 (.pointer (some ⟨z,1,none⟩)) aY ?_;refine tK 3 (.slice (some ⟨gh,0,none⟩) c hc) aY ?_;refine tK 4 (.pointer (some ⟨ub,0,none⟩)) aY ?_;refine tK 5 (.int .i64 k) aY ?_;refine tK 6 (.pointer (some ⟨ub,1,none⟩)) aY ?_;refine auF (i:=7) (v:=.agg (hL u.was).toArray) rfl al al al (fun _ _ _ h=>h) (auN (by rfl) 43 (.tmp 12) rfl ub 1 aw (hL u.was) _ (fun W hW=>hW.2.2) underlying43 rfl (by rw[xD.out];exact iH)) aY ?_;simp only[apN,apP,apQ,Act.put,apl,apC,apy];refine tK 8 (.pointer (some ⟨gh,k*37,none⟩)) aY ?_;have hkl:k<hs.length:=by rw[HCL.out];exact hkc
 obtain⟨hk0,hhk⟩:∃hk0,hs[k]?=some hk0:=⟨_,api hkl⟩;have GU:Hid (W1.drew.there gh (k*37) 37):=(show bQ W1.drew gh hs from HZ1.row.of (Gr.drew (Gr.refl _))).there hhk;have TH:Hid (Ch gh W1.drew (W1.drew.setCells gh (k*37) (hL u.was))):=Mc.Ch.setCells (Ch.refl gh W1.drew) _ _;have Xn:Hid (bQ (W1.drew.setCells gh (k*37) (hL u.was)) gh (hs.set k u.was)):=(show bQ W1.drew gh hs from HZ1.row.of (Gr.drew (Gr.refl _))).put hkl HOW;have hsz1:=aU.size;refine l6 (i:=9) al rfl rfl 43 (.tmp 14) (.tmp 13) rfl gh (k*37) (hL u.was).toArray aw aw (by rw[ap2,xD.out];exact GU) (by rw[ap2,xD.out];exact iH) (qC u.was) (rT _ (TH.block z (by show z<W1.heap.size;omega) (fun e=>hzg (by injection e))) (TH.block ub (gs rQ).1 (fun e=>hgu (by injection e with e;exact e.symm)))) ?_;refine auy al ?_ _;refine JW (fun W=>Mz W W0.heap.size z M gh hc (hs.set k u.was) m/\W.heap[ub]?=some (.cells x.toArray 121 (0,0))/\Th W0.heap.size w W) ⟨?fa,?fb,?fc⟩ ?_
 case fa=>
  refine⟨?_,HZ1.bz,?_,HZ1.bh,Xn,(show Zh W1.drew gh hc from HZ1.hz.of (Gr.drew (Gr.refl _))).setCells _ _⟩
  ·rw[ap6];exact(TH.block z (by show z<W1.heap.size;omega) (fun e=>hzg (by injection e))).trans HZ1.blk
  ·exact HZ1.mem.to fun q ob fz hq=>gZ (w:=W1.drew) (HZ1.row.of (Gr.drew (Gr.refl _))) TH an hq
 case fb=>exact(TH.block ub (gs rQ).1 (fun e=>hgu (by injection e with e;exact e.symm))).trans rQ
 case fc=>
  obtain⟨rst,hrw⟩:=HZ1.row.row;exact(Th.bD (Gr.drew aU) hn0).trans (zD (w:=W1.drew) hrw (.inl rfl) HZ1.bh (by show W0.heap.size<=W1.heap.size;omega) TH)
 rintro W2 ⟨Z2,KU,T2⟩;have HZ2:Hid (Mz W2 W0.heap.size z M gh hc (hs.set k u.was) m):=Z2;have sD:Hid (W2.heap[ub]?=some (.cells x.toArray 121 (0,0))):=KU;have HT2:Hid (Th W0.heap.size w W2):=T2;clear rT aY GU TH Xn rQ HZ1 aU hhk hk0 Z2 KU T2 HZ hsz1;clear W1;obtain⟨mo,cap,hMe,hcp,hmo⟩:∃mo cap,M=.slice mo mn cap/\mn<=cap/\((mo=none/\mn=0/\cap=0)\/∃mk,mo=some ⟨mk,0,none⟩):=by
  rcases HZ2.mem with⟨h1,h2⟩|⟨mk,cp,h1,⟨_,h3⟩,_⟩
  ·have h0:mn=0:=by rw[<-Xx.out,h2];rfl
   exact⟨none,0,by rw[h1,h0],ab,.inl ⟨rfl,h0,rfl⟩⟩
  ·rw[Xx.out]at h1 h3;exact⟨_,cp,h1,h3,.inr ⟨mk,rfl⟩⟩
 have WZ:Hid (M=.slice mo mn cap):=hMe;have hmf:f<=mn:=ab;have q1:(f:Int)<=(mn:Int):=ab;have q2:(mn:Int)<=(cap:Int):=ab;have q3:(0:Int)<=(f:Int):=ab;have rT:Hid (∀V:World,V.heap[z]?=W2.heap[z]?->V.heap[ub]?=W2.heap[ub]?->(fun W=>W.cell? ⟨z,0,none⟩=some (.slice mo mn cap)/\W.cell? ⟨ub,38,none⟩=some (.int .u32 f)/\W.cell? ⟨ub,39,none⟩=some (.slice ba bn bc')) V):=fun V e1 e2=>by
  have h1:=e1.trans HZ2.blk;have h2:=e2.trans sD;rw[WZ.out]at h1;exact⟨iE h1,(cr h2).trans (by rw[apm];exact Ju.2.2.1),(cr h2).trans (by rw[apm];exact Ju.2.2.2.1)⟩
 clear hMe;go_wp2_with fail;refine aut (S:=fun W=>W.cell? ⟨z,0,none⟩=some (.slice mo mn cap)/\W.cell? ⟨ub,38,none⟩=some (.int .u32 f)/\W.cell? ⟨ub,39,none⟩=some (.slice ba bn bc')) al (rT _ rfl rfl) (fun hHeld=>?_);have aY:Hid _:=hHeld;clear hHeld;refine tK 0 (.pointer (some ⟨z,0,none⟩)) aY ?_;refine tK 1 (.pointer (some ⟨z,0,none⟩)) aY ?_;refine tK 2 (.pointer (some ⟨z,0,none⟩)) aY ?_;refine tK 3 (.slice mo mn cap) aY ?_;refine tK 4 (.pointer (some ⟨ub,38,none⟩)) aY ?_;refine tK 5 (.int .u32 f) aY ?_;refine auF (i:=6) (v:=.slice (Cq mo cap f) (mn-f) (cap-f)) rfl al al al (fun _ _ _ h=>h) ?hcut aY ?_;simp only[apN,apP,apQ,Act.put,apl,apC,apy]
 case hcut=>
  rcases hmo with⟨rfl,rfl,rfl⟩|⟨mk,rfl⟩
  ·obtain rfl:f=0:=ab;rw[show Cq none 0 0=none from rfl];exact Or.inl ⟨by rfl,fun W hW=>by obtain⟨y0,y1,y2⟩:=hW;go_simp⟩
  ·by_cases hcf:cap=f
   ·rw[show Cq (some ⟨mk,0,none⟩) cap f=some ⟨mk,0,none⟩from at7 hcf];exact Or.inl ⟨by rfl,fun W hW=>by obtain⟨y0,y1,y2⟩:=hW;go_simp⟩
   ·rw[show Cq (some ⟨mk,0,none⟩) cap f=some ⟨mk,f,none⟩by unfold Cq;rw[at6 hcf];simp];exact Or.inl ⟨by rfl,fun W hW=>by obtain⟨y0,y1,y2⟩:=hW;go_simp⟩
 refine tK 7 (.pointer (some ⟨ub,39,none⟩)) aY ?_;refine tK 8 (.slice ba bn bc') aY ?_;refine aue (rs:=[9]) al aq ?_;refine aua rfl (fun K hK=>?_) aud;have kY:Hid (Hc.Own W2.drew W0.heap.size (.slice mo mn cap) m):=by have:=HZ2.mem;rw[WZ.out]at this;exact this
 have HB2:Hid (Mem W2.drew ba bn u.bs):=WY.of (Xw oJ (HT2.trans (Th.bD (Gr.drew (Gr.refl W2)) (apr hn0 HT2.below.size))));refine Cr (mo:=mo) (sp:=ba) (mn:=mn) (cap:=cap) (f:=f) (sl:=bn) (sc:=bc') (n:=W0.heap.size) (m:=m) (bs:=u.bs) rfl (.tmp 21) (.tmp 23) rfl ar ar kY Xx hcp HB2 hfm (apr hn0 HT2.below.size) ?_;intro W3 O3 T3 K3;have HZ3:Hid (Mz W3 W0.heap.size z M gh hc (hs.set k u.was) (lay m f u.bs)):=⟨(K3 _ _ _ _ an (show W2.drew.heap[z]?=_ from HZ2.blk)).trans HZ2.blk,HZ2.bz,by rw[WZ.out];exact O3,HZ2.bh,HZ2.row.to fun q ob fz hq=>K3 q ob _ fz an hq,HZ2.hz.to fun q ob fz hq=>K3 q ob _ fz an hq⟩;have HU3:Hid (W3.heap[ub]?=some (.cells x.toArray 121 (0,0))):=(K3 _ _ _ _ an (show W2.drew.heap[ub]?=_ from sD)).trans sD;have HT3:Hid (Th W0.heap.size w W3):=HT2.trans ((Th.bD (Gr.drew (Gr.refl W2)) (apr hn0 HT2.below.size)).trans T3);refine hK.out _ _ (rT _ (HZ3.blk.trans (by rw[HZ2.out.blk])) (HU3.trans sD.symm)) (fun hx=>?_);clear hK K hx O3 T3 K3;refine auy al ?_ _;clear rT aY kY HB2 HZ2 sD HT2;clear W2;have k40:W3.cell? ⟨ub,40,none⟩=some (.slice l1 l2 l3):=(cr HU3).trans (by rw[apm];exact Ju.2.2.2.2);have rH:Hid (u.lost.length=l2):=HLS.len;go_wp2_with fail;go_loopw [28] (fun i wr=>∃q:Nat,q<=l2/\i=.int .i64 q/\Mz wr W0.heap.size z M gh hc (gives (hs.set k u.was) (u.lost.take q)) (lay m f u.bs)/\Th W0.heap.size w wr) (fun i _=>l2-(intOf i).toNat)
 case atStart=>exact⟨0,apF _,rfl,HZ3,HT3⟩
 case round=>
  obtain⟨q,hq,rfl,Z4,T4⟩:=hrel;have zk:Hid (Mz wr W0.heap.size z M gh hc (gives (hs.set k u.was) (u.lost.take q)) (lay m f u.bs)):=Z4;have HT4:Hid (Th W0.heap.size w wr):=T4;have fC:Hid (Gr W0 wr):=Xw oJ T4;clear Z4 T4 HZ3 HU3 HT3 k40;by_cases hlt:q<l2
  ·obtain⟨p,hp⟩:∃p,u.lost[q]?=some p:=⟨_,api (by rw[rH.out];exact hlt)⟩;obtain⟨b7,o7,rfl,hb7,hc7⟩:=HLS.spot ab;have z0:wr.cell? ⟨b7,o7+q*2,none⟩=some (.int .i64 p.1):=(fC.cell _ (by exact hb7)).trans (hc7 q p hp).1;have z1:wr.cell? ⟨b7,o7+q*2+1,none⟩=some (.int .u32 p.2):=(fC.cell _ (by exact hb7)).trans (hc7 q p hp).2;obtain⟨⟨p0,p1⟩,p2,p3⟩:=HLQ p (aps hp);have EE:Hid (gives (hs.set k u.was) (u.lost.take (q+1))=(gives (hs.set k u.was) (u.lost.take q)).set p.1.toNat (((gives (hs.set k u.was) (u.lost.take q)).getD p.1.toNat hN).hold true p.2)):=EM _ _ hp;have HGL:Hid ((gives (hs.set k u.was) (u.lost.take q)).length=c):=by unfold Hid;rw[nC,ap6,HCL.out]
   clear hc7 hp;obtain⟨pa,pb⟩:=p;simp only at *
   obtain⟨v,rfl⟩:=apt p0;simp only[apG]at EE;have hv:v<c:=ab;generalize gives (hs.set k u.was) (u.lost.take q)=hs4 at *
   obtain⟨h4,ZI⟩:∃h4,hs4[v]?=some h4:=⟨_,api (by rw[HGL.out];exact hv)⟩;have hgd:hs4.getD v hN=h4:=by simp[List.getD,ZI]
   rw[hgd]at EE;have vT:=zk.row.ok h4 (aps ZI);have y1:wr.cell? ⟨z,1,none⟩=some (.slice (some ⟨gh,0,none⟩) c hc):=by have:=iY zk.blk;rw[HGL.out]at this;exact this
   have c33:wr.cell? ⟨gh,v*37+33,none⟩=some (.bool h4.held):=(zk.row.cell ZI ab).trans (aW vT 1);have f33:wr.frozen? ⟨gh,v*37+33,none⟩=false:=zk.row.fz _;have hzw:z<wr.heap.size:=(gs zk.blk).1;have hgw:gh<wr.heap.size:=by obtain⟨_,e⟩:=zk.row.row;exact(gs e).1
   clear hgd;go_wp2_with fail;refine JW (fun W=>W.heap[wr.heap.size]?=some (.cells #[.int .i64 v,.int .u32 pb] 159 (0,0))/\Gr wr W) ⟨at5 wr _,(Gr.refl _).alloc _⟩ ?_;rintro W5 ⟨KL,G5⟩;obtain⟨lb,hlb⟩:∃lb:Nat,lb=wr.heap.size:=⟨_,rfl⟩;rw[<-hlb]at KL ⊢;have Xi:Hid (W5.heap[lb]?=some (.cells #[.int .i64 v,.int .u32 pb] 159 (0,0))):=KL;have EN:Hid (Mz W5 W0.heap.size z M gh hc hs4 (lay m f u.bs)):=⟨(G5.block _ hzw).trans zk.blk,zk.bz,gT zk.mem G5,zk.bh,zk.row.of G5,zk.hz.of G5⟩;have HT5:Hid (Th W0.heap.size w W5):=HT4.trans (Th.bD G5 (apr hn0 HT4.below.size));have hgb:gh≠lb:=ab;have a1:W5.cell? ⟨z,1,none⟩=some (.slice (some ⟨gh,0,none⟩) c hc):=(G5.cell _ (by exact hzw)).trans y1;have a2:=iE KL;have a3:W5.cell? ⟨gh,v*37+33,none⟩=some (.bool h4.held):=(G5.cell _ (by exact hgw)).trans c33;have a4:W5.frozen? ⟨gh,v*37+33,none⟩=false:=EN.row.fz _;have HSx:Hid (∀(V:World) (i:Nat) (b:Value),V.heap[z]?=W5.heap[z]?->V.heap[lb]?=W5.heap[lb]?->(V.setCell ⟨gh,i,none⟩ b).cell? ⟨z,1,none⟩=some (.slice (some ⟨gh,0,none⟩) c hc)/\(V.setCell ⟨gh,i,none⟩ b).cell? ⟨lb,0,none⟩=some (.int .i64 v)/\(V.setCell ⟨gh,i,none⟩ b).cell? ⟨lb,1,none⟩=some (.int .u32 pb)):=fun V i b e1 e2=>by
    have h1:=(hso (w:=V) (a:=⟨gh,i,none⟩) (v:=b) (k:=z) hzg).trans (e1.trans EN.blk);have h2:=(hso (w:=V) (a:=⟨gh,i,none⟩) (v:=b) (k:=lb) hgb.symm).trans (e2.trans Xi);rw[HGL.out]at h1;exact⟨iY h1,iE h2,iY h2⟩
   clear KL G5 hlb zk HT4 fC z0 z1 y1 c33 f33 hzw hgw;go_region_held3 (fun W=>W.cell? ⟨z,1,none⟩=some (.slice (some ⟨gh,0,none⟩) c hc)/\W.cell? ⟨lb,0,none⟩=some (.int .i64 v)) (first|(refine⟨?_,?_⟩<;>assumption)|(exact⟨(HSx _ _ _ rfl rfl).1,(HSx _ _ _ rfl rfl).2.1⟩)) (fail);refine JW (fun W=>Mz W W0.heap.size z M gh hc (hs4.set v { h4 with held:=true }) (lay m f u.bs)/\W.heap[lb]?=some (.cells #[.int .i64 v,.int .u32 pb] 159 (0,0))/\Th W0.heap.size w W) ⟨?ga,?gb,?gc⟩ ?_
   case ga=>
    refine⟨by rw[ap6];exact(hso (w:=W5) (a:=⟨gh,v*37+33,none⟩) (v:=.bool true) (k:=z) hzg).trans EN.blk,EN.bz,?_,EN.bh,?_,(show Zh W5.drew gh hc from EN.hz.of (Gr.drew (Gr.refl _))).setCell _ _⟩
    ·obtain⟨_,e⟩:=EN.row.row;exact(show Hc.Own W5.drew _ _ _ from EN.mem).to fun q ob fz hq=>hso (by exact aa hq (show W5.drew.heap[gh]?=_ from e) an)
    ·exact bQ.set (show bQ W5.drew gh hs4 from EN.row.of (Gr.drew (Gr.refl _))) ZI ab (jW vT true) ⟨vT.len,vT.reg,vT.nH,vT.jV,vT.x9,vT.zO⟩
   case gb=>exact(hso (w:=W5) (a:=⟨gh,v*37+33,none⟩) (v:=.bool true) (k:=lb) hgb.symm).trans Xi
   case gc=>
    obtain⟨_,e⟩:=EN.row.row;exact(HT5.trans (Th.bD (Gr.drew (Gr.refl W5)) (apr hn0 HT5.below.size))).trans (zD (show W5.drew.heap[gh]?=_ from e) (.inl rfl) EN.bh (apr hn0 HT5.below.size) ((Ch.refl gh W5.drew).setCell _ _))
   rintro W6 ⟨Z6,L6,T6⟩;have EO:Hid (Mz W6 W0.heap.size z M gh hc (hs4.set v { h4 with held:=true }) (lay m f u.bs)):=Z6;have HL6:Hid (W6.heap[lb]?=some (.cells #[.int .i64 v,.int .u32 pb] 159 (0,0))):=L6;have HT6:Hid (Th W0.heap.size w W6):=T6;have hh6:(hs4.set v { h4 with held:=true })[v]?=some { h4 with held:=true }:=by rw[aqu];rw[HGL.out];exact hv
   have b1:W6.cell? ⟨z,1,none⟩=some (.slice (some ⟨gh,0,none⟩) c hc):=by have:=iY Z6.blk;rw[ap6,HGL.out]at this;exact this
   have b2':=iE L6;have b3:=iY L6;have b4:W6.cell? ⟨gh,v*37+34,none⟩=some (.int .u32 h4.aP):=(Z6.row.cell hh6 ab).trans (aW (h:={ h4 with held:=true }) ⟨vT.len,vT.reg,vT.nH,vT.jV,vT.x9,vT.zO⟩ 2);have b5:W6.frozen? ⟨gh,v*37+34,none⟩=false:=Z6.row.fz _;clear HSx EN Xi HT5 a1 a2 a3 a4 Z6 L6 T6;have HSx:Hid (∀(V:World) (i:Nat) (b:Value),V.heap[z]?=W6.heap[z]?->V.heap[lb]?=W6.heap[lb]?->(V.setCell ⟨gh,i,none⟩ b).cell? ⟨z,1,none⟩=some (.slice (some ⟨gh,0,none⟩) c hc)/\(V.setCell ⟨gh,i,none⟩ b).cell? ⟨lb,0,none⟩=some (.int .i64 v)/\(V.setCell ⟨gh,i,none⟩ b).cell? ⟨lb,1,none⟩=some (.int .u32 pb)):=fun V i b e1 e2=>by
    have h1:=(hso (w:=V) (a:=⟨gh,i,none⟩) (v:=b) (k:=z) hzg).trans (e1.trans EO.blk);have h2:=(hso (w:=V) (a:=⟨gh,i,none⟩) (v:=b) (k:=lb) hgb.symm).trans (e2.trans HL6);rw[ap6,HGL.out]at h1;exact⟨iY h1,iE h2,iY h2⟩
   go_wp2_with fail;go_region_held3 (fun W=>W.cell? ⟨z,1,none⟩=some (.slice (some ⟨gh,0,none⟩) c hc)/\W.cell? ⟨lb,0,none⟩=some (.int .i64 v)/\W.cell? ⟨lb,1,none⟩=some (.int .u32 pb)) (first|(refine⟨?_,?_,?_⟩<;>assumption)|(exact HSx _ _ _ rfl rfl)) (fail);refine JW (fun W=>Mz W W0.heap.size z M gh hc (hs4.set v (h4.hold true pb)) (lay m f u.bs)/\Th W0.heap.size w W) ⟨?ha,?hc'⟩ ?_
   case ha=>
    refine⟨by have:=EO.blk;rw[ap6]at this ⊢;exact(hso (w:=W6) (a:=⟨gh,v*37+34,none⟩) (v:=.int .u32 pb) (k:=z) hzg).trans this,EO.bz,?_,EO.bh,?_,(show Zh W6.drew gh hc from EO.hz.of (Gr.drew (Gr.refl _))).setCell _ _⟩
    ·obtain⟨_,e⟩:=EO.row.row;exact(show Hc.Own W6.drew _ _ _ from EO.mem).to fun q ob fz hq=>hso (by exact aa hq (show W6.drew.heap[gh]?=_ from e) an)
    ·have:=bQ.set (h':=h4.hold true pb) (show bQ W6.drew gh (hs4.set v { h4 with held:=true })from EO.row.of (Gr.drew (Gr.refl _))) hh6 ab (gI (h:={ h4 with held:=true }) ⟨vT.len,vT.reg,vT.nH,vT.jV,vT.x9,vT.zO⟩ pb) (vT.hold true p2 p3);rwa[List.set_set]at this
   case hc'=>
    obtain⟨_,e⟩:=EO.row.row;exact(HT6.trans (Th.bD (Gr.drew (Gr.refl W6)) (apr hn0 HT6.below.size))).trans (zD (show W6.drew.heap[gh]?=_ from e) (.inl rfl) EO.bh (apr hn0 HT6.below.size) ((Ch.refl gh W6.drew).setCell _ _))
   rintro W7 ⟨Z7,T7⟩;have JZ:Hid (Mz W7 W0.heap.size z M gh hc (hs4.set v (h4.hold true pb)) (lay m f u.bs)):=Z7;have HT7:Hid (Th W0.heap.size w W7):=T7;clear Z7 T7 HSx EO HL6 HT6 b1 b2' b3 b4 b5;go_wp2_with fail;go_roundw
   case rel=>exact⟨q+1,ab,by go_num,by rw[EE.out];exact JZ,HT7⟩
   case measure=>simp[intOf];omega
  ·have Xo:Hid (Mz wr W0.heap.size z M gh hc (bX (hs,m) u).1 (bX (hs,m) u).2):=by
    rw[HBk.out];have:=zk;rwa[ap0 (by rw[rH.out];omega)]at this
   go_wp2_with fail;go_end0;exact⟨rfl,Xo,HT4⟩
end Ud
namespace Ud
open Go.Shelf Mm Hh Hc Mc
variable{vs:List Uv}
attribute [local go_sem] Oper.semAt_some
section
variable{F:Fence}{op:Oper}{Q:Exit->Act->World->Prop}
theorem gy (hgd:op.guard=none)(ty:TypeId)(x:Operand)(ho:op.op=.load ty x)(b o:Nat)(hx:a.eval x=.pointer (some ⟨b,o,none⟩))(cs:List Value)(d:TypeDesc)(hc:w.rangeAt b o cs)(hu:P.underlying ty=some d)(hd:d.isRow=true)(hi:(P.info? ty).map (·.size)=some cs.length)(h:wpListIn F n P ops Q rest (a.put op.dst (.agg cs.toArray)) w):wpListIn F n P ops Q (op::rest) a w:=by
 refine wpListIn_plain hgd fun K hK=>?_
 unfold Oper.wpIn;refine⟨by simp[Oper.about,ho],?_⟩;rw[Oper.semAt_plain F _ _ (by rw[ho];intro c hc';cases hc')];unfold execOp;simp only[ho,hx,Instr.loadAt,Instr.sureAddr,au3,avd,auM,run_loadVar_mid w b o ty cs d hc hu hd hi];exact hK _ _ h
theorem iP (hgd:op.guard=none)(ty:TypeId)(x y:Operand)(ho:op.op=.store ty x y)(g:Nat)(cells:Array Value)(hx:a.eval x=.pointer (some ⟨g,0,none⟩))(hy:a.eval y=.agg cells)(t:TypeId)(old:Array Value)(hb:w.heap[g]?=some (.cells old t (0,0)))(hi:(P.info? ty).map (·.size)=some cells.size)(hold:old.size=cells.size)(h1:cells.all (·.oneCell')=true)(h:wpListIn F n P ops Q rest (a.put op.dst undef) (w.setRow g cells)):wpListIn F n P ops Q (op::rest) a w:=by
 refine wpListIn_plain hgd fun K hK=>?_
 unfold Oper.wpIn;refine⟨by simp[Oper.about,ho],?_⟩;rw[Oper.semAt_plain F _ _ (by rw[ho];intro c hc';cases hc')];unfold execOp;simp only[ho,hx,hy,Instr.storeAt,Instr.sureAddr,au3,avd,auM,run_storeVar_row w g t ty old cells hb hi hold h1];exact hK _ _ h
end
structure Kr (n:Nat) (w w':World):Prop where
 below:Below n w w'
 keep:∀(k:Nat) (q:Array Value) (t:Nat) (f:Nat×Nat),w.heap[k]?=some (.cells q t f)->t≠43->t≠5->w'.heap[k]?=some (.cells q t f)
theorem Kr.refl (n:Nat)(w:World):Kr n w w:=⟨auC _ _,fun _ _ _ _ h _ _=>h⟩
theorem Kr.trans {n:Nat}{A B C:World}(h:Kr n A B)(k:Kr n B C):Kr n A C:=⟨h.below.trans k.below,fun i q t f e t1 t2=>k.keep i q t f (h.keep i q t f e t1 t2) t1 t2⟩
theorem Th.kr (h:Th n w w'):Kr n w w':=⟨h.below,fun k q t f e t1 t2=>h.row e t1 t2⟩
theorem Th.keeps (h:Th n w w'):KeepsFrom B w w':=⟨h.below.size,fun k o _ e hc=>h.keep k o e (fun q f c=>by subst c;cases hc) (fun q f c=>by subst c;cases hc)⟩
theorem aer (hn:n<=w.heap.size)(W:World)(l:Nat)(o o':Obj)(hl:w.heap.size<=l)(h:W.heap[l]?=some o)(hc:o.isCells=false)(hw:o.isWalk=false):Kr n W (W.putObj l o'):=
 ⟨belowK_b hn W l o o' hl h hc hw,fun k q t f e _ _=>by
  have G:=grownBy_putObj' W l o';refine(G.block k (gs e).1 (fun e2=>?_)).trans e;injection e2 with e2;subst e2;rw[e]at h;injection h with h;subst h;cases hc⟩
def Yv (W0:World) (c mn:Nat):Type:={ y:Nat×Uv×List Value // Uc W0 y.2.1 y.2.2/\fB c mn y.2.1=true }
def Yv.u (y:Yv W0 c mn):Uv:=y.1.2.1
def Yv.x (y:Yv W0 c mn):List Value:=y.1.2.2
def Yv.enc {W0:World} {c mn:Nat} (y:Yv W0 c mn):Array Value:=#[.int .i64 (y.1.1:Int),.agg y.x.toArray]
theorem aaQ (U:Us W0 ao N vs)(hN:N≤140737488351232)(hf:∀u∈vs,fB c mn u=true)(m:Nat)(l Bs:Nat)(J Jx:List (Yv W0 c mn)→World→Prop)(hY:∀pre x W,J pre W->pre.length<N->YieldAt Fence.wide (m-1) prog l (Yv.enc x) W fun e W'=>(e=.returned (.bool true)/\J (pre++[x]) W'/\Kr W0.heap.size W W')\/(e=.returned (.bool false)/\Jx (pre++[x]) W'))(W:World)(G:Gr W0 W)(hBs:W.heap[Bs]?=some (.cells #[.slice ao N cap] 30 (0,0)))(h0:J [] W):CallsIn Fence.wide m prog 72 #[.func (.yield l) #[] #[],.pointer (some ⟨Bs,0,none⟩)] W fun e W'=>(∃v,e=.returned v)/\((∃ys:List (Yv W0 c mn),ys.map Yv.u=vs.reverse/\J ys W')\/(∃pre,Jx pre W')):=by
 have HU:=kH U;have HL:=kH U.len;have b0:=iE hBs;have HB:=kH hBs;have HG:=kH G;have HF:=kH hf;have HYY:=kH hY;refine callsIn_of_wp func72 rfl trivial ?_ rfl;simp only[ntmps72,ap2,apH,ap8,Nat.reduceAdd,Nat.reduceSub,Array.replicate_succ,Array.replicate_zero,List.push_toArray,List.append_toArray,apO,apZ];have e1:IntKind.i64.wrap ((N:Int)-1)=(N:Int)-1:=by simp[IntKind.wrap,IntKind.bits,IntKind.signed];omega
 gi_wp2
 gi_loopw [3] (fun i wr=>∃(k:Nat) (pre:List (Yv W0 c mn)),k<=N/\i=.int .i64 ((k:Int)-1)/\pre.map Yv.u=(vs.drop k).reverse/\pre.length+k=N/\J pre wr/\Kr W0.heap.size W wr) (fun i _=>(intOf i+1).toNat)
 case atStart=>exact⟨N,[],apn _,by first|rfl|simp,by rw[List.drop_of_length_le (by rw[HL.out];exact apn _)];rfl,aq,h0,Kr.refl _ _⟩
 case round=>
  obtain⟨k,pre,hk,rfl,hpre,hpl,hJ,hK⟩:=hrel;have aet:=kH hpre;have HK:=kH hK;have b1:=iE (hK.keep _ _ _ _ HB an an);by_cases hk0:0<k
  ·obtain⟨q,rfl⟩:∃q,k=q+1:=⟨k-1,ab⟩;obtain⟨u,hu⟩:∃u,vs[q]?=some u:=⟨_,api (by rw[HL.out];omega)⟩;obtain⟨b,o,rfl,hb,hc⟩:=HU.spot ab;obtain⟨x,hx,hr⟩:=hc q u hu;have RG:=kH (oO hr hb (auI HG HK.below));have CS:=kH hx.len;obtain⟨Y,hY1,hY2,hY3⟩:∃Y:Yv W0 c mn,Y.1.1=q/\Y.u=u/\Y.x=x:=⟨⟨(q,u,x),hx,HF u (aps hu)⟩,rfl,rfl,rfl⟩;have EE:Hid ((pre++[Y]).map Yv.u=(vs.drop q).reverse):=by
    unfold Hid;rw[aqb,aet.out];have e:vs.drop q=u::vs.drop (q+1):=by
     obtain⟨hq,rfl⟩:=apj.1 hu;exact List.drop_eq_getElem_cons hq
    rw[e,List.reverse_cons];simp[hY2]
   obtain⟨fn,tmps,assign,body,hy,hR⟩:=HYY pre Y wr hJ ab;have HR:=kH hR;unfold Yv.enc at hy;rw[hY1,hY3]at hy;have z1:(0:Int)<=(q:Int):=ab;have z2:(q:Int)<(N:Int):=ab
   gi_wp2_with (refine gy rfl 121 _ rfl b (o+q*41) rfl x _ ?r1 underlying121 rfl (by rw[CS.out];exact iU) ?_;(case r1=>exact RG))
   refine⟨fun hd=>(by cases hd),?_⟩;refine RoundIn.mono HR ?_;rintro e W3 (⟨rfl,hJ3,hk3⟩|⟨rfl,hJx3⟩)
   ·have HK3:=kH (HK.trans hk3);have HJ3:=kH hJ3;have e3:IntKind.i64.wrap ((q:Int)-1)=(q:Int)-1:=by simp[IntKind.wrap,IntKind.bits,IntKind.signed];omega
    gi_wp2
    go_roundw
    case rel=>exact⟨q,pre++[Y],ab,by first|rfl|simp,EE,aE,HJ3,HK3⟩
    case measure=>simp[intOf]
   ·gi_wp2
    refine auc (auV rfl _ _ _) rfl ?_;exact⟨⟨_,rfl⟩,.inr ⟨_,hJx3⟩⟩
  ·obtain rfl:k=0:=ab;have e:pre.map Yv.u=vs.reverse:=by have:=aet;rwa[List.drop_zero]at this
   gi_wp2
   go_end0;exact⟨⟨_,rfl⟩,.inl ⟨pre,e,hJ⟩⟩
theorem ql (a:Option Addr)(len cap:Nat)(w:World):Calls prog 38 #[.slice a len cap] w fun e w'=>e=.returned (.func (.func 72) #[] #[.pointer (some ⟨w.heap.size,0,none⟩)])/\w'=w.alloc (.cells #[.slice a len cap] 30):=by go_enter func38,ntmps38;go_wp2;go_ret;exact⟨rfl,rfl⟩
theorem xL {c mn:Nat}(U:Us W0 ao N vs)(hN:N<=140737488351232)(hf:∀u∈vs,fB c mn u=true)(m:Nat)(Bs:Nat)(w:World)(G:Gr W0 w)(hBs:w.heap[Bs]?=some (.cells #[.slice ao N cap] 30 (0,0))):SeqStopsK Fence.wide m prog 72 #[.pointer (some ⟨Bs,0,none⟩)] (Yv.enc (W0:=W0) (c:=c) (mn:=mn)) (Kr W0.heap.size) (fun ys=>ys.map Yv.u=vs.reverse) (fun _=>True) N w:=fun l J Jx W hW _ _ hY h0=>by
 refine(aaQ U hN hf m l Bs J Jx hY W (auI G (aun hW G.size)) ((hW.block _ (gs hBs).1).trans hBs) h0).mono ?_;rintro e W' ⟨he,h|⟨pre,h⟩⟩
 ·exact⟨he,.inl h⟩
 ·exact⟨he,.inr ⟨pre,trivial,h⟩⟩
end Ud
namespace Ud
open Go.Shelf Mm Hh Hc Mc
variable{hs:List Hv}
attribute [local go_sem] Oper.semAt_some
def U6 (mn:Nat) (hs:List Hv) (us:List Uv) (st:Int):Int:=if jL mn hs=false then 2 else if us.all (fB hs.length mn)=false then 2 else if st<0\/(us.length:Int)<st then 3 else 0
def noP (Q:Exit→Act→World→Prop):Exit→Act→World→Prop
 | .panic _,_,_=>False
 |e,a,w=>Q e a w
theorem aaR {c:Code}{Q:Exit->Act->World->Prop}(h:c.wp P (noP Q) a w):c.wp P Q a w:=Code.wp_mono (fun e a w h=>by cases e<;>first|exact h|exact h.elim) h
theorem aeu {Q:Exit->Act->World->Prop}(h:Q .normal a w):noP Q .normal a w:=h
theorem EP:(prog.info? 28).map (·.size)=some 2:=al
theorem J4 (H:Hs w ha hn hs)(b1:mn<=140737488351232)(b2:hn<=140737488351232)(h1:jL mn hs=false):Calls prog 17 #[.agg #[.slice ma mn mc,.slice ha hn hc],.slice la ln lc,.int .i64 st] w fun e w'=>e=.returned (.tuple #[.agg #[.slice none 0 0,.slice none 0 0],.int .i64 2])/\Gr w w':=by
 have Ck:Hid (∀W:World,Gr w W->Calls prog 34 #[.agg #[.slice ma mn mc,.slice ha hn hc]] W fun e w'=>e=.returned (.bool false)/\Gr W w'):=fun W G=>by rw[<-h1];exact lT mc hc mn (H.of G) b1 b2
 go_enter func17,ntmps17;go_wp2_with fail;refine(Ck _ (br.alloc _)).mono ?_;rintro e w1 ⟨rfl,G1⟩;have aU:=kH ((br.alloc _).trans G1);have HA1:=kH ((fA G1).1);have HB1:=kH ((fA G1).2);have m0:=iE HA1;have m1:=iY HA1;go_wp2_with (refine auf rfl 28 _ _ rfl (w.heap.size+1) #[.slice none 0 0,.slice none 0 0] rfl rfl 28 #[.slice none 0 0,.slice none 0 0] ?hb EP rfl al ?_;(case hb=>exact HB1));refine auc (v:=.tuple #[.agg _,.int .i64 2]) (Hr.aI results17 _ _ _ _ _ (0,0) _ _ rfl rfl (Ih HB1) underlying28 rfl EP) rfl ⟨rfl,?_⟩;exact ag aU (aqi _) _
theorem J5 {us:List Uv}(H:Hs w ha hn hs)(U:Us w la ln us)(b1:mn<=140737488351232)(b2:hn<=140737488351232)(b3:ln<=140737488351232)(h1:jL mn hs=true)(h2:us.all (fB hn mn)=false):Calls prog 17 #[.agg #[.slice ma mn mc,.slice ha hn hc],.slice la ln lc,.int .i64 st] w fun e w'=>e=.returned (.tuple #[.agg #[.slice none 0 0,.slice none 0 0],.int .i64 2])/\Gr w w':=by
 have Ck:Hid (∀W:World,Gr w W->Calls prog 34 #[.agg #[.slice ma mn mc,.slice ha hn hc]] W fun e w'=>e=.returned (.bool true)/\Gr W w'):=fun W G=>by rw[<-h1];exact lT mc hc mn (H.of G) b1 b2
 have CR:Hid (∀W:World,Gr w W->Calls prog 35 #[.agg #[.slice ma mn mc,.slice ha hn hc],.slice la ln lc] W fun e w'=>e=.returned (.bool false)/\Gr W w'):=fun W G=>by rw[<-h2];exact zC (U.of G) b1 b2 b3
 go_enter func17,ntmps17;go_wp2_with fail;refine(Ck _ (br.alloc _)).mono ?_;rintro e w1 ⟨rfl,G1⟩;have aU:=kH ((br.alloc _).trans G1);have HA1:=kH ((fA G1).1);have HB1:=kH ((fA G1).2);have m0:=iE HA1;have m1:=iY HA1;go_wp2_with fail;refine(CR _ aU).mono ?_;rintro e w2 ⟨rfl,G2⟩;have HG2:=kH (aU.trans G2);have HA2:=kH (Hr.ae G2 HA1);have HB2:=kH (Hr.ae G2 HB1);go_wp2_with (refine auf rfl 28 _ _ rfl (w.heap.size+1) #[.slice none 0 0,.slice none 0 0] rfl rfl 28 #[.slice none 0 0,.slice none 0 0] ?hb EP rfl al ?_;(case hb=>exact HB2));refine auc (v:=.tuple #[.agg _,.int .i64 2]) (Hr.aI results17 _ _ _ _ _ (0,0) _ _ rfl rfl (Ih HB2) underlying28 rfl EP) rfl ⟨rfl,?_⟩;exact ag HG2 (aqi _) _
theorem J6 {us:List Uv}(H:Hs w ha hn hs)(U:Us w la ln us)(b1:mn<=140737488351232)(b2:hn<=140737488351232)(b3:ln<=140737488351232)(h1:jL mn hs=true)(h2:us.all (fB hn mn)=true)(h3:st<0\/(¬st<0/\(ln:Int)<st)):Calls prog 17 #[.agg #[.slice ma mn mc,.slice ha hn hc],.slice la ln lc,.int .i64 st] w fun e w'=>e=.returned (.tuple #[.agg #[.slice none 0 0,.slice none 0 0],.int .i64 3])/\Gr w w':=by
 have Ck:Hid (∀W:World,Gr w W->Calls prog 34 #[.agg #[.slice ma mn mc,.slice ha hn hc]] W fun e w'=>e=.returned (.bool true)/\Gr W w'):=fun W G=>by rw[<-h1];exact lT mc hc mn (H.of G) b1 b2
 have CR:Hid (∀W:World,Gr w W->Calls prog 35 #[.agg #[.slice ma mn mc,.slice ha hn hc],.slice la ln lc] W fun e w'=>e=.returned (.bool true)/\Gr W w'):=fun W G=>by rw[<-h2];exact zC (U.of G) b1 b2 b3
 rcases h3 with h3|⟨h3,h4⟩
 ·skip
  go_enter func17,ntmps17;go_wp2_with fail;refine(Ck _ (br.alloc _)).mono ?_;rintro e w1 ⟨rfl,G1⟩;have aU:=kH ((br.alloc _).trans G1);have HA1:=kH ((fA G1).1);have HB1:=kH ((fA G1).2);have m0:=iE HA1;have m1:=iY HA1;go_wp2_with fail;refine(CR _ aU).mono ?_;rintro e w2 ⟨rfl,G2⟩;have HG2:=kH (aU.trans G2);have HA2:=kH (Hr.ae G2 HA1);have HB2:=kH (Hr.ae G2 HB1);go_wp2_with (refine auf rfl 28 _ _ rfl (w.heap.size+1) #[.slice none 0 0,.slice none 0 0] rfl rfl 28 #[.slice none 0 0,.slice none 0 0] ?hb EP rfl al ?_;(case hb=>exact HB2));refine auc (v:=.tuple #[.agg _,.int .i64 3]) (Hr.aI results17 _ _ _ _ _ (0,0) _ _ rfl rfl (Ih HB2) underlying28 rfl EP) rfl ⟨rfl,?_⟩;exact ag HG2 (aqi _) _
 ·skip
  go_enter func17,ntmps17;go_wp2_with fail;refine(Ck _ (br.alloc _)).mono ?_;rintro e w1 ⟨rfl,G1⟩;have aU:=kH ((br.alloc _).trans G1);have HA1:=kH ((fA G1).1);have HB1:=kH ((fA G1).2);have m0:=iE HA1;have m1:=iY HA1;go_wp2_with fail;refine(CR _ aU).mono ?_;rintro e w2 ⟨rfl,G2⟩;have HG2:=kH (aU.trans G2);have HA2:=kH (Hr.ae G2 HA1);have HB2:=kH (Hr.ae G2 HB1);go_wp2_with (refine auf rfl 28 _ _ rfl (w.heap.size+1) #[.slice none 0 0,.slice none 0 0] rfl rfl 28 #[.slice none 0 0,.slice none 0 0] ?hb EP rfl al ?_;(case hb=>exact HB2));refine auc (v:=.tuple #[.agg _,.int .i64 3]) (Hr.aI results17 _ _ _ _ _ (0,0) _ _ rfl rfl (Ih HB2) underlying28 rfl EP) rfl ⟨rfl,?_⟩;exact ag HG2 (aqi _) _
theorem PE {ma:Option Addr}{mn mc hc lc:Nat}{st:Int}{us:List Uv}(H:Hs w ha hn hs)(U:Us w la ln us)(b1:mn<=140737488351232)(b2:hn<=140737488351232)(b3:ln<=140737488351232)(hno:¬U6 mn hs us st=0):Calls prog 17 #[.agg #[.slice ma mn mc,.slice ha hn hc],.slice la ln lc,.int .i64 st] w fun e w'=>e=.returned (.tuple #[.agg #[.slice none 0 0,.slice none 0 0],.int .i64 (U6 mn hs us st)])/\Gr w w':=by
 have hl:=H.len;have ul:=U.len;unfold U6 at hno ⊢;rw[hl]at hno ⊢;by_cases h1:jL mn hs=false
 ·rw[at7 h1];exact J4 H b1 b2 h1
 ·rw[at6 h1]at hno ⊢;rw[aq1]at h1;by_cases h2:us.all (fB hn mn)=false
  ·rw[at7 h2];exact J5 H U b1 b2 b3 h1 h2
  ·rw[at6 h2]at hno ⊢;rw[aq1]at h2;by_cases h3:st<0\/(us.length:Int)<st
   ·rw[at7 h3];exact J6 H U b1 b2 b3 h1 h2 ab
   ·exact absurd (at6 h3) hno
def rf (mo:Option Addr) (cap f:Nat):Option Addr:=if cap=f then mo else mo.map fun ad=>ad.add (f*41)
def MvO (w:World) (b:Nat) (v:Value) (c mn:Nat) (hs:List Hv) (m:List UInt8):Prop:=∃ma mc gh hc,v=.agg #[.slice ma mn mc,.slice (some ⟨gh,0,none⟩) c hc]/\Hc.Own w b (.slice ma mn mc) m/\b<=gh/\bQ w gh hs/\Zh w gh hc/\hs.length=c/\m.length=mn
theorem U7 {q:Nat}{us:List Uv}(U:Us w la ln us)(hq:q<=ln)(hc:ln<=lc):Us w (rf la lc q) (ln-q) (us.drop q):=by
 have hl:=U.len;refine⟨by rw[aqh,hl],fun hn=>?_⟩;obtain⟨b,o,rfl,hb,h⟩:=U.spot ab;have e:rf (some ⟨b,o,none⟩) lc q=some ⟨b,o+q*41,none⟩:=by unfold rf;rw[ak,ap7,cz]
 refine⟨b,o+q*41,e,hb,fun j u hj=>?_⟩;rw[ap3]at hj;obtain⟨x,h1,h2⟩:=h _ u hj;exact⟨x,h1,fun i v hi=>by have:=h2 i v hi;rw[show o+q*41+j*41+i=o+(q+j)*41+i by omega];exact this⟩
theorem nE (s:List Hv×List UInt8)(l:List Uv):l.reverse.foldl bX s=bE s l:=by unfold bE;rw[List.foldl_reverse]
theorem Mz.kept {z:Nat}(Z:Mz w n z M gh hc hs m)(q:∀(k:Nat) (o:Array Value) (t:Nat) (f:Nat×Nat),w.heap[k]?=some (.cells o t f)->w'.heap[k]?=w.heap[k]?):Mz w' n z M gh hc hs m:=⟨(q _ _ _ _ Z.blk).trans Z.blk,Z.bz,Z.mem.to fun k o f e=>q k o _ f e,Z.bh,Z.row.to fun k o f e=>q k o _ f e,Z.hz.to fun k o f e=>q k o _ f e⟩
theorem eP {W W':World}{row:Option Nat}{B:Nat}(hg:W.grownBy W' row)(hr:∀r,row=some r->B<=r/\∃o:Obj,W.heap[r]?=some o/\o.isCells=false):∀(k:Nat) (o:Array Value) (t:Nat) (f:Nat×Nat),W.heap[k]?=some (.cells o t f)->W'.heap[k]?=W.heap[k]?:=fun k o t f e=>by refine hg.block k (gs e).1 (fun e2=>?_);obtain⟨_,ob,h1,h2⟩:=hr k e2.symm;rw[e]at h1;injection h1 with h1;subst h1;cases h2
theorem PG (s:List Hv×List UInt8)(u:Uv)(h1:s.1.length=c)(h2:s.2.length=mn)(hf:fB c mn u=true)(f0:0<=u.fr):(bX s u).1.length=c/\(bX s u).2.length=mn:=by unfold fB at hf;simp only[apD,auk]at hf;have:=hf.2.2.1;unfold bX lay;refine⟨by simp[nC,h1],?_⟩;simp;omega
theorem kG {c mn:Nat}:∀(l:List Uv) (s:List Hv×List UInt8),s.1.length=c→s.2.length=mn→(∀u∈l,fB c mn u=true∧0≤u.fr)→(l.foldl bX s).1.length=c∧(l.foldl bX s).2.length=mn
 | [],s,h1,h2,_=>⟨h1,h2⟩
 |u::r,s,h1,h2,h=>by
  have:=PG s u h1 h2 (h u aq).1 (h u aq).2;exact kG r (bX s u) this.1 this.2 (fun v hv=>h v (by simp[hv]))
theorem J7 {us:List Uv}(M:Mem w ma mn m)(hcap:ma=none->mc=0)(H:Hs w ha hn hs)(U:Us w la ln us)(b3:ln<=140737488351232)(hlc:ln<=lc)(hy:U6 mn hs us st=0):Calls prog 17 #[.agg #[.slice ma mn mc,.slice ha hn hc],.slice la ln lc,.int .i64 st] w fun e w'=>∃v,e=.returned (.tuple #[v,.int .i64 0])/\MvO w' w.heap.size v hn mn (bE (hs,m) (us.drop (ln-st.toNat))).1 (bE (hs,m) (us.drop (ln-st.toNat))).2/\Gr w w':=by
 have hl:=H.len;have ul:=U.len;have ml:=M.len;unfold U6 at hy;rw[hl]at hy;by_cases h1:jL mn hs=false
 ·rw[at7 h1]at hy;cases hy
 rw[at6 h1,aq1]at *
 by_cases h2:us.all (fB hn mn)=false
 ·rw[at7 h2]at hy;cases hy
 rw[at6 h2,aq1]at *
 by_cases h3:st<0\/(us.length:Int)<st
 ·rw[at7 h3]at hy;cases hy
 clear hy;obtain⟨s,rfl⟩:=apt (show 0<=st by omega);have hs1:¬(s:Int)<0:=ab;have hs2:¬(ln:Int)<(s:Int):=ab;have hs3:s<=ln:=ab;rw[apG];have hmm:mn<=4096/\1<=hn/\hn<=4:=by
  unfold jL at h1;simp only[apD,auk,hl]at h1;exact h1.1
 obtain⟨m4,n1,n4⟩:=hmm;have b1:mn<=140737488351232:=ab;have b2:hn<=140737488351232:=ab;have Ck:Hid (∀W:World,Gr w W->Calls prog 34 #[.agg #[.slice ma mn mc,.slice ha hn hc]] W fun e w'=>e=.returned (.bool true)/\Gr W w'):=fun W G=>by rw[<-h1];exact lT mc hc mn (H.of G) b1 b2
 have CR:Hid (∀W:World,Gr w W->Calls prog 35 #[.agg #[.slice ma mn mc,.slice ha hn hc],.slice la ln lc] W fun e w'=>e=.returned (.bool true)/\Gr W w'):=fun W G=>by rw[<-h2];exact zC (U.of G) b1 b2 b3
 have HUD:Hid (Us w (rf la lc (ln-s)) (ln-(ln-s)) (us.drop (ln-s))):=U7 U ab hlc;have HFU:Hid (∀u∈us.drop (ln-s),fB hn mn u=true):=fun u hu=>by
  have:=apM.1 h2 u (aqR hu);exact this
 have hla:(la=none/\ln=0)\/∃b o,la=some ⟨b,o,none⟩\/ln=0:=by
  by_cases h0:0<ln
  ·obtain⟨b,o,e,_⟩:=U.spot h0;exact .inr ⟨b,o,.inl e⟩
  ·exact .inr ⟨0,0,.inr ab⟩
 obtain⟨hb,ho,he,_,_⟩:=H.spot ab;subst he;have C1:Hid (∀W:World,Gr w W->Calls prog 36 #[.slice ma mn mc] W fun e w'=>∃a c,e=.returned (.slice a mn c)/\Hc.Own w' w.heap.size (.slice a mn c) m/\Gr W w'):=fun W G=>(qQ (M.of G) hcap ab).mono fun e w' ⟨v,e1,e2,e3⟩=>by
  obtain⟨a,c,rfl,_⟩:=e2.mem;rw[ml]at e1 e2;exact⟨a,c,e1,e2.base (w':=w') G.size,e3⟩
 have C2:Hid (∀W:World,Gr w W->Calls prog 37 #[.slice (some ⟨hb,ho,none⟩) hn hc] W fun e w'=>∃g c,e=.returned (.slice (some ⟨g,0,none⟩) hn c)/\w.heap.size<=g/\(bQ w' g hs/\Zh w' g c)/\Gr W w'):=fun W G=>(uy hc (H.of G) n1 n4).mono fun e w' ⟨g,c,e1,e2,e3⟩=>⟨g,c,e1,apr G.size e2,e3⟩
 have xD:=kH hl;have Xx:=kH ml;have HUL:=kH ul;have e1:IntKind.i64.wrap ((ln:Int)-(s:Int))=((ln-s:Nat):Int):=by simp[IntKind.wrap,IntKind.bits,IntKind.signed];omega
 clear H U M hcap h1 h2 h3 hl ul ml;refine callsIn_wide.1 (callsIn_of_wp_marks (F:=Fence.wide) (n:=9) func17 rfl trivial ?_ rfl);refine wpIn_wide.2 ?_;simp only[ntmps17,ap2,apH,ap8,Nat.reduceAdd,Nat.reduceSub,Array.replicate_succ,Array.replicate_zero,List.push_toArray,List.append_toArray,apO,apZ];go_wp2_with fail;refine(Ck _ (br.alloc _)).mono ?_;rintro e w1 ⟨rfl,G1⟩;have aU:=kH ((br.alloc _).trans G1);have HA1:=kH ((fA G1).1);have HB1:=kH ((fA G1).2);have m0:=iE HA1;have m1:=iY HA1;clear G1 Ck;go_wp2_with fail;refine(CR _ aU).mono ?_;rintro e w2 ⟨rfl,G2⟩;have HG2:=kH (aU.trans G2);have HA2:=kH (Hr.ae G2 HA1);have HB2:=kH (Hr.ae G2 HB1);clear G2 CR m0 m1 aU HA1 HB1;have m0:=iE HA2;have m1:=iY HA2;go_wp2_with fail;have rT:Hid (∀V:World,Gr w2 V->(fun W=>W.cell? ⟨w.heap.size,0,none⟩=some (.slice ma mn mc)/\W.cell? ⟨w.heap.size,1,none⟩=some (.slice (some ⟨hb,ho,none⟩) hn hc)) V):=fun V G=>⟨iE (Hr.ae G HA2),iY (Hr.ae G HA2)⟩
 refine aaR ?_;refine aut (S:=fun W=>W.cell? ⟨w.heap.size,0,none⟩=some (.slice ma mn mc)/\W.cell? ⟨w.heap.size,1,none⟩=some (.slice (some ⟨hb,ho,none⟩) hn hc)) al (rT _ (Gr.drew (Gr.refl _))) (fun hHeld=>?_);have aY:=kH hHeld;clear hHeld;refine tK 0 (.pointer (some ⟨w.heap.size,0,none⟩)) aY ?_;refine tK 1 (.slice ma mn mc) aY ?_;refine tK 3 (.pointer (some ⟨w.heap.size,1,none⟩)) aY ?_;refine tK 4 (.slice (some ⟨hb,ho,none⟩) hn hc) aY ?_;obtain⟨FA,HFA⟩:∃FA:Nat->Option Addr->Nat->Nat->Nat->World->Prop,Hid (FA=fun(z:Nat) (a2:Option Addr) (c2 g3 c3:Nat) (V:World)=>V.heap[z]?=some (.cells #[.slice none 0 0,.slice none 0 0] 28 (0,0))/\w2.heap.size<=z/\Hc.Own V w.heap.size (.slice a2 mn c2) m/\w.heap.size<=g3/\(bQ V g3 hs/\Zh V g3 c3)/\Gr w2 V):=⟨_,rfl⟩;have HD:Hid (Gr w2 w2.drew):=Gr.drew (Gr.refl _);apply Pv
 ·intro jO;refine aue (rs:=[2,7]) al aq ?_;refine aua rfl (fun K hK=>?_) (aua rfl (fun K hK=>?_) aud)
  ·skip
   go_simp;refine(C1 _ (HG2.trans HD)).mono ?_;rintro e w3 ⟨a2,c2,rfl,O3,G3⟩;have yD:=kH O3;have fQ:=kH (Gr.trans HD G3);refine hK.out _ _ (rT _ fQ) (fun hx=>?_);clear hK K hx O3;refine aue (rs:=[5,7]) al aq ?_;refine aua rfl (fun K hK=>?_) (aua rfl (fun K hK=>?_) aud)
   ·skip
    go_simp;refine(C2 _ (HG2.trans fQ)).mono ?_;rintro e w4 ⟨g3,c3,rfl,hg3,R4,G4⟩;have fC:=kH (Gr.trans fQ G4);refine hK.out _ _ (rT _ fC) (fun hx=>?_);clear hK K hx;refine tK 6 (.agg #[.slice a2 mn c2,.slice (some ⟨g3,0,none⟩) hn c3]) (rT _ fC) ?_;refine aue (rs:=[7]) al aq ?_;refine aua rfl (fun K hK=>?_) aud;go_simp;refine hK.out _ _ (rT _ (Gr.alloc fC _)) (fun hx=>?_);clear hK K hx;obtain⟨z,hz⟩:∃z:Nat,z=w4.heap.size:=⟨_,rfl⟩;rw[<-hz];refine JW (FA z a2 c2 g3 c3) ?hfa ?_
    case hfa=>rw[HFA.out];exact⟨by rw[hz];exact at5 w4 _,by rw[hz];exact fC.size,gT (gT yD G4) br,hg3,⟨R4.1.of br,R4.2.of br⟩,Gr.alloc fC _⟩
    clear hz fC fQ yD hg3 R4 G3 G4;clear w4 w3
    revert z a2 c2 g3 c3
    exact jO.out
   ·skip
    go_simp;refine hK.out _ _ (rT _ (Gr.alloc fQ _)) (fun hx=>?_);clear hK K hx;refine aue (rs:=[5]) al aq ?_;refine aua rfl (fun K hK=>?_) aud;go_simp;refine(C2 _ (HG2.trans (Gr.alloc fQ _))).mono ?_;rintro e w4 ⟨g3,c3,rfl,hg3,R4,G4⟩;have fC:=kH (Gr.trans (Gr.alloc fQ _) G4);refine hK.out _ _ (rT _ fC) (fun hx=>?_);clear hK K hx;refine tK 6 (.agg #[.slice a2 mn c2,.slice (some ⟨g3,0,none⟩) hn c3]) (rT _ fC) ?_;obtain⟨z,hz⟩:∃z:Nat,z=w3.heap.size:=⟨_,rfl⟩;rw[<-hz];refine JW (FA z a2 c2 g3 c3) ?hfa ?_
    case hfa=>rw[HFA.out];exact⟨by rw[hz];exact Hr.ae G4 (at5 w3 _),by rw[hz];exact fQ.size,gT yD (Gr.trans br G4),hg3,R4,fC⟩
    clear hz fC fQ yD hg3 R4 G3 G4;clear w4 w3
    revert z a2 c2 g3 c3
    exact jO.out
  ·skip
   go_simp;refine hK.out _ _ (rT _ (Gr.alloc HD _)) (fun hx=>?_);clear hK K hx;refine aue (rs:=[2]) al aq ?_;refine aua rfl (fun K hK=>?_) aud;go_simp;refine(C1 _ (HG2.trans (Gr.alloc HD _))).mono ?_;rintro e w3 ⟨a2,c2,rfl,O3,G3⟩;have yD:=kH O3;have fQ:=kH (Gr.trans (Gr.alloc HD _) G3);refine hK.out _ _ (rT _ fQ) (fun hx=>?_);clear hK K hx O3;refine aue (rs:=[5]) al aq ?_;refine aua rfl (fun K hK=>?_) aud;go_simp;refine(C2 _ (HG2.trans fQ)).mono ?_;rintro e w4 ⟨g3,c3,rfl,hg3,R4,G4⟩;have fC:=kH (Gr.trans fQ G4);refine hK.out _ _ (rT _ fC) (fun hx=>?_);clear hK K hx;refine tK 6 (.agg #[.slice a2 mn c2,.slice (some ⟨g3,0,none⟩) hn c3]) (rT _ fC) ?_;obtain⟨z,hz⟩:∃z:Nat,z=w2.heap.size:=⟨_,rfl⟩;rw[<-hz];refine JW (FA z a2 c2 g3 c3) ?hfa ?_
   case hfa=>rw[HFA.out];exact⟨by rw[hz];exact Hr.ae G4 (Hr.ae G3 (at5 w2.drew _)),by rw[hz];exact apn _,gT yD G4,hg3,R4,fC⟩
   clear hz fC fQ yD hg3 R4 G3 G4;clear w4 w3
   revert z a2 c2 g3 c3
   exact jO.out
 intro a2 c2 g3 c3 z V hF;rw[HFA.out]at hF;obtain⟨kz,hz2,O5,hg5,R5,G5⟩:=hF;have HBH:=kH hg5;have HKz:=kH kz;have hb2:=(gs HB2).1;have EN:Hid (Mz (V.setRow z #[.slice a2 mn c2,.slice (some ⟨g3,0,none⟩) hn c3]) w.heap.size z (.slice a2 mn c2) g3 c3 hs m):=by
  have st:∀(k:Nat) (q:Array Value) (t:Nat) (f:Nat×Nat),t≠28->V.heap[k]?=some (.cells q t f)->(V.setRow z #[.slice a2 mn c2,.slice (some ⟨g3,0,none⟩) hn c3]).heap[k]?=V.heap[k]?:=fun k q t f ht hk=>sV (aa hk kz ht)
  refine⟨?_,ab,O5.to fun k o f e=>st k o _ f an e,hg5,R5.1.to fun k o f e=>st k o _ f an e,R5.2.to fun k o f e=>st k o _ f an e⟩;rw[xD.out];exact Ih kz
 have lu:Hid (Gr w2 (V.setRow z #[.slice a2 mn c2,.slice (some ⟨g3,0,none⟩) hn c3])):=ag G5 hz2 _;clear kz O5 hg5 R5 G5;refine aue (rs:=[8]) al aq ?_;refine aua rfl (fun K hK=>?_) aud;refine gP rfl 28 (.tmp 8) (.tmp 36) rfl z #[.slice a2 mn c2,.slice (some ⟨g3,0,none⟩) hn c3] aw aw 28 #[.slice none 0 0,.slice none 0 0] HKz EP rfl al ?_;refine hK.out _ _ (rT _ lu) (fun hx=>?_);clear hK K hx;refine auy al ?_ _;refine aeu ?_;generalize V.setRow z #[.slice a2 mn c2,.slice (some ⟨g3,0,none⟩) hn c3]=W3 at *
 have HB3:=kH (Hr.ae lu HB2);have fQ:=kH (HG2.trans lu);have hzr:z≠w.heap.size+1:=ab;clear HKz rT aY HFA HD FA HA2 HB2 HG2 lu m0 m1 C1 C2 hz2;clear V;obtain⟨q,hq⟩:∃q:Nat,q=ln-s:=⟨_,rfl⟩;have HQ:=kH hq;have hql:q<=ln:=ab;have hqi:(q:Int)<=(ln:Int):=ab;have hqc:(ln:Int)<=(lc:Int):=ab;rw[<-hq]at e1 HUD;clear hq;by_cases hcl:lc=q
 ·subst hcl;have h0:ln-lc=0:=ab;have HX:Hid (Us w la 0 (us.drop (ln-s))):=by have:=HUD;unfold rf at this;rw[at7 rfl,h0]at this;rw[<-HQ.out];exact this
  go_wp2_with fail;refine(ql _ _ _ _).mono ?_;rintro e w5 ⟨rfl,rfl⟩;go_wp2_with fail;have KX:Hid ((W3.alloc (.cells #[.slice la 0 0] 30)).heap[W3.heap.size]?=some (.cells #[.slice la 0 0] 30 (0,0))):=at5 W3 _;have lu:Hid (Gr w (W3.alloc (.cells #[.slice la 0 0] 30))):=fQ.alloc _;have EO:Hid (Mz (W3.alloc (.cells #[.slice la 0 0] 30)) w.heap.size z (.slice a2 mn c2) g3 c3 hs m):=EN.kept fun k o t f e=>((Gr.refl W3).alloc _).block _ (gs e).1
  have Xj:Hid ((W3.alloc (.cells #[.slice la 0 0] 30)).heap[w.heap.size+1]?=some (.cells #[.slice none 0 0,.slice none 0 0] 28 (0,0))):=Hr.ae ((Gr.refl W3).alloc _) HB3;generalize hW6:W3.alloc (.cells #[.slice la 0 0] 30)=W6 at *
  have hw6:=lu.size;clear hW6;refine(wpIn_wide (n:=9)).1 ?_
  refine wpIn_rangeFunc_ownH (F:=Fence.wide) (n:=9) rfl ab (gf:=72) (lb:=#[.pointer (some ⟨W3.heap.size,0,none⟩)]) rfl trivial (enters_of func72 al rfl)
   (xL (c:=hn) (mn:=mn) HX ab HFU (9-1) W3.heap.size W6 lu KX) Kr.trans (aer hw6) (auC _ _) (fun _=>rfl)
   (fun pre W=>(Mz W w.heap.size z (.slice a2 mn c2) g3 c3 ((pre.map Yv.u).foldl bX (hs,m)).1 ((pre.map Yv.u).foldl bX (hs,m)).2/\W.heap[w.heap.size+1]?=some (.cells #[.slice none 0 0,.slice none 0 0] 28 (0,0)))/\Below w.heap.size w W)
   (fun _ _ _=>False)
   (OwnFrom.and (fun s X X' row h hg hr=>⟨h.1.kept (eP hg hr),(eP hg hr _ _ _ _ h.2).trans h.2⟩) (ownFrom_below (apn _) hw6))
   (fun _ _ _ _ _ h _ _=>h)
   ⟨⟨EO,Xj⟩,lu⟩
   (fun y a' W=>∃Bx,W.heap[Bx]?=some (.cells y.x.toArray 121 (0,0))/\a'={ tmps:=#[.agg #[.slice ma mn mc,.slice (some ⟨hb,ho,none⟩) hn hc],.slice la ln lc,.int .i64 s,.pointer (some ⟨w.heap.size,0,none⟩),undef,undef,.pointer (some ⟨(w.heap.size+1),0,none⟩),.int .i64 0,.pointer (some ⟨z,0,none⟩),undef,.pointer (some ⟨Bx,0,none⟩),.agg #[.slice ma mn mc,.slice (some ⟨hb,ho,none⟩) hn hc],.bool true,.bool false,.bool false,.agg #[.slice ma mn mc,.slice (some ⟨hb,ho,none⟩) hn hc],.slice la ln lc,.bool true,.bool false,.bool false,undef,.int .i64 s,.bool (decide ((s:Int)<0)),.bool (decide ((s:Int)<0)),.int .i64 s,.slice la ln lc,.int .i64 ln,.bool false,.bool (decide ((s:Int)<0)),undef,.pointer (some ⟨w.heap.size,0,none⟩),.slice ma mn mc,.slice a2 mn c2,.pointer (some ⟨w.heap.size,1,none⟩),.slice (some ⟨hb,ho,none⟩) hn hc,.slice (some ⟨g3,0,none⟩) hn c3,.agg #[.slice a2 mn c2,.slice (some ⟨g3,0,none⟩) hn c3],.slice la ln lc,.slice la ln lc,.int .i64 ln,.int .i64 s,.int .i64 lc,.slice la 0 0,.func (.func 72) #[] #[.pointer (some ⟨W3.heap.size,0,none⟩)],.int .i64 (y.1.1:Int),.agg y.x.toArray,undef,undef,undef],defers:=[] })
   (fun y a' _ X X' row h hg hr=>by obtain⟨Bx,h1,h2⟩:=h;exact⟨Bx,(eP hg hr _ _ _ _ h1).trans h1,h2⟩)
   ?assign ?body ?done ?stop
  case assign=>
   rintro l pre y W K ⟨⟨Z7,B7⟩,L7⟩ hK;have CS:Hid (y.x.length=41):=y.2.1.len;have CU:Hid (y.x.toArray.size=41):=by unfold Hid;simp[CS.out]
   have kL:Hid (y.x.toArray.all (·.oneCell')=true):=y.2.1.one;unfold Yv.enc;have G7:∀Y:Array Value,Gr W ((W.alloc (.cells Y 121)).setRow W.heap.size y.x.toArray):=fun Y=>ag br (apn _) _
   have zB:Hid _:=G7;have HK:Hid _:=hK;have JZ:Hid (Mz W w.heap.size z (.slice a2 mn c2) g3 c3 ((pre.map Yv.u).foldl bX (hs,m)).1 ((pre.map Yv.u).foldl bX (hs,m)).2):=Z7;have sN:Hid (W.heap[w.heap.size+1]?=some (.cells #[.slice none 0 0,.slice none 0 0] 28 (0,0))):=B7;have Gj:Hid (Below w.heap.size w W):=L7;have hwl:=L7.size;clear hK Z7 B7 L7 G7
   gi_wp2_with (refine iP rfl 121 _ _ rfl W.heap.size y.x.toArray rfl rfl 121 _ (at5 W _) (by rw[CU.out];exact iU) (by rw[CU.out];rfl) kL ?_)
   exact HK _ _ ((Th.bD (n:=w.heap.size) (zB _) hwl).keeps) ((Th.bD (zB _) hwl).kr) ⟨⟨JZ.kept fun k o t f e=>(zB _).block _ (gs e).1,Hr.ae (zB _) sN⟩,Gj.trans (aun (zB _) hwl)⟩ ⟨W.heap.size,Ih (at5 W _),rfl⟩
  case body=>
   rintro l pre y a' W hl hr ⟨⟨Z7,B7⟩,L7⟩ ⟨Bx,hBx,rfl⟩ hlt;dsimp only;have hfl:=kG (pre.map Yv.u) (hs,m) xD Xx (fun u hu=>by
    obtain⟨y',_,rfl⟩:=apK.1 hu;obtain⟨_,_,_,_,_,_,_,ok,_⟩:=y'.2.1;exact⟨y'.2.2,ok.f0⟩)
   have CS:Hid (y.x.length=41):=y.2.1.len;have RG:Hid (W.rangeAt Bx 0 y.x):=fun i v hi=>by rw[apu,cr hBx,apm];exact hi
   have HTB:Hid (Calls prog 39 #[.pointer (some ⟨z,0,none⟩),.agg y.x.toArray] W fun e w'=>e=.returned (.tuple #[])/\Mz w' w.heap.size z (.slice a2 mn c2) g3 c3 (((pre++[y]).map Yv.u).foldl bX (hs,m)).1 (((pre++[y]).map Yv.u).foldl bX (hs,m)).2/\Th w.heap.size W w'):=by
    have:=qj y.2.1 L7 Z7 hfl.1 n4 hfl.2 m4 y.2.2;have e:((pre++[y]).map Yv.u).foldl bX (hs,m)=bX ((pre.map Yv.u).foldl bX (hs,m)) y.u:=by rw[aqb,aqy];rfl
    rw[e];exact this
   have sN:Hid (W.heap[w.heap.size+1]?=some (.cells #[.slice none 0 0,.slice none 0 0] 28 (0,0))):=B7;have Gj:Hid (Below w.heap.size w W):=L7;clear Z7 B7 L7 hfl hBx hr hlt
   gi_wp2_with (first
    |(refine gy rfl 121 _ rfl Bx 0 rfl y.x _ ?r1 underlying121 rfl (by rw[CS.out];exact iU) ?_;(case r1=>exact RG))
    |(refine⟨trivial,?_⟩;gi_at_call 39;refine(CallsIn.inRound l (callsIn_wide.2 HTB)).mono ?_;rintro e w8 ⟨rfl,Z8,T8⟩))
   exact⟨T8.keeps,T8.kr,⟨Z8,T8.row sN an an⟩,Gj.trans T8.below⟩
  case done=>
   rintro D ys W hD hys ⟨⟨Z7,B7⟩,L7⟩ hK;rw[hys,nE]at Z7;have hfl:(bE (hs,m) (us.drop (ln-s))).1.length=hn/\(bE (hs,m) (us.drop (ln-s))).2.length=mn:=by
    rw[<-nE];refine kG _ (hs,m) xD Xx (fun u hu=>?_);rw[<-hys]at hu;obtain⟨y',_,rfl⟩:=apK.1 hu;obtain⟨_,_,_,_,_,_,_,ok,_⟩:=y'.2.1;exact⟨y'.2.2,ok.f0⟩
   have JZ:Hid (Mz W w.heap.size z (.slice a2 mn c2) g3 c3 (bE (hs,m) (us.drop (ln-s))).1 (bE (hs,m) (us.drop (ln-s))).2):=Z7;have HFL:Hid _:=hfl;generalize hbk:(bE (hs,m) (us.drop (ln-s)))=bk at *
   have sN:Hid (W.heap[w.heap.size+1]?=some (.cells #[.slice none 0 0,.slice none 0 0] 28 (0,0))):=B7;have kz:W.heap[z]?=some (.cells #[.slice a2 mn c2,.slice (some ⟨g3,0,none⟩) hn c3] 28 (0,0)):=by have:=Z7.blk;rw[hfl.1]at this;exact this
   have HKz:Hid _:=kz;have Gj:Hid (Gr w W):=L7;have HKD:Hid (W.heap[D]?=some (.deferred (some []))):=hK;clear Z7 B7 L7 hK kz hfl hys
   go_wp2_with (first
    |(refine auL rfl 28 _ rfl z rfl 28 #[.slice a2 mn c2,.slice (some ⟨g3,0,none⟩) hn c3] (0,0) _ ?yy1 underlying28 rfl EP ?_;(case yy1=>exact HKz))
    |(refine auf rfl 28 _ _ rfl (w.heap.size+1) #[.slice a2 mn c2,.slice (some ⟨g3,0,none⟩) hn c3] rfl rfl 28 #[.slice none 0 0,.slice none 0 0] ?yy2 EP rfl al ?_;(case yy2=>exact sN)))
   have hDr:D≠w.heap.size+1:=by have:=(gs Xj).1;omega
   have HK9:Hid ((W.setRow (w.heap.size+1) #[.slice a2 mn c2,.slice (some ⟨g3,0,none⟩) hn c3]).heap[D]?=some (.deferred (some []))):=(sV hDr).trans HKD;have H9b:Hid ((W.setRow (w.heap.size+1) #[.slice a2 mn c2,.slice (some ⟨g3,0,none⟩) hn c3]).heap[w.heap.size+1]?=some (.cells #[.slice a2 mn c2,.slice (some ⟨g3,0,none⟩) hn c3] 28 (0,0))):=Ih sN;have H9:Hid (Hc.Own (W.setRow (w.heap.size+1) #[.slice a2 mn c2,.slice (some ⟨g3,0,none⟩) hn c3]) w.heap.size (.slice a2 mn c2) bk.2/\bQ (W.setRow (w.heap.size+1) #[.slice a2 mn c2,.slice (some ⟨g3,0,none⟩) hn c3]) g3 bk.1/\Zh (W.setRow (w.heap.size+1) #[.slice a2 mn c2,.slice (some ⟨g3,0,none⟩) hn c3]) g3 c3):=⟨JZ.mem.to fun k o f e=>sV (aa e sN an),JZ.row.to fun k o f e=>sV (aa e sN an),JZ.hz.to fun k o f e=>sV (aa e sN an)⟩;have HG9:Hid (Gr w (W.setRow (w.heap.size+1) #[.slice a2 mn c2,.slice (some ⟨g3,0,none⟩) hn c3])):=ag Gj (aqi _) _;have HBk:Hid (bk=bE (hs,m) (us.drop (ln-s))):=by unfold Hid;exact hbk.symm
   rw[hbk];generalize W.setRow (w.heap.size+1) #[.slice a2 mn c2,.slice (some ⟨g3,0,none⟩) hn c3]=W9 at *
   have kc:=eP (B:=0) (grownBy_putObj' W9 D (.deferred none)) (fun r e=>by cases e;exact⟨apF _,_,HK9,rfl⟩);refine⟨aq,.inl ⟨D,_,rfl,run_takeDeferred HK9,?_⟩⟩;refine⟨_,Hr.aI results17 _ _ _ _ _ (0,0) _ _ rfl rfl ((kc _ _ _ _ H9b).trans H9b) underlying28 rfl EP,_,rfl,?_,auI HG9 (belowK_b (w:=w) (apn _) W9 D _ _ ab HK9 rfl rfl)⟩;obtain⟨l1,l2⟩:=HFL;have O10:=H9.1.to (w':=W9.putObj D (.deferred none)) fun k o f e=>kc k o _ f e
   have R10:=H9.2.1.to (w':=W9.putObj D (.deferred none)) fun k o f e=>kc k o _ f e
   have Z10:=H9.2.2.to (w':=W9.putObj D (.deferred none)) fun k o f e=>kc k o _ f e
   exact⟨_,_,_,_,rfl,O10,HBH,R10,Z10,l1,l2⟩
  case stop=>
   rintro D c pre W _ _ h _;exact h.elim
 ·have HX:Hid (Us w (la.map fun x=>x.add (q*41)) (ln-q) (us.drop (ln-s))):=by have:=HUD;unfold rf at this;rw[at6 hcl]at this;rw[<-HQ.out];exact this
  go_wp2_with fail;refine(ql _ _ _ _).mono ?_;rintro e w5 ⟨rfl,rfl⟩;go_wp2_with fail;have KX:Hid ((W3.alloc (.cells #[.slice (la.map fun x=>x.add (q*41)) (ln-q) (lc-q)] 30)).heap[W3.heap.size]?=some (.cells #[.slice (la.map fun x=>x.add (q*41)) (ln-q) (lc-q)] 30 (0,0))):=at5 W3 _;have lu:Hid (Gr w (W3.alloc (.cells #[.slice (la.map fun x=>x.add (q*41)) (ln-q) (lc-q)] 30))):=fQ.alloc _;have EO:Hid (Mz (W3.alloc (.cells #[.slice (la.map fun x=>x.add (q*41)) (ln-q) (lc-q)] 30)) w.heap.size z (.slice a2 mn c2) g3 c3 hs m):=EN.kept fun k o t f e=>((Gr.refl W3).alloc _).block _ (gs e).1
  have Xj:Hid ((W3.alloc (.cells #[.slice (la.map fun x=>x.add (q*41)) (ln-q) (lc-q)] 30)).heap[w.heap.size+1]?=some (.cells #[.slice none 0 0,.slice none 0 0] 28 (0,0))):=Hr.ae ((Gr.refl W3).alloc _) HB3;generalize hW6:W3.alloc (.cells #[.slice (la.map fun x=>x.add (q*41)) (ln-q) (lc-q)] 30)=W6 at *
  have hw6:w.heap.size<=W6.heap.size:=lu.size;clear hW6;refine(wpIn_wide (n:=9)).1 ?_
  refine wpIn_rangeFunc_ownH (F:=Fence.wide) (n:=9) rfl ab (gf:=72) (lb:=#[.pointer (some ⟨W3.heap.size,0,none⟩)]) rfl trivial (enters_of func72 al rfl)
   (xL (c:=hn) (mn:=mn) HX ab HFU (9-1) W3.heap.size W6 lu KX) Kr.trans (aer hw6) (auC _ _) (fun _=>rfl)
   (fun pre W=>(Mz W w.heap.size z (.slice a2 mn c2) g3 c3 ((pre.map Yv.u).foldl bX (hs,m)).1 ((pre.map Yv.u).foldl bX (hs,m)).2/\W.heap[w.heap.size+1]?=some (.cells #[.slice none 0 0,.slice none 0 0] 28 (0,0)))/\Below w.heap.size w W)
   (fun _ _ _=>False)
   (OwnFrom.and (fun s X X' row h hg hr=>⟨h.1.kept (eP hg hr),(eP hg hr _ _ _ _ h.2).trans h.2⟩) (ownFrom_below (apn _) hw6))
   (fun _ _ _ _ _ h _ _=>h)
   ⟨⟨EO,Xj⟩,lu⟩
   (fun y a' W=>∃Bx,W.heap[Bx]?=some (.cells y.x.toArray 121 (0,0))/\a'={ tmps:=#[.agg #[.slice ma mn mc,.slice (some ⟨hb,ho,none⟩) hn hc],.slice la ln lc,.int .i64 s,.pointer (some ⟨w.heap.size,0,none⟩),undef,undef,.pointer (some ⟨(w.heap.size+1),0,none⟩),.int .i64 0,.pointer (some ⟨z,0,none⟩),undef,.pointer (some ⟨Bx,0,none⟩),.agg #[.slice ma mn mc,.slice (some ⟨hb,ho,none⟩) hn hc],.bool true,.bool false,.bool false,.agg #[.slice ma mn mc,.slice (some ⟨hb,ho,none⟩) hn hc],.slice la ln lc,.bool true,.bool false,.bool false,undef,.int .i64 s,.bool (decide ((s:Int)<0)),.bool (decide ((s:Int)<0)),.int .i64 s,.slice la ln lc,.int .i64 ln,.bool false,.bool (decide ((s:Int)<0)),undef,.pointer (some ⟨w.heap.size,0,none⟩),.slice ma mn mc,.slice a2 mn c2,.pointer (some ⟨w.heap.size,1,none⟩),.slice (some ⟨hb,ho,none⟩) hn hc,.slice (some ⟨g3,0,none⟩) hn c3,.agg #[.slice a2 mn c2,.slice (some ⟨g3,0,none⟩) hn c3],.slice la ln lc,.slice la ln lc,.int .i64 ln,.int .i64 s,.int .i64 q,.slice (la.map fun x=>x.add (q*41)) (ln-q) (lc-q),.func (.func 72) #[] #[.pointer (some ⟨W3.heap.size,0,none⟩)],.int .i64 (y.1.1:Int),.agg y.x.toArray,undef,undef,undef],defers:=[] })
   (fun y a' _ X X' row h hg hr=>by obtain⟨Bx,h1,h2⟩:=h;exact⟨Bx,(eP hg hr _ _ _ _ h1).trans h1,h2⟩)
   ?assign ?body ?done ?stop
  case assign=>
   rintro l pre y W K ⟨⟨Z7,B7⟩,L7⟩ hK;have CS:Hid (y.x.length=41):=y.2.1.len;have CU:Hid (y.x.toArray.size=41):=by unfold Hid;simp[CS.out]
   have kL:Hid (y.x.toArray.all (·.oneCell')=true):=y.2.1.one;unfold Yv.enc;have G7:∀Y:Array Value,Gr W ((W.alloc (.cells Y 121)).setRow W.heap.size y.x.toArray):=fun Y=>ag br (apn _) _
   have zB:Hid _:=G7;have HK:Hid _:=hK;have JZ:Hid (Mz W w.heap.size z (.slice a2 mn c2) g3 c3 ((pre.map Yv.u).foldl bX (hs,m)).1 ((pre.map Yv.u).foldl bX (hs,m)).2):=Z7;have sN:Hid (W.heap[w.heap.size+1]?=some (.cells #[.slice none 0 0,.slice none 0 0] 28 (0,0))):=B7;have Gj:Hid (Below w.heap.size w W):=L7;have hwl:=L7.size;clear hK Z7 B7 L7 G7
   gi_wp2_with (refine iP rfl 121 _ _ rfl W.heap.size y.x.toArray rfl rfl 121 _ (at5 W _) (by rw[CU.out];exact iU) (by rw[CU.out];rfl) kL ?_)
   exact HK _ _ ((Th.bD (n:=w.heap.size) (zB _) hwl).keeps) ((Th.bD (zB _) hwl).kr) ⟨⟨JZ.kept fun k o t f e=>(zB _).block _ (gs e).1,Hr.ae (zB _) sN⟩,Gj.trans (aun (zB _) hwl)⟩ ⟨W.heap.size,Ih (at5 W _),rfl⟩
  case body=>
   rintro l pre y a' W hl hr ⟨⟨Z7,B7⟩,L7⟩ ⟨Bx,hBx,rfl⟩ hlt;dsimp only;have hfl:=kG (pre.map Yv.u) (hs,m) xD Xx (fun u hu=>by
    obtain⟨y',_,rfl⟩:=apK.1 hu;obtain⟨_,_,_,_,_,_,_,ok,_⟩:=y'.2.1;exact⟨y'.2.2,ok.f0⟩)
   have CS:Hid (y.x.length=41):=y.2.1.len;have RG:Hid (W.rangeAt Bx 0 y.x):=fun i v hi=>by rw[apu,cr hBx,apm];exact hi
   have HTB:Hid (Calls prog 39 #[.pointer (some ⟨z,0,none⟩),.agg y.x.toArray] W fun e w'=>e=.returned (.tuple #[])/\Mz w' w.heap.size z (.slice a2 mn c2) g3 c3 (((pre++[y]).map Yv.u).foldl bX (hs,m)).1 (((pre++[y]).map Yv.u).foldl bX (hs,m)).2/\Th w.heap.size W w'):=by
    have:=qj y.2.1 L7 Z7 hfl.1 n4 hfl.2 m4 y.2.2;have e:((pre++[y]).map Yv.u).foldl bX (hs,m)=bX ((pre.map Yv.u).foldl bX (hs,m)) y.u:=by rw[aqb,aqy];rfl
    rw[e];exact this
   have sN:Hid (W.heap[w.heap.size+1]?=some (.cells #[.slice none 0 0,.slice none 0 0] 28 (0,0))):=B7;have Gj:Hid (Below w.heap.size w W):=L7;clear Z7 B7 L7 hfl hBx hr hlt
   gi_wp2_with (first
    |(refine gy rfl 121 _ rfl Bx 0 rfl y.x _ ?r1 underlying121 rfl (by rw[CS.out];exact iU) ?_;(case r1=>exact RG))
    |(refine⟨trivial,?_⟩;gi_at_call 39;refine(CallsIn.inRound l (callsIn_wide.2 HTB)).mono ?_;rintro e w8 ⟨rfl,Z8,T8⟩))
   exact⟨T8.keeps,T8.kr,⟨Z8,T8.row sN an an⟩,Gj.trans T8.below⟩
  case done=>
   rintro D ys W hD hys ⟨⟨Z7,B7⟩,L7⟩ hK;rw[hys,nE]at Z7;have hfl:(bE (hs,m) (us.drop (ln-s))).1.length=hn/\(bE (hs,m) (us.drop (ln-s))).2.length=mn:=by
    rw[<-nE];refine kG _ (hs,m) xD Xx (fun u hu=>?_);rw[<-hys]at hu;obtain⟨y',_,rfl⟩:=apK.1 hu;obtain⟨_,_,_,_,_,_,_,ok,_⟩:=y'.2.1;exact⟨y'.2.2,ok.f0⟩
   have JZ:Hid (Mz W w.heap.size z (.slice a2 mn c2) g3 c3 (bE (hs,m) (us.drop (ln-s))).1 (bE (hs,m) (us.drop (ln-s))).2):=Z7;have HFL:Hid _:=hfl;generalize hbk:(bE (hs,m) (us.drop (ln-s)))=bk at *
   have sN:Hid (W.heap[w.heap.size+1]?=some (.cells #[.slice none 0 0,.slice none 0 0] 28 (0,0))):=B7;have kz:W.heap[z]?=some (.cells #[.slice a2 mn c2,.slice (some ⟨g3,0,none⟩) hn c3] 28 (0,0)):=by have:=Z7.blk;rw[hfl.1]at this;exact this
   have HKz:Hid _:=kz;have Gj:Hid (Gr w W):=L7;have HKD:Hid (W.heap[D]?=some (.deferred (some []))):=hK;clear Z7 B7 L7 hK kz hfl hys
   go_wp2_with (first
    |(refine auL rfl 28 _ rfl z rfl 28 #[.slice a2 mn c2,.slice (some ⟨g3,0,none⟩) hn c3] (0,0) _ ?yy1 underlying28 rfl EP ?_;(case yy1=>exact HKz))
    |(refine auf rfl 28 _ _ rfl (w.heap.size+1) #[.slice a2 mn c2,.slice (some ⟨g3,0,none⟩) hn c3] rfl rfl 28 #[.slice none 0 0,.slice none 0 0] ?yy2 EP rfl al ?_;(case yy2=>exact sN)))
   have hDr:D≠w.heap.size+1:=by have:=(gs Xj).1;omega
   have HK9:Hid ((W.setRow (w.heap.size+1) #[.slice a2 mn c2,.slice (some ⟨g3,0,none⟩) hn c3]).heap[D]?=some (.deferred (some []))):=(sV hDr).trans HKD;have H9b:Hid ((W.setRow (w.heap.size+1) #[.slice a2 mn c2,.slice (some ⟨g3,0,none⟩) hn c3]).heap[w.heap.size+1]?=some (.cells #[.slice a2 mn c2,.slice (some ⟨g3,0,none⟩) hn c3] 28 (0,0))):=Ih sN;have H9:Hid (Hc.Own (W.setRow (w.heap.size+1) #[.slice a2 mn c2,.slice (some ⟨g3,0,none⟩) hn c3]) w.heap.size (.slice a2 mn c2) bk.2/\bQ (W.setRow (w.heap.size+1) #[.slice a2 mn c2,.slice (some ⟨g3,0,none⟩) hn c3]) g3 bk.1/\Zh (W.setRow (w.heap.size+1) #[.slice a2 mn c2,.slice (some ⟨g3,0,none⟩) hn c3]) g3 c3):=⟨JZ.mem.to fun k o f e=>sV (aa e sN an),JZ.row.to fun k o f e=>sV (aa e sN an),JZ.hz.to fun k o f e=>sV (aa e sN an)⟩;have HG9:Hid (Gr w (W.setRow (w.heap.size+1) #[.slice a2 mn c2,.slice (some ⟨g3,0,none⟩) hn c3])):=ag Gj (aqi _) _;have HBk:Hid (bk=bE (hs,m) (us.drop (ln-s))):=by unfold Hid;exact hbk.symm
   rw[hbk];generalize W.setRow (w.heap.size+1) #[.slice a2 mn c2,.slice (some ⟨g3,0,none⟩) hn c3]=W9 at *
   have kc:=eP (B:=0) (grownBy_putObj' W9 D (.deferred none)) (fun r e=>by cases e;exact⟨apF _,_,HK9,rfl⟩);refine⟨aq,.inl ⟨D,_,rfl,run_takeDeferred HK9,?_⟩⟩;refine⟨_,Hr.aI results17 _ _ _ _ _ (0,0) _ _ rfl rfl ((kc _ _ _ _ H9b).trans H9b) underlying28 rfl EP,_,rfl,?_,auI HG9 (belowK_b (w:=w) (apn _) W9 D _ _ ab HK9 rfl rfl)⟩;obtain⟨l1,l2⟩:=HFL;have O10:=H9.1.to (w':=W9.putObj D (.deferred none)) fun k o f e=>kc k o _ f e
   have R10:=H9.2.1.to (w':=W9.putObj D (.deferred none)) fun k o f e=>kc k o _ f e
   have Z10:=H9.2.2.to (w':=W9.putObj D (.deferred none)) fun k o f e=>kc k o _ f e
   exact⟨_,_,_,_,rfl,O10,HBH,R10,Z10,l1,l2⟩
  case stop=>
   rintro D c pre W _ _ h _;exact h.elim
end Ud
namespace Vp
open Mm Hh Hc Mc Ud
variable{hs:List Hv}
theorem GY (h:Hc.Own w base v l):w.ownsRow base 5 1 v l.length (bc l):=by
 refine⟨by rw[gH];omega,?_⟩;rcases h with⟨rfl,rfl⟩|⟨k,cap,rfl,⟨hb,hl⟩,rest,hr,hz,hm⟩
 ·exact .inl ⟨rfl,rfl⟩
 ·refine .inr ⟨k,cap,_,rfl,hb,hr,hl,hm,by rw[ap2,hz];omega,?_⟩;rw[Nat.mul_one,arb,show l.length=(bc l).length from(gH l).symm,aqY]
theorem GZ (hl:l.length=n)(h:w.ownsRow base 5 1 v n (bc l)):Hc.Own w base v l:=M9 hl h
theorem ER (r:bQ w gh hs)(z:Zh w gh hc)(hb:base<=gh)(hl:hs.length=c):w.ownsRow base 43 37 (.slice (some ⟨gh,0,none⟩) c hc) c (hC hs):=by obtain⟨rest,e⟩:=r.row;obtain⟨cur,e2,z1,z2⟩:=z;have hC:=oG r.ok;rw[e]at e2;injection e2 with e2;injection e2 with e2;subst e2;rw[ap2,apo,hC]at z1;refine⟨by rw[hC,hl],.inr ⟨gh,hc,_,rfl,hb,e,ab,z2,by rw[ap2,apo,hC];omega,?_⟩⟩;rw[arb,<-hl,<-hC,aqY]
structure Mx (w:World) (base:Nat) (M H:Value) (m:List UInt8) (hs:List Hv):Prop where
 mem:w.ownsRow base 5 1 M m.length (bc m)
 hrt:w.ownsRow base 43 37 H hs.length (hC hs)
 ok:∀h∈hs,h.Ok
theorem Mx.to (X:Mx w base M H m hs)(q:∀(k:Nat) (o:Array Value) (t:Nat) (f:Nat×Nat),t=5\/t=43->w.heap[k]?=some (.cells o t f)->w'.heap[k]?=w.heap[k]?):Mx w' base M H m hs:=⟨aj X.mem fun k o f e=>q k o _ f (.inl rfl) e,aj X.hrt fun k o f e=>q k o _ f (.inr rfl) e,X.ok⟩
theorem Mx.of (X:Mx w base M H m hs)(G:Gr w w'):Mx w' base M H m hs:=X.to fun k o t f _ e=>G.block _ (gs e).1
theorem aaT (w:World)(base:Nat):Mx w base (.slice none 0 0) (.slice none 0 0) [] []:=⟨aur _ _ _ _,aur _ _ _ _,fun h hm=>(by cases hm)⟩
theorem PH {S:Sh}(h:ShO w v c mn S):∃M H oa oc,v=.agg #[M,H,.slice oa S.out.length oc,.int .i64 S.steps]/\Mx w Hc.mb M H S.m S.hs/\Wm w oa S.out.length S.out:=by obtain⟨ma,mc,gh,hc,oa,oc,rfl,h1,h2,h3,h4,h5,_,h6,h7⟩:=h;refine⟨_,_,oa,oc,rfl,⟨GY h1,?_,h3.ok⟩,h5⟩;rw[h7];exact ER h3 h4 h2 h7
theorem U8 (h:MvO w b v c mn hs m)(hb:base<=b):∃M H,v=.agg #[M,H]/\Mx w base M H m hs:=by obtain⟨ma,mc,gh,hc,rfl,h1,h2,h3,h4,h5,h6⟩:=h;refine⟨_,_,rfl,⟨GY (h1.base (w':=w) hb),?_,h3.ok⟩⟩;rw[h5];exact ER h3 h4 (apr hb h2) h5
theorem Mx.read (X:Mx w base M H m hs):∃ma mc ha hc,M=.slice ma m.length mc/\H=.slice ha hs.length hc/\Mem w ma m.length m/\(ma=none->mc=0)/\Hs w ha hs.length hs:=by
 obtain⟨ma,mc,e,M1⟩:=(GZ rfl X.mem).mem;have hc0:ma=none->mc=0:=by
  rintro rfl;rcases GZ rfl X.mem with⟨h,_⟩|⟨k,cap,h,_⟩
  ·rw[e]at h;injection h
  ·rw[e]at h;cases h
 rcases X.hrt.2 with⟨h0,hn⟩|⟨g,cap,cur,hv,hb,hg,r⟩
 ·exact⟨ma,mc,none,0,e,by rw[h0,hn],M1,hc0,⟨rfl,X.ok,fun h=>absurd h ab⟩⟩
 ·have hh:=X.hrt;rw[hv]at hh;exact⟨ma,mc,some ⟨g,0,none⟩,cap,e,hv,M1,hc0,(bQ.own X.ok hh).hs rfl⟩
theorem DN (hs:List Hv)(h:Hv):hC (hs++[h])=hC hs++hL h:=by simp[hC]
theorem Mx.aic {H':Value}(X:Mx w base M H m hs){h:Hv}(o:h.Ok)(q:w.grownBy w' H.ownBlock)(O:w'.ownsRow base 43 37 H' (hs.length+1) (hC hs++hL h)):Mx w' base M H' m (hs++[h]):=by
 refine⟨aj X.mem fun k o f e=>eF X.hrt q an e,?_,fun h' hm=>?_⟩
 ·rw[apo,apW,DN];exact O
 ·rcases apR.1 hm with hm|hm
  ·exact X.ok h' hm
  ·rw[apE.1 hm];exact o
theorem Mx.set {M:Value}{m:List UInt8}{g c cap k j:Nat}{h h':Hv}{u:Value}(X:Mx w base M (.slice (some ⟨g,0,none⟩) c cap) m hs)(hk:hs[k]?=some h)(hj:j<37)(e:(hL h).set j u=hL h')(o:h'.Ok):base<=g/\Mx (w.setCell ⟨g,k*37+j,none⟩ u) base M (.slice (some ⟨g,0,none⟩) c cap) m (hs.set k h'):=by
 have hl:c=hs.length:=by
  rcases X.hrt.2 with⟨h0,_⟩|⟨_,_,_,hv,_⟩
  ·cases h0
  ·injection hv
 have hb:=(X.hrt.lt g rfl).1;subst hl;have R:=bQ.own X.ok X.hrt;have Z:=Nc X.hrt;obtain⟨rest,er⟩:=R.row;have R2:=R.set hk hj e o;refine⟨hb,aj X.mem fun i ob f ei=>hso (by exact aa ei er an),?_,R2.ok⟩;rw[ap6];exact ER R2 (Z.setCell _ _) hb (ap6 ..)
end Vp
namespace Vp
open Mm Hh Hc Mc Ud
section
variable{e size bytes:Nat}{i:TypeInfo}{z:Value}{t:TypeId}
theorem J8 (ty:TypeId)(ht:P.underlying t=some (.slice e))(hi:P.info? e=some i)(hz:i.zero=some z)(hsize:i.size=size)(hby:i.bytes=bytes)(hzs:z.cells.size=size)(hsz:0<size)(v:Value)(xs:List Value)(hown:w.ownsRow base e size v n xs)(a:Addr)(m c:Nat)(news:List Value)(hl:news.length=m*size)(hnews:∀j u,news[j]?=some u->w.cell? (a.add j)=some u)(h1:∀u∈news,u.oneCell'=true)(h63:n+m<=maxLen)(hbytes:(n+m)*bytes<=140737488355328)(hbase:base<=w.heap.size):∃v' w',(Builtin.append_ #[t,t] ty #[v,.slice (some a) m c]).run P w=.ok v' w'/\w'.ownsRow base e size v' (n+m) (xs++news)/\w.grownBy w' v.ownBlock/\∀k,v'.ownBlock=some k->v.ownBlock=some k\/w.heap.size<=k:=by
 obtain⟨v',w',hr,h2,h3,_⟩:=au6 (P:=P) w base t ty e i z size bytes ht hi hz hsize hby hzs hsz v n xs hown a m c news hl hnews h1 h63 hbytes hbase;refine⟨v',w',hr,h2,h3,fun k hk=>?_⟩;rcases hown.2 with⟨rfl,rfl⟩|⟨g,cap,cur,rfl,hbg,hg,hnc,hcm,hcs,htake⟩
 ·have hx:=apX (by simpa using hown.1);subst hx;obtain⟨v2,w2,hr2,k2,_⟩:=au6 (P:=P) w w.heap.size t ty e i z size bytes ht hi hz hsize hby hzs hsz (.slice none 0 0) 0 [] (aur _ _ _ _) a m c news hl hnews h1 h63 hbytes (apn _);rw[hr]at hr2;injection hr2 with e1 e2;subst e1;exact .inr (k2.lt k hk).1
 ·by_cases hroom:n+m<=cap
  ·obtain⟨w2,hr2,k2,_⟩:=run_append_fits (P:=P) w base t ty e i size ht hi hsize g n cap xs hown a m c news hl hnews h1 hroom;rw[hr]at hr2;injection hr2 with e1 e2;subst e1;exact .inl hk
  ·subst hsize;subst hby;have holds:=hown.cells (g:=g) rfl;have hr2:=run_append_grow (P:=P) w t ty e i z ht hi hz ⟨g,0,none⟩ n cap xs hown.1 holds a m c news hl hnews ab (by unfold maxLen at h63;omega) (growslice_fits ab hbytes);rw[hr]at hr2;injection hr2 with e1 e2;subst e1;simp only[Value.ownBlock,auj]at hk;exact .inr ab
theorem gU {Q:Exit→Act→World→Prop}(hgd:o.guard=none)(s x:Operand)(ho:o.op=.call { callee:=.builtin .append,args:=#[s,x],argTypes:=#[t,t] })(ht:P.underlying t=some (.slice e))(hi:P.info? e=some i)(hz:i.zero=some z)(hsize:i.size=size)(hby:i.bytes=bytes)(hzs:z.cells.size=size)(hsz:0<size)(v:Value)(xs:List Value)(hs:a.eval s=v)(hown:w.ownsRow base e size v n xs)(ad:Addr)(m c:Nat)(news:List Value)(hx:a.eval x=.slice (some ad) m c)(hl:news.length=m*size)(hnews:∀j u,news[j]?=some u->w.cell? (ad.add j)=some u)(h1:∀u∈news,u.oneCell'=true)(h63:n+m<=maxLen)(hbytes:(n+m)*bytes<=140737488355328)(hbase:base<=w.heap.size)(h:∀v' w',w'.ownsRow base e size v' (n+m) (xs++news)->w.grownBy w' v.ownBlock->(∀k,v'.ownBlock=some k->v.ownBlock=some k\/w.heap.size<=k)->wpList P ops Q rest (a.put o.dst v') w'):wpList P ops Q (o::rest) a w:=by
 refine au5 hgd fun K hK=>?_
 obtain⟨v',w',hr,h2,h3,h4⟩:=J8 (P:=P) o.type ht hi hz hsize hby hzs hsz v xs hown ad m c news hl hnews h1 h63 hbytes hbase;unfold Oper.wp;simp[execOp,ho,resolve,invoke,builtin,hs,hx,hr,Result.andThen];exact hK _ _ (h v' w' h2 h3 h4)
end
variable{w w':World}{ty g:Nat}
abbrev HsP (w0:World) (g:Nat):Prop:=∀i v,w0.cell? ⟨g,i,none⟩=some v->∀z,v≠.int .u8 z/\v≠.int .u32 z
abbrev HkP (w0 w:World) (g:Nat):Prop:=∀k,k<w0.heap.size->k≠g->w.heap[k]?=w0.heap[k]?
section
variable{w0:World}
theorem zF (hs:HsP w0 g)(hk:HkP w0 w g){o:Nat}(hkk:k=.u8\/k=.u32)(h:w0.cell? ⟨b,o,none⟩=some (.int k z)):b≠g:=by
 rintro rfl;rcases hkk with rfl|rfl
 ·exact(hs _ _ h z).1 rfl
 ·exact(hs _ _ h z).2 rfl
theorem uY (hs:HsP w0 g)(hk:HkP w0 w g){a:Addr}(hkk:k=.u8\/k=.u32)(h:w0.cell? a=some (.int k z)):w.cell? a=some (.int k z):=by
 have hsp:=avb h;obtain⟨b,o,s⟩:=a;obtain rfl:s=none:=by simpa using hsp
 exact(aui (hk b (aug w0 _ h) (zF hs hk hkk h))).trans h
theorem U9 (hs:HsP w0 g)(hk:HkP w0 w g)(M:Mem w0 ao n l):Mem w ao n l:=⟨M.len,M.nil,fun ad e t ht=>uY hs hk (.inl rfl) (M.cell ad e t ht)⟩
theorem aaU (hs:HsP w0 g)(hk:HkP w0 w g)(hz:w0.heap.size<=w.heap.size)(L:Ls w0 ao n ls):Ls w ao n ls:=
 ⟨L.len,fun hn=>by
  obtain⟨b,o,e,hb,hc⟩:=L.spot hn;exact⟨b,o,e,apq hb hz,fun i p hp=>⟨(aui (hk b hb (zF hs hk (.inr rfl) (hc i p hp).2))).trans (hc i p hp).1,uY hs hk (.inr rfl) (hc i p hp).2⟩⟩⟩
theorem aaV (hs:HsP w0 g)(hk:HkP w0 w g){u:Uv}{x:List Value}(hz:w0.heap.size<=w.heap.size)(h:Uc w0 u x):Uc w u x:=by obtain⟨ba,bn,bc,la,ln,lc,e,o,k1,k2,M,L,b1,b2⟩:=h;exact⟨ba,bn,bc,la,ln,lc,e,o,k1,k2,U9 hs hk M,aaU hs hk hz L,b1,b2⟩
theorem aaW (hs:HsP w0 g)(hk:HkP w0 w g){us:List Uv}(hz:w0.heap.size<=w.heap.size)(U:Us w0 ao n us):Us w ao n us:=
 ⟨U.len,fun hn=>by
  obtain⟨b,o,e,hb,hc⟩:=U.spot hn;refine⟨b,o,e,apq hb hz,fun j u hj=>?_⟩;obtain⟨x,h1,h2⟩:=hc j u hj;refine⟨x,aaV hs hk hz h1,fun i v hi=>?_⟩;have hb2:b≠g:=by
   obtain⟨ba,bn,bc,la,ln,lc,ex,ou,_⟩:=h1;have h0:=h2 1 (.int .u32 (Hh.rg u.was 0)) (by rw[ex];exact(q9 ou.was (j:=0) ab).trans (lC ou.was ab));exact zF hs hk (.inr rfl) h0
  exact(aui (hk b hb hb2)).trans (h2 i v hi)⟩
end
theorem aaX {α:Type}{l:List α}(h:0<l.length):∃x,l[0]?=some x:=⟨l[0],api h⟩
structure Un (w:World) (ao:Option Addr) (n:Nat) (us:List Uv):Prop where
 us:Us w ao n us
 off:∀b o,ao=some ⟨b,o,none⟩->∀j,j<n->b≠Hc.mb/\(∀ba bn bc,w.cell? ⟨b,o+j*41+39,none⟩=some (.slice ba bn bc)->0<bn->∀ad,ba=some ad->ad.block≠Hc.mb)/\(∀la ln lc,w.cell? ⟨b,o+j*41+40,none⟩=some (.slice la ln lc)->0<ln->∀ad,la=some ad->ad.block≠Hc.mb)
theorem Un.keep {w0:World}{us:List Uv}(U:Un w0 ao n us)(Q:Us w ao n us)(hk:∀b o,ao=some ⟨b,o,none⟩->0<n->w.heap[b]?=w0.heap[b]?):Un w ao n us:=
 ⟨Q,fun b o e j hj=>by
  obtain⟨h1,h2,h3⟩:=U.off b o e j hj;have he:=hk b o e ab;exact⟨h1,fun ba bn bc hc=>h2 ba bn bc ((aui he).symm.trans hc),fun la ln lc hc=>h3 la ln lc ((aui he).symm.trans hc)⟩⟩
theorem Un.of {ao:Option Addr}{n:Nat}{us:List Uv}(U:Un w ao n us)(G:Gr w w'):Un w' ao n us:=
 U.keep (U.us.of G) fun b o e hn=>by
  obtain⟨b',o',e',hb,_⟩:=U.us.spot hn;rw[e]at e';injection e' with e';injection e' with e1 e2;subst e1 e2;exact G.block _ hb
def NbW (w:World) (b:Nat):Prop:=∀i v,w.cell? ⟨b,i,none⟩=some v->∀z,v≠.int .u8 z/\v≠.int .u32 z
def Kw (w0 w:World) (k:Nat):Prop:=w.heap[k]?=w0.heap[k]?\/NbW w0 k\/k=Hc.mb
section
variable{w0:World}
theorem xM (hk:∀k,k<w0.heap.size->Kw w0 w k){o:Nat}(h:w0.cell? ⟨b,o,none⟩=some (.int .u32 z))(hb:b≠Hc.mb):w.heap[b]?=w0.heap[b]?:=by
 rcases hk b (aug w0 _ h)with e|e|e
 ·exact e
 ·exact absurd rfl (e _ _ h z).2
 ·exact absurd e hb
theorem keep_byte (hk:∀k,k<w0.heap.size->Kw w0 w k){a:Addr}(h:w0.cell? a=some (.int .u8 z))(hb:a.block≠Hc.mb):w.heap[a.block]?=w0.heap[a.block]?:=by
 have hsp:=avb h;obtain⟨b,o,s⟩:=a;obtain rfl:s=none:=by simpa using hsp
 rcases hk b (aug w0 _ h)with e|e|e
 ·exact e
 ·exact absurd rfl (e _ _ h z).1
 ·exact absurd e hb
theorem zG (hk:∀k,k<w0.heap.size->Kw w0 w k){ao:Option Addr}{n:Nat}{us:List Uv}(Y:Un w0 ao n us){b o:Nat}(e:ao=some ⟨b,o,none⟩)(hn:0<n):w.heap[b]?=w0.heap[b]?:=by have hbm:=(Y.off b o e 0 hn).1;have U:=Y.us;obtain⟨b',o',e',hb,hc⟩:=U.spot hn;rw[e]at e';injection e' with e';injection e' with e1 e2;subst e1 e2;obtain⟨u0,hu0⟩:=aaX (l:=us) (by have:=U.len;omega);obtain⟨x,⟨ba,bn,bc,la,ln,lc,ex,ou,_⟩,h2⟩:=hc 0 u0 hu0;exact xM hk (h2 1 (.int .u32 (Hh.rg u0.was 0)) (by rw[ex];exact(q9 ou.was (j:=0) ab).trans (lC ou.was ab))) hbm
theorem Un.kw (hk:∀k,k<w0.heap.size->Kw w0 w k){ao:Option Addr}{n:Nat}{us:List Uv}(hz:w0.heap.size<=w.heap.size)(U:Un w0 ao n us):Us w ao n us:=
 ⟨U.us.len,fun hn=>by
  obtain⟨b,o,e,hb,hc⟩:=U.us.spot hn;have eb:=zG hk U e hn;refine⟨b,o,e,apq hb hz,fun j u hj=>?_⟩;have hjn:j<n:=by have:=(apj.1 hj).1;have:=U.us.len;omega
  obtain⟨x,⟨ba,bn,bc,la,ln,lc,ex,ou,k1,k2,M,L,b1,b2⟩,h2⟩:=hc j u hj;have WJ:=h2 39 (.slice ba bn bc) (by rw[ex];have:=eO (u:=u) (b:=.slice ba bn bc) (l:=.slice la ln lc) ou.was 1;simpa using this);have QT:=h2 40 (.slice la ln lc) (by rw[ex];have:=eO (u:=u) (b:=.slice ba bn bc) (l:=.slice la ln lc) ou.was 2;simpa using this);have hoff:=(U.off b o e j hjn).2.1 ba bn bc WJ;have aid:=(U.off b o e j hjn).2.2 la ln lc QT;refine⟨x,⟨ba,bn,bc,la,ln,lc,ex,ou,k1,k2,⟨M.len,M.nil,fun ad e2 t ht=>?_⟩,⟨L.len,fun hl=>?_⟩,b1,b2⟩,fun i v hi=>(aui eb).trans (h2 i v hi)⟩
  ·have h:=M.cell ad e2 t ht;exact(aui (keep_byte hk h (by rw[show(ad.add t).block=ad.block by unfold Addr.add;split<;>rfl];exact hoff ab ad e2))).trans h
  ·obtain⟨lb,lo,e3,hlb,hlc⟩:=L.spot hl;obtain⟨q0,hq0⟩:=aaX (l:=u.lost) (by have:=L.len;omega);have hl0:=hlc 0 q0 hq0;have el:=xM hk hl0.2 (aid hl _ e3);exact⟨lb,lo,e3,apq hlb hz,fun i p hp=>⟨(aui el).trans (hlc i p hp).1,(aui el).trans (hlc i p hp).2⟩⟩⟩
end
def zV (g N:Nat) (w:World) (U:Value) (us:List Uv):Prop:=∃w0 ua uc,U=.slice ua us.length uc/\us.length<=uc/\w0.heap.size=N/\N<=w.heap.size/\Un w0 ua us.length us/\NbW w0 g/\∀k,k<N->k≠g->Kw w0 w k
theorem zV.un {N:Nat}{U:Value}{us:List Uv}(h:zV g N w U us):∃ua uc,U=.slice ua us.length uc/\us.length<=uc/\Un w ua us.length us:=by
 obtain⟨w0,ua,uc,e,h1,rfl,h2,h3,h4,h5⟩:=h;have hk:∀k,k<w0.heap.size->Kw w0 w k:=fun k hk=>by
  by_cases hg:k=g
  ·subst hg;exact .inr (.inl h4)
  ·exact h5 k hk hg
 exact⟨ua,uc,e,h1,h3.keep (h3.kw hk h2) fun b o e2 hn=>zG hk h3 e2 hn⟩
theorem zV.us {N:Nat}{U:Value}{us:List Uv}(h:zV g N w U us):∃ua uc,U=.slice ua us.length uc/\us.length<=uc/\Us w ua us.length us:=by obtain⟨ua,uc,e,h1,h2⟩:=h.un;exact⟨ua,uc,e,h1,h2.us⟩
theorem zV.step {us:List Uv}(h:zV g N w U us)(hz:w.heap.size<=w'.heap.size)(hk:∀k,k<N->k≠g->w'.heap[k]?=w.heap[k]?):zV g N w' U us:=by
 obtain⟨w0,ua,uc,e,h1,h0,h2,h3,h4,h5⟩:=h;refine⟨w0,ua,uc,e,h1,h0,apr h2 hz,h3,h4,fun k hk' hg=>?_⟩;rcases h5 k hk' hg with q|q
 ·exact .inl ((hk k hk' hg).trans q)
 ·exact .inr q
theorem zV.wr {N:Nat}{U:Value}{us:List Uv}(h:zV g N w U us)(hz:w.heap.size<=w'.heap.size)(hk:∀k,k<N->k≠g->Kw w w' k):zV g N w' U us:=by
 obtain⟨w0,ua,uc,e,h1,h0,h2,h3,h4,h5⟩:=h;refine⟨w0,ua,uc,e,h1,h0,apr h2 hz,h3,h4,fun k hk' hg=>?_⟩;rcases h5 k hk' hg with q|q
 ·rcases hk k hk' hg with r|r|r
  ·exact .inl (r.trans q)
  ·exact .inr (.inl fun i v hv=>r i v ((aui q).trans hv))
  ·exact .inr (.inr r)
 ·exact .inr q
def Dm (g:Nat) (M H P:Value) (k:Nat):Prop:=k=g\/M.ownBlock=some k\/H.ownBlock=some k\/P.ownBlock=some k
structure Fx (D D':Nat→Prop) (w w':World):Prop where
 os:w'.os=w.os
 tape:w'.tape=w.tape
 output:w'.output=w.output
 size:w.heap.size<=w'.heap.size
 keep:∀k,k<w.heap.size->¬D k->w'.heap[k]?=w.heap[k]?
 dom:∀k,D' k->D k\/w.heap.size<=k
theorem Fx.refl (D:Nat->Prop)(w:World):Fx D D w w:=⟨rfl,rfl,rfl,apn _,fun _ _ _=>rfl,fun _ h=>.inl h⟩
theorem Fx.trans {D D1 D2:Nat->Prop}{a b c:World}(h:Fx D D1 a b)(q:Fx D1 D2 b c):Fx D D2 a c:=
 ⟨q.os.trans h.os,q.tape.trans h.tape,q.output.trans h.output,apr h.size q.size,fun k hk hd=>(q.keep k (apq hk h.size) (fun h1=>by
  rcases h.dom k h1 with h2|h2
  ·exact hd h2
  ·omega)).trans (h.keep k hk hd),fun k hk=>by
  rcases q.dom k hk with h1|h1
  ·exact h.dom k h1
  ·exact .inr (apr h.size h1)⟩
theorem Fx.bD {D:Nat->Prop}(G:Gr w w'):Fx D D w w':=⟨G.os,G.tape,G.output,G.size,fun k hk _=>G.block k hk,fun _ h=>.inl h⟩
theorem Fx.gr {D D':Nat->Prop}{a:World}(h:Fx D D' a w)(G:Gr w w'):Fx D D' a w':=h.trans (.bD G)
theorem Fx.grown (q:w.grownBy w' r)(h:∀k,r=some k->D k)(hd:∀k,D' k->D k\/w.heap.size<=k):Fx D D' w w':=⟨q.os,q.tape,q.output,q.size,fun k hk hn=>q.block k hk (fun e=>hn (h k e.symm)),hd⟩
theorem Fx.set {a:Addr}(h:D a.block):Fx D D w (w.setCell a v):=⟨rfl,rfl,rfl,by simp[World.setCell],fun k hk hn=>hso (fun e=>hn (e ▸ h)),fun _ h=>.inl h⟩
theorem Fx.below (h:Fx D D' w w')(hb:∀k,D k->B<=k)(hB:B<=w.heap.size):Below B w w':=⟨h.os,h.tape,h.output,h.size,fun k hk=>h.keep k (apq hk hB) (fun hd=>by have:=hb k hd;omega)⟩
def pC (ps:List (Int×Int)):List Value:=ps.flatMap fun p=>[.int .i64 p.1,.int .i64 p.2]
theorem Vm (ps:List (Int×Int))(p:Int×Int):pC (ps++[p])=pC ps++[.int .i64 p.1,.int .i64 p.2]:=by simp[pC]
theorem PI:∀(ps:List (Int×Int)) (i:Nat) (p:Int×Int),ps[i]?=some p→(pC ps)[i*2]?=some (.int .i64 p.1)∧(pC ps)[i*2+1]?=some (.int .i64 p.2)
 |q::r,0,p,h=>by
  simp only[apw,auj]at h;subst h;exact⟨rfl,rfl⟩
 |q::r,i+1,p,h=>by
  have:=PI r i p (by simpa using h);have e:pC (q::r)=.int .i64 q.1::.int .i64 q.2::pC r:=rfl;rw[e,show(i+1)*2=i*2+1+1 by omega];simpa using this
theorem aaY (h:w.ownsRow N 45 2 v ps.length (pC ps)):∃pa pc,v=.slice pa ps.length pc/\Ps w pa ps.length ps:=by
 rcases h.2 with⟨h0,hn⟩|⟨k,cap,cur,hv,_,hg,_,_,_,ht⟩
 ·exact⟨none,0,by rw[h0,hn],rfl,fun h=>absurd h ab⟩
 ·refine⟨_,cap,hv,rfl,fun _=>⟨k,0,rfl,(gs hg).1,fun i p hi=>?_⟩⟩;obtain⟨e1,e2⟩:=PI ps i p hi;rw[<-ht,apS]at e1 e2;split at e1
  ·split at e2
   ·rw[aqD]at e1 e2;rw[apu];exact⟨(cr hg).trans e1,(cr hg).trans e2⟩
   ·cases e2
  ·cases e1
structure Pr (ty:Nat) (B:Nat) (w:World) (g:Nat) (M H P U:Value) (p:Pl):Prop where
 oU:ty≠5/\ty≠43/\ty≠45
 bg:B<=g
 blk:w.heap[g]?=some (.cells #[M,H,P,U,.bool p.fr] ty (0,0))
 mx:Mx w B M H p.m p.hs
 ok:lg p
 row:∃N,B<=N/\N<=w.heap.size/\w.ownsRow N 45 2 P p.ps.length (pC p.ps)/\(p.fr=true->zV g N w U p.us)
 un:∃ua n uc,U=.slice ua n uc
variable{B:Nat}{M H P U:Value}{p:Pl}
theorem Pr.le (h:Pr ty B w g M H P U p):B<=w.heap.size:=apr h.bg (aqP (gs h.blk).1)
theorem Pr.dom (h:Pr ty B w g M H P U p):∀k,Dm g M H P k->B<=k/\k<w.heap.size:=by
 obtain⟨N,h1,h2,h3,_⟩:=h.row;rintro k (rfl|e|e|e)
 ·exact⟨h.bg,(gs h.blk).1⟩
 ·exact h.mx.mem.lt k e
 ·exact h.mx.hrt.lt k e
 ·have:=h3.lt k e;exact⟨apr h1 this.1,this.2⟩
theorem Pr.gr (h:Pr ty B w g M H P U p)(G:Gr w w'):Pr ty B w' g M H P U p:=by obtain⟨N,h1,h2,h3,h4⟩:=h.row;exact⟨h.oU,h.bg,(G.block g (gs h.blk).1).trans h.blk,h.mx.of G,h.ok,⟨N,h1,apr h2 G.size,aC h3 G,fun hf=>(h4 hf).step G.size fun k hk _=>G.block k (apq hk h2)⟩,h.un⟩
theorem Pr.down (h:Pr ty B w g M H P U p):Pr ty B (w.setCell ⟨g,4,none⟩ (.bool false)) g M H P U { p with fr:=false }/\Fx (Dm g M H P) (Dm g M H P) w (w.setCell ⟨g,4,none⟩ (.bool false)):=by
 obtain⟨N,h1,h2,h3,_⟩:=h.row;have hn:∀(t:Nat),t≠ty->∀(k:Nat) (o:Array Value) (f:Nat×Nat),w.heap[k]?=some (.cells o t f)->(w.setCell ⟨g,4,none⟩ (.bool false)).heap[k]?=w.heap[k]?:=fun t ht k o f e=>hso (by exact aa e h.blk ht)
 exact⟨⟨h.oU,h.bg,by rw[hss h.blk];simp,h.mx.to fun k o t f ht e=>hn t (by rcases ht with rfl|rfl;exact h.oU.1.symm;exact h.oU.2.1.symm) k o f e,h.ok.old,⟨N,h1,by simpa using h2,aj h3 fun k o f e=>hn _ h.oU.2.2.symm k o f e,fun hf=>by cases hf⟩,h.un⟩,Fx.set (.inl rfl)⟩
end Vp
end Go.Proofs.YtiadhbmnfjfioaaGreatDoor
