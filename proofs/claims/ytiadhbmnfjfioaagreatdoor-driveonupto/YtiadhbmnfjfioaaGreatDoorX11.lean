/- ours -/
import Derived.Test.YtiadhbmnfjfioaaGreatDoorX10
set_option linter.unusedVariables false
set_option linter.unusedSimpArgs false
set_option maxHeartbeats 8000000
set_option maxRecDepth 100000
set_option linter.unusedSectionVars false
namespace Go.Proofs.YtiadhbmnfjfioaaGreatDoor
open Go.Proofs.Tryz hiding cs d1 d2 d3 d6 t0 t1 t2 t3 t4 t5 t6 t7
open Go.ChangeShapes Go.WideShapes Go.ChangeAt Go.RowKit
variable{Z:Array Value}{pu sl pc p1:Int}{p:Int×Int}{ss ps:List (Int×Int)}{l m:List UInt8}{xs:List Value}{k j n ml mc b z mn base g c sc m1 gh hc:Nat}{f0:Nat×Nat}{x:Obj}{ao mo a ca ma sa:Option Addr}{w' w:World}
variable [Inhabited Hc.bN]
namespace Mp
open Mm Hh Hc Mi
def xA:List Value:=qd.map (Value.int .i64)
theorem Ou (g:Gr w w')(h:w.heap[k]?=some x):w'.heap[k]?=some x:=by rw[g.block k (gs h).1];exact h
theorem JL:xA.length=33:=rfl
theorem adT:(prog.info? 262).map (·.size)=some 33:=al
theorem Tr.range (T:Tr w):w.rangeAt 7 0 xA:=fun j v hv=>by
 rw[apu];unfold xA at hv;rw[apT]at hv;cases h:qd[j]? with
 |none=>rw[h]at hv;cases hv
 |some n=>
  rw[h]at hv;have e:Value.int .i64 n=v:=by simpa using hv
  rw[<-e];exact T.rows j n h
theorem UB (hj:j<11){f l k:Int}(h:p9[j]?=some (f,l,k))(W:World):(Instr.index 262 (.agg xA.toArray) (.int .i64 j)).run prog W=.ok (.agg #[.int .i64 f,.int .i64 l,.int .i64 k]) W:=by
 have:j=0\/j=1\/j=2\/j=3\/j=4\/j=5\/j=6\/j=7\/j=8\/j=9\/j=10:=ab;rcases this with rfl|rfl|rfl|rfl|rfl|rfl|rfl|rfl|rfl|rfl|rfl <;>
  (injection h with h;injection h with h1 h;injection h with h2 h3;subst h1 h2 h3;rfl)
theorem Ow (T:Tr w)(op d a b n:Int):Calls prog 142 #[.agg #[.int .i64 op,.int .i64 d,.int .i64 a,.int .i64 b,.int .u32 n]] w fun e w'=>e=.returned (.bool (dZ ⟨op,d,a,b,n⟩))/\Gr w w':=by
 have HT:Hid (Tr w):=T;have HRg:Hid (∀x,(w.alloc x).rangeAt 7 0 xA):=fun x=>(T.of br).range
 have HX:Hid (∀j:Nat,j<11->∀f l k,p9[j]?=some (f,l,k)->∀W:World,_):=fun j hj f l k h W=>UB hj h W
 have HL:=kH JL;have HM:Hid (∀k,named op=k->0<=k->dZ ⟨op,d,a,b,n⟩=kT k ⟨op,d,a,b,n⟩):=fun k h h0=>ZN h h0
 have HN:Hid (named op<0->dZ ⟨op,d,a,b,n⟩=false):=fun h=>TE h
 have Wi:Hid (∀(f l:Int) (W:World),_):=fun f l W=>aG op f l W
 have Fi:Hid (∀(K:Int),(K=0\/K=7\/K=8\/K=9\/K=10\/K=11\/K=14)->∀W:World,_):=fun K h W=>Od h op d a b n W
 generalize dZ ⟨op,d,a,b,n⟩=OKB at *
 generalize xA=A at *
 clear T;go_enter func142,ntmps142;go_wp2_with (refine auA rfl 262 _ rfl 7 0 rfl A _ ?lm1 underlying262 rfl (by rw[HL.out];exact adT) ?_;(case lm1=>exact HRg _));go_loopw [6] (fun i wr=>∃j:Nat,j<=11/\i=.int .i64 j/\(∀t f l k,t<j->p9[t]?=some (f,l,k)->¬(f<=op/\op<=l))/\wr.heap[w.heap.size]?=some (.cells #[.int .i64 op,.int .i64 d,.int .i64 a,.int .i64 b,.int .u32 n] 235 (0,0))/\Gr w wr) (fun i _=>11-(intOf i).toNat)
 case atStart=>exact⟨0,apF _,rfl,fun t f l k h=>absurd h ab,at5 w _,(Gr.refl _).alloc _⟩
 case round=>
  obtain⟨j,hj,rfl,hno,hB,G⟩:=hrel;have nY:=kH hno;have HB:=kH hB;have HG:=kH G;clear hno hB G;by_cases hlt:j<11
  ·obtain⟨f,l,k,hr,_,_,_,hk,hnm⟩:=ZM hlt;have hx:=HX j hlt f l k hr;have EE:Hid (¬(f<=op/\op<=l)->∀t f l k,t<j+1->p9[t]?=some (f,l,k)->¬(f<=op/\op<=l)):=fun h t f' l' k' ht hr'=>by
    by_cases e:t=j
    ·subst e;rw[hr]at hr';injection hr' with e1;injection e1 with e1 e2;injection e2 with e2 e3;subst e1 e2;exact h
    ·exact nY t f' l' k' ab hr'
   have HF:Hid (f<=op/\op<=l->_):=fun h=>HM k (hnm op h.1 h.2) ab
   have p0:wr.cell? ⟨w.heap.size,0,none⟩=some (.int .i64 op):=atZ _ _ _ _ _ _ HB;have p1:wr.cell? ⟨w.heap.size,1,none⟩=some (.int .i64 d):=atZ _ _ _ _ _ _ HB;have p2:wr.cell? ⟨w.heap.size,2,none⟩=some (.int .i64 a):=atZ _ _ _ _ _ _ HB;have p3:wr.cell? ⟨w.heap.size,3,none⟩=some (.int .i64 b):=atZ _ _ _ _ _ _ HB;have p4:wr.cell? ⟨w.heap.size,4,none⟩=some (.int .u32 n):=atZ _ _ _ _ _ _ HB;have hsz:w.heap.size<wr.heap.size:=(apk.1 HB).1;have HKv:Hid (k=0\/k=7\/k=8\/k=9\/k=10\/k=11\/k=14):=hk;clear hr hk hnm HX nY;by_cases c:f<=op/\op<=l
   ·have pX:Hid (OKB=kT k ⟨op,d,a,b,n⟩):=HF c;have Wi2:Hid (∀W:World,Calls prog 113 #[.int .i64 op,.int .i64 f,.int .i64 l] W fun e w'=>e=.returned (.bool true)/\w'=W):=fun W=>by
     have:=Wi f l W;rwa[auq c]at this
    clear c HF EE Wi;go_wp2_with fail;refine(Wi2 _).mono ?_;rintro e w1 ⟨rfl,rfl⟩;clear Wi2;go_wp2_with fail;refine(Fi k HKv _).mono ?_;rintro e w1 ⟨rfl,G1⟩;have aU:Hid (Gr w w1):=(HG.alloc _).trans G1;clear Fi G1 p0 p1 p2 p3 p4;go_wp2_with fail;go_ret;exact⟨l7 pX.symm,aU⟩
   ·have ahm:Hid (∀t f l k,t<j+1->p9[t]?=some (f,l,k)->¬(f<=op/\op<=l)):=EE c;have Wi2:Hid (∀W:World,Calls prog 113 #[.int .i64 op,.int .i64 f,.int .i64 l] W fun e w'=>e=.returned (.bool false)/\w'=W):=fun W=>by
     have:=Wi f l W;rwa[auh c]at this
    clear c HF EE Wi;go_wp2_with fail;refine(Wi2 _).mono ?_;rintro e w1 ⟨rfl,rfl⟩;clear Wi2;go_wp2_with fail;go_roundw
    case rel=>exact⟨j+1,ab,by go_num,ahm,Ou br HB,HG.alloc _⟩
    case measure=>simp[intOf];omega
  ·have ej:j=11:=ab;have HE:Hid (OKB=false):=HN (Er fun t f l k hr=>nY t f l k (by have:=(apj.1 hr).1;have:p9.length=11:=rfl;omega) hr);go_wp2_with fail;go_ret;exact⟨l7 HE.symm,HG⟩
theorem Ox (cap:Nat){code:List Mv}(C:Cs w ao n code)(T:Tr w)(hn:n<=140737488351232):Calls prog 112 #[.slice ao n cap] w fun e w'=>e=.returned (.bool (nZ code))/\Gr w w':=by
 have HL:=kH C.len;have HM:Hid (nZ code=(decide (n<=200) && code.all dZ)):=by unfold Hid nZ;rw[HL.out]
 by_cases c2:200<n
 ·have HE:Hid (nZ code=false):=by unfold Hid;rw[HM.out,auh ab];rfl
  go_enter func112,ntmps112;go_wp2;go_ret;exact⟨l7 HE.symm,Gr.refl _⟩
 have Jr:Hid (nZ code=code.all dZ):=by unfold Hid;rw[HM.out,auq ab];rfl
 have HC:=kH C;have HT:=kH T;go_enter func112,ntmps112;go_wp2;go_loopw [10] (fun i wr=>∃j:Nat,j<=n/\i=.int .i64 j/\(code.take j).all dZ=true/\Gr w wr) (fun i _=>n-(intOf i).toNat)
 case atStart=>exact⟨0,apF _,rfl,rfl,Gr.refl _⟩
 case round=>
  obtain⟨j,hj,rfl,hall,G⟩:=hrel;have HA:=kH hall;have HG:=kH G;by_cases hlt:j<n
  ·obtain⟨c,hc⟩:∃c,code[j]?=some c:=⟨_,api (by rw[HL.out];exact hlt)⟩;obtain⟨b,o,rfl,hb,hcell⟩:=(HC.of HG).spot ab;obtain⟨p0,p1,p2,p3,p4⟩:=hcell j c hc;have Ma:Hid (∀W:World,Gr w W->_):=fun W G=>Ow (HT.of G) c.op c.d c.a c.b c.n
   have nY:Hid (dZ c=false->nZ code=false):=fun h=>by rw[Jr.out];exact yH hc h
   have ahn:Hid (dZ c=true->(code.take (j+1)).all dZ=true):=fun h=>by rw[Jt _ _ _ _ hc,HA.out,h];rfl
   obtain⟨op,d,a,b2,nn⟩:=c;simp only at *
   generalize dZ ⟨op,d,a,b2,nn⟩=OKB at *
   cases OKB with
   |false=>
    have aho:=kH (nY rfl);go_wp2_with fail;refine(Ma _ (HG.alloc _)).mono ?_;rintro e w1 ⟨rfl,G1⟩;have aU:=kH ((HG.alloc _).trans G1);go_wp2_with fail;go_ret;exact⟨l7 aho.symm,aU⟩
   |true=>
    have KN:=kH (ahn rfl);go_wp2_with fail;refine(Ma _ (HG.alloc _)).mono ?_;rintro e w1 ⟨rfl,G1⟩;have aU:=kH ((HG.alloc _).trans G1);go_wp2_with fail;go_roundw
    case rel=>exact⟨j+1,ab,by go_num,KN,aU⟩
    case measure=>simp[intOf];omega
  ·have ej:j=n:=ab;have HE:Hid (nZ code=true):=by
    unfold Hid;rw[Jr.out];have:=HA;rwa[ej,<-HL.out,ap9]at this
   go_wp2_with fail;go_ret;exact⟨l7 HE.symm,HG⟩
end Mp
namespace Mi
open Mm Hh Hc
end Mi
namespace Mi
open Mm Hh Hc
end Mi
namespace Mp
open Mm Hh Hc Mi
theorem aad (h:Hv)(M O S:Value)(n:Int)(h1:M.oneCell'=true)(h2:O.oneCell'=true)(h3:S.oneCell'=true):(gA h M O n S).all (·.oneCell')=true:=by refine auE ?_;intro v hv;simp only[gL,hL,apR,apK,apx,apB,auw]at hv;rcases hv with(⟨n,_,rfl⟩|rfl|rfl|rfl|rfl|rfl)|rfl|rfl|rfl|rfl<;>first|rfl|assumption
theorem adV (T:Gc.Ts w w.heap.size)(G:Gr w w'):Gc.Ts w' w'.heap.size:=⟨fun i n e=>(G.cell _ (by exact T.b1)).trans (T.sizes i n e),apq T.b1 G.size⟩
theorem Oy {bf bt steps:Int}{h:Hv}{code:List Mv}(o:h.Ok)(hs:h.state=0)(hl:l.length<=4096)(hn:∀i∈code,Hh.W i.n):(dC bf bt steps h l code).Ok:=by
 have G:=Gd.bB (steps:=steps) (Gd.start (bf:=bf) (bt:=bt) o hs hl) hn code.length;rw[ap9]at G;unfold dC mend;split
 ·have:=W.lo ((bB bf bt steps (mstart h l) code).here+4);exact G.ok.hart (G.ok.h.go this.1 this.2)
 ·exact G.ok
end Mp
namespace Mp
open Mm Hh Hc Mi
theorem UC (cap:Nat){code:List Mv}(C:Cs w ao n code)(T:Tr w)(Ts:Gc.Ts w w.heap.size)(hn:n<=140737488351232)(hm:nZ code=true){h:Hv}(o:h.Ok)(M:Mem w mo ml l)(hcap:mo=none->mc=0)(bf bt steps:Int)(s0:0<=steps)(s1:steps<=400)(hh:may h=true)(hs:h.state=0)(lY:ml<=4096)(hmb:Hc.mb<=w.heap.size):Calls prog 86 #[.slice ao n cap,.agg (hA h),.slice mo ml mc,.agg #[.int .u32 bf,.int .u32 bt],.int .i64 steps] w fun e w'=>∃M O S,e=.returned (.tuple #[.agg (gA (dC bf bt steps h l code).h M O (dC bf bt steps h l code).n S),.bool true])/\Dr w' (dC bf bt steps h l code) M O S/\Own w' Hc.mb M (dC bf bt steps h l code).m/\Gr w w':=by
 have M0:Hid (∀W:World,Gr w W->Calls prog 112 #[.slice ao n cap] W fun e w'=>e=.returned (.bool true)/\Gr W w'):=fun W G=>by rw[<-hm];exact Ox cap (C.of G) (T.of G) hn
 have Wi:Hid (∀W:World,Calls prog 113 #[.int .i64 steps,.int .i64 0,.int .i64 400] W fun e w'=>e=.returned (.bool true)/\w'=W):=fun W=>by
  have:=aG steps 0 400 W;rwa[auq ⟨s0,s1⟩]at this
 have hll:l.length<=4096:=by have:=M.len;omega
 have NR:Hid (∀W:World,Gr w W->Calls prog 114 #[.agg (hA h),.slice mo ml mc,.agg #[.int .u32 bf,.int .u32 bt],.int .i64 steps] W fun e w'=>∃v,e=.returned (.tuple #[.agg (Gc.cB ⟨h,v,ax,ax⟩ (mg (mstart h l) bf bt steps)),.bool true])/\Own w' Hc.mb v l/\Gr W w'):=fun W G=>by
  exact vP (PV:=fun W v=>Own W Hc.mb v l) o o l bf bt steps (fun _ _ v hv e=>hv.to e) (fun _ v hv=>hv.cells) (fun V GV=>(A9 o (M.of (G.trans GV)) hcap lY hh hs).mono fun e w' ⟨v,e1,e2,e3⟩=>⟨v,e1,e2.base (w':=w') (apr hmb (apr G.size GV.size)),e3⟩)
 have WY:Hid (Hc.mb<=w.heap.size):=hmb;have RN:Hid (∀(w0 X:World) (g:Nat),Gr w w0->Gr w0 X->Pr X w0.heap.size g (mstart h l) bf bt steps->Calls prog 115 #[.pointer (some ⟨g,0,none⟩),.slice ao n cap] X fun e w'=>e=.returned (.tuple #[])/\Pr w' w0.heap.size g (dC bf bt steps h l code) bf bt steps/\Gr w0 w'):=fun w0 X g G0 GX I=>zb cap (C.of G0) hm o hs hll (adV Ts G0) I GX
 have zS:Hid (dC bf bt steps h l code).Ok:=Oy o hs hll C.wn;have HS:Hid ((hA h).size=37):=jC o;have HR1:Hid (∀v,(Gc.cB ⟨h,v,ax,ax⟩ (mg (mstart h l) bf bt steps)).size=49):=fun v=>by rw[zg o,qh rfl]
 have Xn:Hid (∀v:Value,v.oneCell'=true->(Gc.cB ⟨h,v,ax,ax⟩ (mg (mstart h l) bf bt steps)).all (·.oneCell')=true):=fun v hv=>Ot _ _ _ _ _ hv rfl rfl
 have HOh:Hid h.Ok:=o;generalize hA h=H0 at *
 generalize dC bf bt steps h l code=r at *
 go_enter func86,ntmps86;go_wp2_with fail;refine(M0 _ ((br.alloc _).alloc _)).mono ?_;rintro e w1 ⟨rfl,G1⟩;obtain⟨b0,b1,b2⟩:=jo G1;have aU:=kH (((br.alloc _).alloc _).trans G1);have HBZ:Hid (∃Z:Array Value,Z.size=41/\w1.heap[w.heap.size+1+1]?=some (.cells Z 142 (0,0))):=⟨_,rfl,b2⟩;have HB1:=kH b0;have r0:w1.cell? ⟨w.heap.size+1,0,none⟩=some (.int .u32 bf):=atZ _ _ _ _ _ _ b1;have r1:w1.cell? ⟨w.heap.size+1,1,none⟩=some (.int .u32 bt):=atZ _ _ _ _ _ _ b1;obtain⟨Z,hz,hZ⟩:=HBZ;have HZ2:=kH hZ;have HZs:=kH hz;go_wp2_with fail;refine(Wi _).mono ?_;rintro e w' ⟨rfl,rfl⟩;go_wp2_with (refine auL rfl 43 _ rfl w.heap.size rfl 43 H0 (0,0) _ ?lh1 underlying43 rfl (by rw[HS.out];exact Mc.iH) ?_;(case lh1=>exact HB1));refine(NR _ aU).mono ?_;rintro e w2 ⟨v,rfl,hv,G2⟩;have HG2:=kH (aU.trans G2);have HR:=kH (HR1 v);have aac:=kH (Xn v hv.cells.2);have HZ3:=kH (Bk.dR G2 HZ2);have HX:Hid (∀Y:Array Value,Gr w2 ((w2.alloc (.cells Y 206)).setRow w2.heap.size (Gc.cB ⟨h,v,ax,ax⟩ (mg (mstart h l) bf bt steps)))):=fun Y=>ag br (apn _) _
 have HP:Hid (∀Y:Array Value,Pr ((w2.alloc (.cells Y 206)).setRow w2.heap.size (Gc.cB ⟨h,v,ax,ax⟩ (mg (mstart h l) bf bt steps))) w2.heap.size w2.heap.size (mstart h l) bf bt steps):=fun Y=>by
  refine⟨⟨h,v,ax,ax⟩,rfl,⟨an,an,an,HOh,apn _,aup _ _ _ _ _ (0,0) (at5 w2 _),?_,apr WY HG2.size,aur _ _ _ _,aur _ _ _ _⟩⟩;exact hv.to fun k c f hk=>(HX Y).block k (apk.1 hk).1
 generalize Gc.cB ⟨h,v,ax,ax⟩ (mg (mstart h l) bf bt steps)=R at *
 go_wp2_with (refine auf rfl 206 _ _ rfl w2.heap.size R rfl rfl 206 _ (at5 w2 _) (by rw[HR.out];exact zh) (by rw[HR.out];rfl) aac ?_);refine(RN w2 _ w2.heap.size HG2 (HX _) (HP _)).mono ?_;rintro e w3 ⟨rfl,I3,G3⟩;have fQ:=kH (HG2.trans G3);have zk:=kH (Bk.dR G3 HZ3);have k47:=I3.Oa zS 3;obtain⟨c,hc,I⟩:=I3;obtain⟨ma,BN,hM,MM⟩:=I.mem.mem;obtain⟨oa,oc,hO,_⟩:=M7 rfl I.out;obtain⟨sa,sc,hS⟩:=Bk.qZ I.av;have k37:w3.cell? ⟨w2.heap.size,37,none⟩=some (.slice ma r.m.length BN):=by rw[<-hM];exact I.dJ 0
 have k38:w3.cell? ⟨w2.heap.size,38,none⟩=some (.slice oa r.out.length oc):=by rw[<-hO];exact I.dJ 1
 have KJ:w3.cell? ⟨w2.heap.size,39,none⟩=some (.slice sa r.av.length sc):=by rw[<-hS];exact I.dJ 2
 have HRg:Hid (w3.rangeAt w2.heap.size 0 (hL r.h)):=fun j u hj=>by
  have hj2:j<37:=by have:=(apj.1 hj).1;rwa[aD zS.out.h]at this
  rw[apu,I.hcell hj2,hc];exact hj
 have HLn:=kH (aD zS.h);have Na:Hid (prog.built 142 [(0,.agg (hL r.h).toArray),(1,.slice ma r.m.length BN),(2,.slice oa r.out.length oc),(3,.int .i64 r.n),(4,.slice sa r.av.length sc)]=some (gA r.h (.slice ma r.m.length BN) (.slice oa r.out.length oc) r.n (.slice sa r.av.length sc))):=oI zS.h _ _ _ _ rfl rfl rfl;have HD:Hid (∀cs:Array Value,Dr (w3.setRow (w.heap.size+1+1) cs) r (.slice ma r.m.length BN) (.slice oa r.out.length oc) (.slice sa r.av.length sc)):=fun cs=>by
  have ne:∀{t:Nat},t≠142->∀{j:Nat} {o:Array Value} {f:Nat×Nat},w3.heap[j]?=some (.cells o t f)->(w3.setRow (w.heap.size+1+1) cs).heap[j]?=w3.heap[j]?:=fun ht _ _ _ hj=>auo _ _ _ _ (aa hj zk ht)
  obtain⟨xB,adW,hM',MM'⟩:=(I.mem.to fun k o f hk=>ne an hk).mem;refine⟨zS,?_,⟨w2.heap.size,?_⟩,⟨w2.heap.size,?_⟩⟩
  ·rw[<-hM,hM'];exact⟨xB,adW,rfl,MM'⟩
  ·rw[<-hO];exact aj I.out fun j o f hj=>ne an hj
  ·rw[<-hS];exact aj I.av fun j o f hj=>ne an hj
 have HDw:Hid (∀cs:Array Value,Own (w3.setRow (w.heap.size+1+1) cs) Hc.mb (.slice ma r.m.length BN) r.m):=fun cs=>by
  rw[<-hM];exact I.mem.to fun k o f hk=>auo _ _ _ _ (aa hk zk an)
 have HDz:Hid ((gA r.h (.slice ma r.m.length BN) (.slice oa r.out.length oc) r.n (.slice sa r.av.length sc)).size=41):=Gn zS.h _ _ _ _;have HDo:Hid ((gA r.h (.slice ma r.m.length BN) (.slice oa r.out.length oc) r.n (.slice sa r.av.length sc)).all (·.oneCell')=true):=aad _ _ _ _ _ rfl rfl rfl;generalize hD:gA r.h (.slice ma r.m.length BN) (.slice oa r.out.length oc) r.n (.slice sa r.av.length sc)=D at *
 have HDe:=kH hD;generalize hHl:hL r.h=HL at *
 generalize r.m.length=mn at *
 generalize r.out.length=on at *
 generalize r.av.length=sn at *
 go_wp2_with (first
  |(refine auA rfl 43 _ rfl w2.heap.size 0 rfl HL _ ?lm1 underlying43 rfl (by rw[HLn.out];exact Mc.iH) ?_;(case lm1=>exact HRg))
  |(refine au9 rfl 142 _ rfl _ rfl D (by have:=Na;simp[Act.eval,Act.put];exact this) ?_)
  |(refine auf rfl 142 _ _ rfl (w.heap.size+1+1) D rfl rfl 142 Z ?sr1 (by rw[HDz.out];exact Mc.iQ) (by rw[HDz.out];exact HZs) HDo ?_;(case sr1=>exact zk)))
 refine auc (v:=.tuple #[.agg D,.bool true]) (Hr.aI results86 _ _ _ _ _ (0,0) _ _ rfl rfl (aup _ _ _ _ _ (0,0) zk) underlying142 rfl (by rw[HDz.out];exact Mc.iQ)) rfl ⟨_,_,_,by rw[HDe.out],HD _,HDw _,?_⟩;exact ag fQ ab _
end Mp
namespace En
open Mm Hh Hc Mc
theorem zl {d:Qv}{x:Wk}(D:Dq w b d x)(hz:w.heap[z]?=some (.cells Z 142 (0,0)))(cs:Array Value):Dq (w.setRow z cs) b d x:=by
 have st:∀(k:Nat) (o:Array Value) (t:Nat) (f:Nat×Nat),t≠142->w.heap[k]?=some (.cells o t f)->(w.setRow z cs).heap[k]?=w.heap[k]?:=fun k o t f ht e=>auo _ _ _ _ (aa e hz ht)
 exact⟨D.hh,D.n,D.mem.to fun k o f e=>st k o _ f an e,aj D.out fun k o f e=>st k o _ f an e,aj D.av fun k o f e=>st k o _ f an e⟩
theorem Ev.oth {lo:Nat}{room:Int}{s:Sh}{L:List Kc.Bv}(E:Ev lo w base g room s L pu sl mn){t0:Nat}(hz:w.heap[z]?=some (.cells Z t0 f0))(ht0:t0≠94/\t0≠5/\t0≠43/\t0≠37/\t0≠64/\t0≠59/\t0≠235)(q:∀k,k≠z->w'.heap[k]?=w.heap[k]?):Ev lo w' base g room s L pu sl mn:=by
 obtain⟨M,gh,hc,O,a,n,cap,mb,D,E⟩:=E;obtain⟨t1,t2,t3,t4,t5,t6,t7⟩:=ht0;have st:∀(k:Nat) (o:Array Value) (t:Nat) (f:Nat×Nat),t0≠t->w.heap[k]?=some (.cells o t f)->w'.heap[k]?=w.heap[k]?:=fun k o t f ht e=>q k (aa e hz (Ne.symm ht))
 refine⟨M,gh,hc,O,a,n,cap,mb,D,⟨E.bw.t1,E.bw.t2,E.bw.t3,E.bw.bg,(st _ _ _ _ t1 E.bw.blk).trans E.bw.blk,E.bw.mem.to fun k o f e=>st k o _ f t2 e,E.bw.bh,E.bw.row.to fun k o f e=>st k o _ f t3 e,aj E.bw.out fun k o f e=>st k o _ f t4 e,⟨E.bw.hz.1.to fun k o f e=>st k o _ f t3 e,E.bw.hz.2⟩⟩,E.bt.to fun k o t f hk ht e=>st k o t f (by rcases ht with rfl|rfl<;>assumption) e,E.cap,E.bm,l8 E.map (q _ (fun e=>?_)),fun b hb=>?_⟩
 ·obtain⟨es,clock,hb,_⟩:=E.map;rw[e,hz]at hb;cases hb
 ·obtain⟨ca,cn,cc,h1,h2⟩:=E.code b hb;exact⟨ca,cn,cc,h1,h2.to fun k o f e=>st k o _ f t7 e⟩
section
variable{room:Int}{s:Sh}{L L1:List Kc.Bv}
theorem BO (E:Ev 0 w base g room s L pu sl mn)(hcl:s.hs.length=c)(hk:k<c)(Oz:Nat){x x1:Wk}(cd:List Mi.Mv)(BA:∀W:World,Gr w W->Calls prog 85 #[.pointer (some ⟨g,0,none⟩),.int .u32 (at' s k).pc] W fun e w'=>∃ba bc ca cn cc,e=.returned (.tuple #[.agg #[.int .u32 (at' s k).pc,.slice ba Oz bc],.slice ca cn cc])/\Ts.Ct w' ca cn cd/\Ev 0 w' base g room s L1 p1 sl m1/\Fm base W w')(BY:∀(W:World) (ba:Option Addr) (bc:Nat),Calls prog 87 #[.agg #[.int .u32 (at' s k).pc,.slice ba Oz bc]] W fun e w'=>e=.returned (.agg #[.int .u32 (at' s k).pc,.int .u32 ((at' s k).pc+4*(Oz:Int))])/\Gr W w')(RN:∀(W:World) (ca:Option Addr) (cn cc:Nat) (ma:Option Addr) (mc:Nat),Below base w W->Mi.Cs W ca cn cd->Own W Hc.mb (.slice ma s.m.length mc) s.m->Calls prog 86 #[.slice ca cn cc,.agg (hA (at' s k)),.slice ma s.m.length mc,.agg #[.int .u32 (at' s k).pc,.int .u32 ((at' s k).pc+4*(Oz:Int))],.int .i64 n] W fun e w'=>∃d,e=.returned (.tuple #[.agg (qA d),.bool true])/\(Dq w' 0 d x/\d.h.Ok)/\Gr W w')(WK:x.n=0->∀W:World,Below base w W->Ev 0 W base g room s L1 p1 sl m1->Calls prog 83 #[.pointer (some ⟨g,0,none⟩),.agg #[.int .i64 k,.int .i64 1]] W fun e w'=>∃d,e=.returned (.agg (qA d))/\(Dq w' 0 d x1/\d.h.Ok)/\Gr W w'):Calls prog 57 #[.pointer (some ⟨g,0,none⟩),.agg #[.int .i64 k,.int .i64 n]] w fun e w'=>∃d,e=.returned (.agg (qA d))/\(Dq w' 0 d (if x.n=0 then x1 else x)/\d.h.Ok)/\Ev 0 w' base g room s L1 p1 sl m1/\Fm base w w':=by
 have HBA:=kH BA;have adX:=kH BY;have HRN:=kH RN;have HWK:=kH WK;obtain⟨M0,gh,hc,O0,a0,n0,cap0,mb0,D0,E0⟩:=E;have hl:k<s.hs.length:=by rw[hcl];exact hk
 have eh:s.hs[k]?=some (at' s k):=by unfold at';rw[api hl];simp[List.getD,hl]
 have jM:=E0.bw.row.ok _ (aps eh);have RG:=kH (E0.bw.row.range eh);have K1:Hid (w.cell? ⟨g,1,none⟩=some (.slice (some ⟨gh,0,none⟩) c hc)):=by have:=E0.bw.c1;rw[hcl]at this;exact this
 have rH:=kH (aD jM);have sJ:Hid ((hL (at' s k)).toArray.size=37):=by unfold Hid;simp[rH.out]
 have HHO:=kH (qC (at' s k));have HPC:=kH (aW jM 0);have HHA:Hid (hA (at' s k)=(hL (at' s k)).toArray):=rfl;have hgl:=E0.bw.lt;have Jp:gh<w.heap.size:=by obtain⟨_,e⟩:=E0.bw.row.row;exact(apk.1 e).1
 have hbl:=E0.ay;have fO:Hid (∀W:World,Gr w W->W.heap[w.heap.size]?=some (.cells #[.int .i64 k,.int .i64 n] 45 (0,0))->(fun W=>W.cell? ⟨g,1,none⟩=some (.slice (some ⟨gh,0,none⟩) c hc)/\W.cell? ⟨w.heap.size,0,none⟩=some (.int .i64 k)/\W.rangeAt gh (k*37) (hL (at' s k))) W):=fun W G e=>
  ⟨(G.cell _ (by exact hgl)).trans K1.out,atZ _ _ _ _ _ _ e,fun j v hv=>(G.cell _ (by exact Jp)).trans (RG.out j v hv)⟩
 clear BA BY RN WK E0 hcl eh jM hl K1 RG;generalize(at' s k).pc=pc at *
 generalize at' s k=h at *
 go_enter func57,ntmps57;go_wp2_with fail;refine aut (S:=fun W=>W.cell? ⟨g,1,none⟩=some (.slice (some ⟨gh,0,none⟩) c hc)/\W.cell? ⟨w.heap.size,0,none⟩=some (.int .i64 k)/\W.rangeAt gh (k*37) (hL h)) al ?_ (fun hHeld=>?_)
 ·exact fO.out _ (br.alloc _).drew (Kc.aX (Gr.refl _).drew (auR w _ _))
 have aY:=kH hHeld;clear hHeld;refine tK 0 (.pointer (some ⟨g,0,none⟩)) aY.out ?_;refine tK 1 (.pointer (some ⟨g,0,none⟩)) aY.out ?_;refine tK 2 (.pointer (some ⟨g,0,none⟩)) aY.out ?_;refine tK 3 (.pointer (some ⟨g,0,none⟩)) aY.out ?_;refine tK 4 (.pointer (some ⟨g,0,none⟩)) aY.out ?_;refine tK 5 (.pointer (some ⟨g,1,none⟩)) aY.out ?_;refine tK 6 (.slice (some ⟨gh,0,none⟩) c hc) aY.out ?_;refine tK 7 (.pointer (some ⟨w.heap.size,0,none⟩)) aY.out ?_;refine tK 8 (.int .i64 k) aY.out ?_;refine tK 9 (.pointer (some ⟨gh,k*37,none⟩)) aY.out ?_;refine auF (i:=10) (v:=.agg (hL h).toArray) rfl al al al (fun _ _ _ h=>h) (auN (by rfl) 43 (.tmp 19) rfl gh (k*37) aw (hL h) _ (fun W hW=>hW.2.2) underlying43 rfl (by rw[rH.out];exact iH)) aY.out ?_;simp only[apN,apP,apQ,Act.put,apl,apC,apy];refine aue (rs:=[11]) al aq ?_;refine aua rfl (fun K hK=>?_) aud;go_simp;refine hK.out _ _ ?_ (fun _=>?_)
 ·exact fO.out _ (jm _ _ _ _) (jd _ _ _ _ _)
 clear hK K aY;refine bu (i:=12) al rfl rfl 43 (.tmp 5) (.tmp 20) rfl (w.heap.size+2) (hL h).toArray aw aw 43 _ (ni _ _ _ _) (by rw[sJ.out];exact iH) (by rw[sJ.out];rfl) HHO.out ?_ ?_
 ·refine fO.out _ (ag (jm _ _ _ _) ab _) ?_;rw[auo _ _ _ _ ab];exact jd _ _ _ _ _
 refine auy al ?_ _;refine aT (fun W=>W.heap[w.heap.size]?=some (.cells #[.int .i64 k,.int .i64 n] 45 (0,0))/\(∃Z:Array Value,Z.size=41/\W.heap[w.heap.size+1]?=some (.cells Z 142 (0,0)))/\W.heap[w.heap.size+2]?=some (.cells (hL h).toArray 43 (0,0))/\Gr w W) ?_ ?_
 ·refine⟨?_,⟨qA ⟨h0,ax,ax,0,ax⟩,fG (d:=⟨h0,ax,ax,0,ax⟩) iO,?_⟩,aup _ _ _ _ _ (0,0) (ni _ _ _ _),ag (jm _ _ _ _) ab _⟩
  ·rw[auo _ _ _ _ ab];exact jd _ _ _ _ _
  ·rw[auo _ _ _ _ ab];exact wU _ _ _ _ _
 rintro W ⟨KP,⟨Z,hZ,KD⟩,KH,GW⟩;have QZ:=kH KP;have HD1:=kH KD;have HH1:=kH KH;have zT:=kH GW;have HZ:=kH hZ;obtain⟨hb,hhb⟩:∃hb:Nat,hb=w.heap.size+2:=⟨_,rfl⟩;rw[<-hhb]at HH1 ⊢;have kpc:W.cell? ⟨hb,32,none⟩=some (.int .u32 pc):=(atZ _ _ _ _ _ _ HH1.out).trans (by rw[apm];exact HPC.out);clear KP KD KH GW hZ fO hhb;go_wp2_with fail;refine(HBA.out _ zT.out).mono ?_;rintro e w3 ⟨ba,bc,ca,cn,cc,rfl,C3,E3,F3⟩;have zP:=kH C3;have Rb:=kH E3;have Jk:=kH ((Fm.bD zT.out hbl).trans F3);have KT:=kH (F3.row QZ.out an);have HD3:=kH (F3.row HD1.out an);have HH3:=kH (F3.row HH1.out an);clear C3 E3 F3 HBA QZ HD1 HH1 zT kpc;clear W;go_wp2_with fail;obtain⟨M,gh1,hc1,O1,a1,n1,al9,mb1,D1,E4⟩:=Rb.out;obtain⟨ma,mc,rfl, -⟩:=E4.bw.mem.mem;have Ri:=kH E4;clear E4;generalize hw4:w3.alloc (.cells #[.int .u32 pc,.slice ba Oz bc] 64)=w4 at *
 have fC:Hid (Gr w3 w4):=by rw[<-hw4];exact(Gr.refl w3).alloc _
 have sj:Hid (w4.heap[w3.heap.size]?=some (.cells #[.int .u32 pc,.slice ba Oz bc] 64 (0,0))):=by rw[<-hw4];exact at5 w3 _
 clear hw4;have hlt3:=(apk.1 HD3.out).1;have HS:Hid (∀W:World,Gr w4 W->(fun W=>W.rangeAt hb 0 (hL h)/\W.cell? ⟨g,0,none⟩=some (.slice ma s.m.length mc)/\W.cell? ⟨w3.heap.size,0,none⟩=some (.int .u32 pc)/\W.cell? ⟨w3.heap.size,1,none⟩=some (.slice ba Oz bc)/\W.cell? ⟨w.heap.size,1,none⟩=some (.int .i64 n)) W):=fun W G=>by
  have GA:=fC.out.trans G;have X:=Ri.out.of GA;have e1:=Kc.aX GA HH3.out;have e2:=Kc.aX G sj.out;have e3:=Kc.aX GA KT.out;refine⟨fun j v hv=>?_,X.bw.c0,atZ _ _ _ _ _ _ e2,atZ _ _ _ _ _ _ e2,atZ _ _ _ _ _ _ e3⟩;rw[apu,atZ _ _ _ _ _ _ e1,apm];exact hv
 have HBy:Hid (∀W:World,_):=fun W=>adX.out W ba bc
 have UD:Hid (∀W:World,Gr w4 W->Calls prog 86 #[.slice ca cn cc,.agg (hL h).toArray,.slice ma s.m.length mc,.agg #[.int .u32 pc,.int .u32 (pc+4*(Oz:Int))],.int .i64 n] W fun e w'=>∃d,e=.returned (.tuple #[.agg (qA d),.bool true])/\(Dq w' 0 d x/\d.h.Ok)/\Gr W w'):=fun W G=>by
  have GA:=fC.out.trans G;have:=HRN.out W ca cn cc ma mc (Jk.out.below.trans (aun GA (apr hbl ab))) (zP.out.of GA).cs (gT Ri.out.bw.mem GA);rw[HHA.out]at this;exact this
 clear adX HRN zP;generalize s.m.length=mln at *
 generalize pc+4*(Oz:Int)=pt at *
 apply Kc.share
 ·intro jO;refine aut (S:=fun W=>W.rangeAt hb 0 (hL h)/\W.cell? ⟨g,0,none⟩=some (.slice ma mln mc)/\W.cell? ⟨w3.heap.size,0,none⟩=some (.int .u32 pc)/\W.cell? ⟨w3.heap.size,1,none⟩=some (.slice ba Oz bc)/\W.cell? ⟨w.heap.size,1,none⟩=some (.int .i64 n)) al ?_ (fun hHeld=>?_)
  ·exact HS.out _ (Gr.refl _).drew
  have aY:=kH hHeld;clear hHeld;refine tK 0 (.slice ca cn cc) aY.out ?_;refine auF (i:=1) (v:=.agg (hL h).toArray) rfl al al al (fun _ _ _ h=>h) (auN (by rfl) 43 (.tmp 5) rfl hb 0 aw (hL h) _ (fun W hW=>hW.1) underlying43 rfl (by rw[rH.out];exact iH)) aY.out ?_;simp only[apN,apP,apQ,Act.put,apl,apC,apy];refine tK 2 (.pointer (some ⟨g,0,none⟩)) aY.out ?_;refine tK 3 (.pointer (some ⟨g,0,none⟩)) aY.out ?_;refine tK 4 (.pointer (some ⟨g,0,none⟩)) aY.out ?_;refine tK 5 (.pointer (some ⟨g,0,none⟩)) aY.out ?_;refine tK 6 (.pointer (some ⟨g,0,none⟩)) aY.out ?_;refine tK 7 (.pointer (some ⟨g,0,none⟩)) aY.out ?_;refine tK 8 (.slice ma mln mc) aY.out ?_;refine tK 9 (.agg #[.int .u32 pc,.slice ba Oz bc]) aY.out ?_;refine tK 11 (.pointer (some ⟨w.heap.size,1,none⟩)) aY.out ?_;refine tK 12 (.int .i64 n) aY.out ?_;refine aue (rs:=[10,17]) al aq ?_;refine aua rfl (fun K hK=>?cf) (aua rfl (fun K hK=>?af) aud)
  case cf=>
   go_simp;refine(HBy.out _).mono ?_;rintro e wb ⟨rfl,Gb⟩;have CO:=kH (Gr.trans ((Gr.refl _).drew) Gb);clear Gb;refine hK.out _ _ (HS.out _ CO.out) (fun hx=>?_);clear hK K hx;refine aue (rs:=[13,17]) al aq ?_;refine aua rfl (fun K hK=>?cf2) (aua rfl (fun K hK=>?af2) aud)
   case cf2=>
    go_simp;refine(UD.out _ (CO.out)).mono ?_;rintro e wd ⟨d,rfl,DD,Gd⟩;have OA:=kH DD;have gp:=kH (Gr.trans (CO.out) Gd);have qw:=kH (fG DD.2);have CQ:=kH (lW DD.1.mem.cells.2 (az DD.1.out).2.1 (az DD.1.av).2.1);clear DD;refine hK.out _ _ (HS.out _ gp.out) (fun hx=>?_);clear hK K hx;clear Gd;have fO:Hid _:=HS.out _ gp.out;refine tK 14 (.tuple #[.agg (qA d),.bool true]) fO.out ?_;refine tK 15 (.agg (qA d)) fO.out ?_;refine tK 16 (.bool true) fO.out ?_;refine aue (rs:=[17]) al aq ?_;refine aua rfl (fun K hK=>?_) aud;go_simp;refine hK.out _ _ (HS.out _ (gp.out.alloc _)) (fun hx=>?_);clear hK K hx;refine bu (i:=18) al rfl rfl 142 (.tmp 8) (.tmp 43) rfl wd.heap.size (qA d) aw aw 142 _ (at5 wd _) (by rw[qw.out];exact iQ) (by rw[qw.out];rfl) CQ.out ?_ ?_
    ·exact HS.out _ (ag (gp.out.alloc _) gp.out.size _)
    refine tK 19 (.bool true) (HS.out _ (ag (gp.out.alloc _) gp.out.size _)) ?_;refine auy al ?_ _;refine aT (fun W=>W.heap[wd.heap.size]?=some (.cells (qA d) 142 (0,0))/\(Dq W 0 d x/\d.h.Ok)/\Gr w4 W) ⟨aup _ _ _ _ _ (0,0) (at5 wd _),⟨OA.out.1.gr (ag br (apn _) _),OA.out.2⟩,ag (gp.out.alloc _) gp.out.size _⟩ ?_;obtain⟨o,ho⟩:∃o:Nat,o=wd.heap.size:=⟨_,rfl⟩;rw[<-ho];clear ho OA fO gp qw CQ CO ;clear wd;clear wb
    revert o d
    exact jO.out
   case af2=>
    go_simp;refine hK.out _ _ (HS.out _ (CO.out.alloc _)) (fun hx=>?_);clear hK K hx;refine aue (rs:=[13]) al aq ?_;refine aua rfl (fun K hK=>?_) aud;go_simp;refine(UD.out _ (CO.out.alloc _)).mono ?_;rintro e wd ⟨d,rfl,DD,Gd⟩;have OA:=kH DD;have gp:=kH (Gr.trans (CO.out.alloc _) Gd);have qw:=kH (fG DD.2);have CQ:=kH (lW DD.1.mem.cells.2 (az DD.1.out).2.1 (az DD.1.av).2.1);clear DD;have sM:=kH (Kc.aX Gd (at5 wb _));clear Gd;refine hK.out _ _ (HS.out _ gp.out) (fun hx=>?_);clear hK K hx;have fO:Hid _:=HS.out _ gp.out;refine tK 14 (.tuple #[.agg (qA d),.bool true]) fO.out ?_;refine tK 15 (.agg (qA d)) fO.out ?_;refine tK 16 (.bool true) fO.out ?_;refine bu (i:=18) al rfl rfl 142 (.tmp 8) (.tmp 43) rfl wb.heap.size (qA d) aw aw 142 _ sM.out (by rw[qw.out];exact iQ) (by rw[qw.out];rfl) CQ.out ?_ ?_
    ·exact HS.out _ (ag gp.out CO.out.size _)
    refine tK 19 (.bool true) (HS.out _ (ag gp.out CO.out.size _)) ?_;refine auy al ?_ _;refine aT (fun W=>W.heap[wb.heap.size]?=some (.cells (qA d) 142 (0,0))/\(Dq W 0 d x/\d.h.Ok)/\Gr w4 W) ⟨aup _ _ _ _ _ (0,0) sM.out,⟨zl OA.out.1 sM.out _,OA.out.2⟩,ag gp.out CO.out.size _⟩ ?_;obtain⟨o,ho⟩:∃o:Nat,o=wb.heap.size:=⟨_,rfl⟩;rw[<-ho];clear ho OA fO gp qw CQ CO sM;clear wd;clear wb
    revert o d
    exact jO.out
  case af=>
   go_simp;refine hK.out _ _ (HS.out _ br.drew) (fun hx=>?_);clear hK K hx;refine aue (rs:=[10]) al aq ?_;refine aua rfl (fun K hK=>?_) aud;go_simp;refine(HBy.out _).mono ?_;rintro e wb ⟨rfl,Gb⟩;have CO:=kH (Gr.trans (br.drew) Gb);have HNb:=kH (Kc.aX Gb (Kc.aX (Gr.refl _).drew (at5 w4 _)));clear Gb;refine hK.out _ _ (HS.out _ CO.out) (fun hx=>?_);clear hK K hx;refine aue (rs:=[13]) al aq ?_;refine aua rfl (fun K hK=>?_) aud;go_simp;refine(UD.out _ (CO.out)).mono ?_;rintro e wd ⟨d,rfl,DD,Gd⟩;have OA:=kH DD;have gp:=kH (Gr.trans (CO.out) Gd);have qw:=kH (fG DD.2);have CQ:=kH (lW DD.1.mem.cells.2 (az DD.1.out).2.1 (az DD.1.av).2.1);clear DD;have sM:=kH (Kc.aX Gd HNb.out);clear Gd;refine hK.out _ _ (HS.out _ gp.out) (fun hx=>?_);clear hK K hx;have fO:Hid _:=HS.out _ gp.out;refine tK 14 (.tuple #[.agg (qA d),.bool true]) fO.out ?_;refine tK 15 (.agg (qA d)) fO.out ?_;refine tK 16 (.bool true) fO.out ?_;refine bu (i:=18) al rfl rfl 142 (.tmp 8) (.tmp 43) rfl w4.heap.size (qA d) aw aw 142 _ sM.out (by rw[qw.out];exact iQ) (by rw[qw.out];rfl) CQ.out ?_ ?_
   ·exact HS.out _ (ag gp.out (apn _) _)
   refine tK 19 (.bool true) (HS.out _ (ag gp.out (apn _) _)) ?_;refine auy al ?_ _;refine aT (fun W=>W.heap[w4.heap.size]?=some (.cells (qA d) 142 (0,0))/\(Dq W 0 d x/\d.h.Ok)/\Gr w4 W) ⟨aup _ _ _ _ _ (0,0) sM.out,⟨zl OA.out.1 sM.out _,OA.out.2⟩,ag gp.out (apn _) _⟩ ?_;obtain⟨o,ho⟩:∃o:Nat,o=w4.heap.size:=⟨_,rfl⟩;rw[<-ho];clear ho OA fO gp qw CQ CO sM HNb;clear wd;clear wb
   revert o d
   exact jO.out
 ·intro d o W ⟨KO,KQ,GW⟩;have HQ:=kH KQ;have lu:=kH (fC.out.trans GW);have HO5:=kH KO;have Q9:=kH (Kc.aX lu.out KT.out);have HD5:=kH (Kc.aX lu.out HD3.out);have Gq:=kH (Rb.out.of lu.out);have KV:=kH (Jk.out.trans (Fm.bD lu.out (apr hbl ab)));have KJ:W.cell? ⟨o,39,none⟩=some (.int .i64 x.n):=(atZ _ _ _ _ _ _ KO).trans (by rw[jl KQ.2 2];simp[KQ.1.n]);clear KO KQ GW HS HBy UD Ri Rb sj KT HD3 HH3 fC lu Jk hlt3;clear w4;by_cases hx0:x.n=0
  ·rw[hx0]at KJ;have HX0:=kH hx0;have HW5:Hid (∀V:World,Gr W V->_):=fun V G=>HWK.out hx0 V (KV.out.below.trans (aun G (apr hbl (by have:=(apk.1 HD5.out).1;omega)))) (Gq.out.of G)
   have rO:Hid (∀V:World,Gr W V->V.cell? ⟨w.heap.size,0,none⟩=some (.int .i64 k)):=fun V G=>atZ _ _ _ _ _ _ (Kc.aX G Q9.out)
   clear hx0 HWK;go_wp2_with fail;refine aut (S:=fun W=>W.cell? ⟨w.heap.size,0,none⟩=some (.int .i64 k)) al ?_ (fun hHeld=>?_)
   ·exact rO.out _ (Gr.refl _).drew
   have aY:=kH hHeld;clear hHeld;refine tK 0 (.pointer (some ⟨g,0,none⟩)) aY.out ?_;refine tK 1 (.pointer (some ⟨g,0,none⟩)) aY.out ?_;refine tK 2 (.pointer (some ⟨g,0,none⟩)) aY.out ?_;refine tK 3 (.pointer (some ⟨w.heap.size,0,none⟩)) aY.out ?_;refine tK 4 (.int .i64 k) aY.out ?_;refine tK 5 (.agg #[.int .i64 k,.int .i64 1]) aY.out ?_;refine aue (rs:=[6]) al aq ?_;refine aua rfl (fun K hK=>?_) aud;go_simp;refine(HW5.out _ (Gr.refl _).drew).mono ?_;rintro e w6 ⟨d6,rfl,Q6,G6⟩;have HQ6:=kH Q6;have oL:Hid (Gr W w6):=(Gr.refl _).drew.trans G6;have qw:=kH (fG Q6.2);have CQ:=kH (lW Q6.1.mem.cells.2 (az Q6.1.out).2.1 (az Q6.1.av).2.1);have HD6:=kH (Kc.aX oL.out HD5.out);have HP6:=kH (Kc.aX oL.out Q9.out);clear Q6 G6;refine hK.out _ _ (rO.out _ oL.out) (fun hx=>?_);clear hK K hx;refine bu (i:=7) al rfl rfl 142 (.tmp 4) (.tmp 58) rfl (w.heap.size+1) (qA d6) aw aw 142 Z HD6.out (by rw[qw.out];exact iQ) (by rw[qw.out];exact HZ.out) CQ.out ?_ ?_
   ·exact atZ _ _ _ _ _ _ ((auo _ _ _ _ ab).trans HP6.out)
   refine auy al ?_ _;go_wp2_with fail;refine auc (v:=.agg (qA d6)) (auD rfl _ _ _ _ _ (0,0) _ rfl (aup _ _ _ _ _ (0,0) HD6.out) underlying142 rfl (by rw[qw.out];exact iQ)) rfl ⟨d6,rfl,⟨?_,HQ6.out.2⟩,?_,?_⟩
   ·exact zl HQ6.out.1 HD6.out _
   ·exact(Gq.out.of oL.out).oth HD6.out an fun k hk=>auo _ _ _ _ hk
   ·exact(KV.out.trans (Fm.bD oL.out (apr hbl (by have:=(apk.1 HD5.out).1;omega)))).setRow ab ab _
  ·have hx2:((x.n:Int) ==0)=false:=by simp;omega
   have HX0:=kH hx0;have qw:=kH (fG HQ.out.2);have CQ:=kH (lW HQ.out.1.mem.cells.2 (az HQ.out.1.out).2.1 (az HQ.out.1.av).2.1);clear hx0 HWK;generalize hQA:qA d=QA at *
   have HQA:Hid (qA d=QA):=hQA;clear hQA
   go_wp2_with (first
    |(refine auL rfl 142 _ rfl o rfl 142 QA (0,0) _ ?ll1 underlying142 rfl (by rw[qw.out];exact iQ) ?_;(case ll1=>exact HO5.out))
    |(refine auf rfl 142 _ _ rfl (w.heap.size+1) QA rfl rfl 142 Z ?ss1 (by rw[qw.out];exact iQ) (by rw[qw.out];exact HZ.out) CQ.out ?_;(case ss1=>exact HD5.out)))
   refine auc (v:=.agg QA) (auD rfl _ _ _ _ _ (0,0) _ rfl (aup _ _ _ _ _ (0,0) HD5.out) underlying142 rfl (by rw[qw.out];exact iQ)) rfl ⟨d,by rw[HQA.out],⟨?_,HQ.out.2⟩,?_,?_⟩
   ·exact zl HQ.out.1 HD5.out _
   ·exact Gq.out.oth HD5.out an fun k hk=>auo _ _ _ _ hk
   ·exact KV.out.setRow ab ab _
end
end En
namespace En
open Mm Hh Hc Mc
structure nI (b:Nat) (w:World):Prop where
 tt:TT w b
 tr:Mp.Tr w
 trb:7<b
 ts:Gc.Ts w b
 tq:Ts.Tq w
 tqb:6<b
theorem nI.below (T :nI b w) (h :Below b w w') :nI b w' :=
  ⟨⟨⟨fun i n e => (auJ h (by exact T.tt.b1)).trans (T.tt.tab.shapes i n e), fun i n e => (auJ h (by exact T.tt.b2)).trans (T.tt.tab.uppers i n e)⟩, ⟨fun i n e => (auJ h (by exact T.tt.tb.b1)).trans (T.tt.tb.sizes i n e), fun i n e => (auJ h (by exact T.tt.tb.b2)).trans (T.tt.tb.opers i n e), T.tt.tb.b1, T.tt.tb.b2⟩, T.tt.b1, T.tt.b2⟩,
   ⟨fun i n e => (auJ h (by exact T.trb)).trans (T.tr.rows i n e), apq T.tr.b h.size⟩, T.trb, Gc.nO T.ts h, fun k n e => (auJ h (by exact T.tqb)).trans (T.tq k n e), T.tqb⟩
theorem nI.tt' (T:nI b w)(h:b<=w.heap.size):TT w w.heap.size:=⟨T.tt.tab,⟨T.tt.tb.sizes,T.tt.tb.opers,apq T.tt.tb.b1 h,apq T.tt.tb.b2 h⟩,apq T.tt.b1 h,apq T.tt.b2 h⟩
theorem nI.ts' (T:nI b w)(h:b<=w.heap.size):Gc.Ts w w.heap.size:=⟨T.ts.sizes,apq T.ts.b1 h⟩
theorem OB (h:Own w Hc.mb (.slice a n c) l):a=none->c=0:=by
 intro e;subst e;rcases h with⟨h0,_⟩|⟨g,cap,hv,_⟩
 ·injection h0
 ·injection hv with h1;cases h1
theorem aae {cn cc:Nat}{cd:List Mi.Mv}(C:Mi.Cs w ca cn cd)(T:nI b w)(hb:b<=w.heap.size)(hl:cd.length<=1000)(hm:Mi.nZ cd=true){h:Hv}(o:h.Ok)(M:Own w Hc.mb (.slice ma l.length mc) l)(lY:l.length<=4096)(bf bt:Int)(hn:n<=400)(hh:may h=true)(hs:h.state=0)(hmb:Hc.mb<=w.heap.size):Calls prog 86 #[.slice ca cn cc,.agg (hA h),.slice ma l.length mc,.agg #[.int .u32 bf,.int .u32 bt],.int .i64 n] w fun e w'=>∃d,e=.returned (.tuple #[.agg (qA d),.bool true])/\(Dq w' 0 d (Dz (Mi.dC bf bt n h l cd))/\d.h.Ok)/\Gr w w':=by
 obtain⟨xB,mc',hM,MM⟩:=M.mem;injection hM with h1 h2 h3;subst h1 h3;have hcn:=C.len;refine(Mp.UC cc C T.tr (T.ts' hb) ab hm o MM (OB M) bf bt n ab ab hh hs lY hmb).mono ?_;rintro e w' ⟨M2,O2,S2,rfl,D2,W2,G2⟩;refine⟨⟨(Mi.dC bf bt n h l cd).h,M2,O2,(Mi.dC bf bt n h l cd).n,S2⟩,rfl,⟨⟨rfl,rfl,W2,?_,?_⟩,D2.ok.h⟩,G2⟩
 ·obtain⟨b1,h⟩:=D2.out;exact Bk.kD h (apF _)
 ·obtain⟨b1,h⟩:=D2.av;exact Bk.kD h (apF _)
theorem aaf {d:Qv}{x:Wk}(D:Dq w b d x):Dq w 0 d x:=⟨D.hh,D.n,D.mem,Bk.kD D.out (apF _),Bk.kD D.av (apF _)⟩
theorem UE (h0:0<=pc)(h1:pc<4294967296)(hz:(Bk.blk l pc 16 0).length=0):¬Bk.jR l pc=0:=by
 intro e;have ha:Bk.at4 pc 0=pc:=by unfold Bk.at4 Wd.lo;omega
 rw[Bk.blk,ha,at7 e]at hz;simp at hz
section
variable{room:Int}{s:Sh}{L L1:List Kc.Bv}
theorem rP (E:Ev 0 w base g room s L pu sl mn)(T:nI b w)(hbb:b≤base)(F:Fit s c ml)(lY:ml≤4096)(hc4:c≤4)(hk:k<c)(hn:n≤400)(hst:(at' s k).state=0)(is:List Ts.Iv)(hfit:(at' s k).pc+4*(is.length:Int)≤4294967295)(h16:is.length≤16)(hlen:(Ts.aS (at' s k).pc is 0).length≤1000)(ze:Mi.nZ (Ts.aS (at' s k).pc is 0)=true)(hf:(Dz (Mi.dC (at' s k).pc ((at' s k).pc+4*(is.length:Int)) n (at' s k) s.m (Ts.aS (at' s k).pc is 0))).n=0→¬Bk.jR s.m (at' s k).pc=0)(BA:∀W:World,Gr w W->Calls prog 85 #[.pointer (some ⟨g,0,none⟩),.int .u32 (at' s k).pc] W fun e w'=>∃ba bc ca cn cc,e=.returned (.tuple #[.agg #[.int .u32 (at' s k).pc,.slice ba is.length bc],.slice ca cn cc])/\Ts.Ct w' ca cn (Ts.aS (at' s k).pc is 0)/\Ev 0 w' base g room s L1 p1 sl m1/\Fm base W w'):Calls prog 57 #[.pointer (some ⟨g,0,none⟩),.agg #[.int .i64 k,.int .i64 n]] w fun e w'=>∃d,e=.returned (.agg (qA d))/\(Dq w' 0 d (if(Dz (Mi.dC (at' s k).pc ((at' s k).pc+4*(is.length:Int)) n (at' s k) s.m (Ts.aS (at' s k).pc is 0))).n=0 then wk (w0 s k) 1 else Dz (Mi.dC (at' s k).pc ((at' s k).pc+4*(is.length:Int)) n (at' s k) s.m (Ts.aS (at' s k).pc is 0)))/\d.h.Ok)/\Ev 0 w' base g room s L1 p1 sl m1/\Fm base w w':=by
 have W0:=pQ F hk;have jM:(at' s k).Ok:=W0.ok;have hmy:may (at' s k)=true:=W0.may;have hbs:base<=w.heap.size:=by
  obtain⟨_,_,_,_,_,_,_,_,_,E⟩:=E;exact E.ay
 have ahw:Hc.mb<=base:=by
  obtain⟨_,_,_,_,_,_,_,_,_,E⟩:=E;exact E.bw.hz.2
 have hmm:s.m.length<=4096:=by have:=F.mem;omega
 refine BO E F.len hk is.length (x1:=wk (w0 s k) 1) _ BA (fun W ba bc=>?_) (fun W ca cn cc ma mc hB C M=>?_) (fun hx W hB EW=>?_)
 ·have:=Kc.wH W ⟨jM.nH,jM.jV⟩ ba (n:=is.length) ab bc;have e:min ((at' s k).pc+4*(is.length:Int)) 4294967295=(at' s k).pc+4*(is.length:Int):=by rw[Int.min_def,at7 hfit]
  rw[e]at this;exact this
 ·exact aae C (T.below (aun hB hbb)) (apr hbb (apr hbs hB.size)) hlen ze jM M hmm _ _ hn hmy hst (apr ahw (apr hbs hB.size))
 ·obtain⟨M,gh,hc,O,a,n',cap,mb,D,EW⟩:=EW;refine(Jq EW.bw F lY ((T.below (aun hB hbb)).tt' (apr hbb (apr hbs hB.size))) hk hc4 (hf hx)).mono ?_;rintro e w' ⟨d,rfl,o,Dd,G⟩;exact⟨d,rfl,⟨aaf Dd,o⟩,G⟩
theorem BP (E:Ev 0 w base g room s L pu sl mn)(K:Ek room s.m L pu sl mn)(T:nI b w)(hbb:b<=base)(F:Fit s c ml)(lY:ml<=4096)(hc4:c<=4)(hr0:0<=room)(hr1:room<=64)(lU:mn<=1000000)(hk:k<c)(hn0:0<n)(hn:n<=400)(hst:(at' s k).state=0):Calls prog 57 #[.pointer (some ⟨g,0,none⟩),.agg #[.int .i64 k,.int .i64 n]] w fun e w'=>∃(d:Qv) (cN:Nat) (L1:List Kc.Bv) (p1:Int) (m1:Nat),e=.returned (.agg (qA d))/\(Dq w' 0 d (wk (w0 s k) cN)/\d.h.Ok)/\((wk (w0 s k) cN).n=cN/\0<cN/\cN<=n)/\Ev 0 w' base g room s L1 p1 sl m1/\Ek room s.m L1 p1 sl m1/\(mn<=m1/\m1<=mn+1/\(L=[]->0<(Bk.blk s.m (at' s k).pc 16 0).length->mn<m1))/\Fm base w w':=by
 have W0:=pQ F hk;have jM:(at' s k).Ok:=W0.ok;have hmy:=W0.may;have hmm:s.m.length<=4096:=by have:=F.mem;omega
 have hkl:k<s.hs.length:=by rw[F.len];exact hk
 have hbs:base<=w.heap.size:=by
  obtain⟨_,_,_,_,_,_,_,_,_,E⟩:=E;exact E.ay
 have hL:=K.same hr1
 -- a fresh block
 have fr:∀(B:Kc.Bv) (L1:List Kc.Bv) (p1:Int) (m1:Nat),dS s.m B->B.pc=(at' s k).pc->Ek room s.m L1 p1 sl m1->(mn<=m1/\m1<=mn+1/\(L=[]->0<(Bk.blk s.m (at' s k).pc 16 0).length->mn<m1))->(∀W:World,Gr w W->Calls prog 85 #[.pointer (some ⟨g,0,none⟩),.int .u32 (at' s k).pc] W fun e w'=>∃ba bc ca cn cc,e=.returned (.tuple #[.agg #[.int .u32 (at' s k).pc,.slice ba B.is.length bc],.slice ca cn cc])/\Ts.Ct w' ca cn (Ts.aS (at' s k).pc B.is 0)/\Ev 0 w' base g room s L1 p1 sl m1/\Fm base W w')->
   Calls prog 57 #[.pointer (some ⟨g,0,none⟩),.agg #[.int .i64 k,.int .i64 n]] w fun e w'=>∃(d:Qv) (cN:Nat) (L1:List Kc.Bv) (p1:Int) (m1:Nat),e=.returned (.agg (qA d))/\(Dq w' 0 d (wk (w0 s k) cN)/\d.h.Ok)/\((wk (w0 s k) cN).n=cN/\0<cN/\cN<=n)/\Ev 0 w' base g room s L1 p1 sl m1/\Ek room s.m L1 p1 sl m1/\(mn<=m1/\m1<=mn+1/\(L=[]->0<(Bk.blk s.m (at' s k).pc 16 0).length->mn<m1))/\Fm base w w':=by
  intro B L1 p1 m1 FB hp K1 hm1 BA;obtain⟨c0,h1,h2,h3,h4,h5,_⟩:=Jd hkl FB hmm jM hmy hst hp.symm (steps:=n) ab;have hfit:=(oD FB hmm).fit;have hln:=(Ts.ji B.pc B.is 0 (AX FB)).2;have h16:=FB.len;rw[hp]at h4 h5 hfit hln;have hne:¬(Dz (Mi.dC (at' s k).pc ((at' s k).pc+4*(B.is.length:Int)) n (at' s k) s.m (Ts.aS (at' s k).pc B.is 0))).n=0:=by
   show¬(Mi.dC (at' s k).pc ((at' s k).pc+4*(B.is.length:Int)) n (at' s k) s.m (Ts.aS (at' s k).pc B.is 0)).n=0
   rw[h4];omega
  refine(rP E T hbb F lY hc4 hk hn hst B.is ab h16 ab (by have:=Jc FB;rwa[hp]at this) (fun e=>absurd e hne) BA).mono ?_;rintro e w' ⟨d,rfl,hd,E',F'⟩;rw[at6 hne,h5]at hd;have hN:(wk (w0 s k) c0).n=c0:=by rw[<-h5];exact h4
  exact⟨d,c0,L1,p1,m1,rfl,hd,⟨hN,h1,ab⟩,E',K1,hm1,F'⟩
 obtain⟨M,gh,hc,O,a,n',cap,mb,D,EW⟩:=id E;have hn':n'<=64:=by have:=EW.bt.bs.len;omega
 have UF:∀W:World,Gr w W->Dw.nK W/\Ts.Tq W:=fun W G=>⟨(T.below (aun G (apr hbb hbs))).tt.tab,(T.below (aun G (apr hbb hbs))).tq⟩
 by_cases hp:0<=Kc.place (at' s k).pc L 0
 ·obtain⟨hm,hpc,FB⟩:=K.found hp;refine fr (Kc.wG (at' s k).pc L) L pu mn FB hpc K ⟨apn _,aqi _,fun e=>?_⟩ fun W G=>?_
  ·subst e;exact absurd hm aq
  ·refine(BK (EW.of G) ab jM.nH jM.jV hp hm hpc).mono ?_;rintro e w' ⟨ba,bc,ca,cn,cc,rfl,C,G'⟩;exact⟨ba,bc,ca,cn,cc,rfl,C,E.of (G.trans G'),Fm.bD G' (apr hbs G.size)⟩
 ·have hp1:Kc.place (at' s k).pc L 0 = -1:=by
   rcases Kc.fU (at' s k).pc L 0 with h|⟨j,x,h,_⟩
   ·exact h
   ·omega
  by_cases hz:(Bk.blk s.m (at' s k).pc 16 0).length=0
  ·refine(rP (L1:=L) (p1:=pu) (m1:=mn) E T hbb F lY hc4 hk hn hst [] (by have:=jM.jV;simp;omega) aq (by simp[Ts.aS]) rfl (fun _=>UE jM.nH jM.jV hz) (fun W G=>?_)).mono ?_
   ·refine(uN (EW.of G) ab hL hr0 hr1 lU jM.nH jM.jV hp1 hmm (UF W G).1 (UF W G).2).mono ?_;rintro e w' ⟨ba,bc,ca,cn,cc,rfl,C,E0,_,F'⟩;have hx:Bk.blk s.m (at' s k).pc 16 0=[]:=apX hz;rw[hx]at C;exact⟨ba,bc,ca,cn,cc,by rw[hx];rfl,C,E0 hz,F'⟩
   ·rintro e w' ⟨d,rfl,hd,E',F'⟩;have h0:(Dz (Mi.dC (at' s k).pc ((at' s k).pc+4*(([]:List Ts.Iv).length:Int)) n (at' s k) s.m (Ts.aS (at' s k).pc [] 0))).n=0:=rfl;rw[at7 h0]at hd;refine⟨d,1,L,pu,mn,rfl,hd,⟨?_,Nat.one_pos,hn0⟩,E',K,⟨apn _,aqi _,fun _ h=>absurd h ab⟩,F'⟩;rw[uk hst];rfl
  ·have hz2:0<(Bk.blk s.m (at' s k).pc 16 0).length:=ab;have FB:=DC jM.nH jM.jV hz2;refine fr ⟨(at' s k).pc,(Bk.blk s.m (at' s k).pc 16 0).map Ts.ui⟩ _ _ (mn+1) FB rfl (K.put hr0 lU FB hp1) ⟨aqi _,apn _,fun _ _=>Nat.lt_succ_self _⟩ fun W G=>?_
   refine(uN (EW.of G) ab hL hr0 hr1 lU jM.nH jM.jV hp1 hmm (UF W G).1 (UF W G).2).mono ?_;rintro e w' ⟨ba,bc,ca,cn,cc,rfl,C,_,E1,F'⟩;exact⟨ba,bc,ca,cn,cc,aq,C,E1 hz2,F'⟩
end
end En
namespace En
open Mm Hh Hc Mc
section
variable{room:Int}{M O:Value}{cap mb:Nat}{D:DataW Value}{s:Sh}{L:List Kc.Bv}
theorem BQ (E:Ew 0 w base g room M gh hc O a n cap mb mn D s L pu sl)(hL:L.length<=64)(hs0:0<=sl)(hs1:sl<=1000000){m:Nat}(OS:w.ownsRow b 175 2 (.slice sa m sc) m (rE ss))(hm:ss.length=m)(hm2:m<=1000000)(bd:∀p∈ss,0<=p.1/\0<p.2/\p.1+p.2<=4096):Calls prog 59 #[.pointer (some ⟨g,0,none⟩),.slice sa m sc] w fun e w'=>e=.returned (.tuple #[])/\(∃sl',Ev 0 w' base g room s (cK ss L) pu sl' mn/\0<=sl'/\sl'+((cK ss L).length:Int)=sl+(L.length:Int))/\Fm base w w':=by
 have HE:=kH E;have HOS:=kH OS;have HM:=kH hm;have HBD:=kH bd;have g7:=E.c7;have HL0:=kH hL;go_enter func59,ntmps59;go_wp2_with fail;go_loopw [14] (fun i wr=>∃j:Nat,j<=m/\i=.int .i64 j/\(∃a' n' cap' sl',Ew 0 wr base g room M gh hc O a' n' cap' mb mn D s (cK (ss.take j) L) pu sl'/\0<=sl'/\sl'+((cK (ss.take j) L).length:Int)=sl+(L.length:Int))/\Fm base w wr) (fun i _=>m-(intOf i).toNat)
 case atStart=>exact⟨0,apF _,rfl,⟨a,n,cap,sl,HE,hs0,rfl⟩,Fm.refl _ _⟩
 case round=>
  obtain⟨j,hj,rfl,⟨a',n',cap',sl',E1,s0,s1⟩,F1⟩:=hrel;have ED:=kH E1;have rY:=kH F1;have Ra:=kH s1;have hlen:(cK (ss.take j) L).length<=64:=apr (mY _ L).length_le HL0;have hn':=E1.bt.bs.len;have HN':=kH hn';have hsl:sl'<=1000064:=by have:=HL0;omega
  have hnb:n'<=64:=ab;have g7':=E1.c7;have hgl:=E1.bw.lt;by_cases hlt:j<m
  ·obtain⟨p,hp⟩:∃p,ss[j]?=some p:=⟨_,api (by rw[HM.out];exact hlt)⟩;obtain⟨p0,p1,p2⟩:=HBD p (aps hp);have HTK:Hid (cK (ss.take (j+1)) L=Kc.bJ p.1 (Wd.lo (p.1+p.2)) (cK (ss.take j) L)):=by unfold Hid;rw[je hp,DK]
   have hlo:0<=Wd.lo (p.1+p.2)/\Wd.lo (p.1+p.2)<4294967296:=by unfold Wd.lo;omega
   have OS1:=aj HOS fun k o f e=>rY.keep k o _ f e an
   obtain⟨sb,cp,hv,_⟩:=sK OS1 ab;obtain rfl:sa=some ⟨sb,0,none⟩:=by injection hv
   have q0:=(OS1.cellAt _ ab).trans (p8 _ _ _ hp).1;have q1:=(OS1.cellAt _ ab).trans (p8 _ _ _ hp).2;have QY:Hid (∀W:World,Gr wr W->Calls prog 88 #[.agg #[.int .i64 room,.slice a' n' cap',.int .i64 pu,.int .i64 sl'],.agg #[.int .u32 p.1,.int .u32 (Wd.lo (p.1+p.2))]] W fun e w'=>∃a2 m2 c2,e=.returned (.agg #[.int .i64 room,.slice a2 m2 c2,.int .i64 pu,.int .i64 (sl'+((n':Int)-((Kc.bJ p.1 (Wd.lo (p.1+p.2)) (cK (ss.take j) L)).length:Int)))])/\(Kc.Bt 0 w' a2 m2 (Kc.bJ p.1 (Wd.lo (p.1+p.2)) (cK (ss.take j) L))/\m2<=c2)/\Gr W w'):=fun W G=>by
    have hk:=wR (ss.take j) p L;rw[HN'.out]at hk;refine(Kc.D9 cap' (ED.bt.of G).bs ab room pu sl' ⟨p0,ab⟩ hlo).mono ?_;rintro e w' ⟨a2,m2,c2,rfl,⟨B2,hc2⟩,G2⟩;rw[yB ab ab];exact⟨a2,m2,c2,rfl,⟨B2.low (apF _),hc2⟩,G2⟩
   have F9:Hid (0<=sl'+((n':Int)-((Kc.bJ p.1 (Wd.lo (p.1+p.2)) (cK (ss.take j) L)).length:Int))/\sl'+((n':Int)-((Kc.bJ p.1 (Wd.lo (p.1+p.2)) (cK (ss.take j) L)).length:Int))+((Kc.bJ p.1 (Wd.lo (p.1+p.2)) (cK (ss.take j) L)).length:Int)=sl+(L.length:Int)):=by
    have hk:=wR (ss.take j) p L;rw[HN'.out]at hk;have:=Ra;rw[HN'.out]at this;unfold Hid;omega
   have HSub:Hid (∀x∈Kc.bJ p.1 (Wd.lo (p.1+p.2)) (cK (ss.take j) L),_):=fun x hx=>(arz.1 hx).1
   have e4:=E1.c4;have e5:=E1.c5;have e6:=E1.c6;have HCl:Hid (∀W:World,Gr wr W->(W.cell? ⟨g,4,none⟩=some (.int .i64 room)/\W.cell? ⟨g,5,none⟩=some (.slice a' n' cap')/\W.cell? ⟨g,6,none⟩=some (.int .i64 pu)/\W.cell? ⟨g,7,none⟩=some (.int .i64 sl'))/\(W.frozen? ⟨g,4,none⟩=false/\W.frozen? ⟨g,5,none⟩=false/\W.frozen? ⟨g,6,none⟩=false/\W.frozen? ⟨g,7,none⟩=false)):=fun W G=>by
    have X:=ED.of G;exact⟨⟨X.c4,X.c5,X.c6,X.c7⟩,X.bw.fz _,X.bw.fz _,X.bw.fz _,X.bw.fz _⟩
   have hgn:¬wr.heap.size=g:=ab;generalize Kc.bJ p.1 (Wd.lo (p.1+p.2)) (cK (ss.take j) L)=L2 at *
   generalize(sl'+((n':Int)-(L2.length:Int)))=SV at *
   generalize Wd.lo (p.1+p.2)=pt at *
   generalize p.1=pf at *
   go_wp2_with fail;go_region_with (go_at_call 88;refine(QY _ b9).mono ?_;rintro e w2 ⟨a2,m2,c2,rfl,⟨B2,hc2⟩,G2⟩;have HG2:Hid (Gr wr w2):=Gr.trans (by repeat (first|exact Gr.refl wr|refine Gr.drewN ?_ _|refine Gr.drew ?_|refine Gr.alloc ?_ _)) G2;have HB2:Hid (Kc.Bt 0 w2 a2 m2 L2):=B2;obtain⟨⟨x4,x5,x6,x7⟩,y4,y5,y6,y7⟩:=HCl _ HG2;clear G2 B2)
   all_goals
    obtain⟨E3,F3⟩:=(ED.of HG2).set pu SV HB2 hc2 HSub;have Rb:=kH E3;have Jk:=kH ((rY.trans (Fm.bD HG2 ED.ay)).trans F3);try go_wp2_with fail
    go_roundw
    case rel=>exact⟨j+1,ab,by go_num,⟨a2,m2,c2,SV,by rw[HTK.out];exact Rb,F9.1,by rw[HTK.out];exact F9.2⟩,Jk⟩
    case measure=>simp[intOf];omega
  ·have HX:Hid (cK (ss.take j) L=cK ss L):=by unfold Hid;rw[ap0 (by rw[HM.out];omega)]
   have HEv:Hid (Ev 0 wr base g room s (cK ss L) pu sl' mn):=⟨M,gh,hc,O,a',n',cap',mb,D,by rw[<-HX.out];exact ED⟩;have HK3:Hid (0<=sl'/\sl'+((cK ss L).length:Int)=sl+(L.length:Int)):=by have:=Ra;rw[HX.out]at this;exact⟨s0,this⟩
   have HFg:Hid (Calls prog 89 #[.pointer (some ⟨g,0,none⟩)] wr fun e w'=>e=.returned (.tuple #[])/\Ev 0 w' base g room s (cK ss L) pu sl' mn/\Fm base wr w'):=by
    refine(uE ED ab).mono ?_;rintro e w' ⟨rfl,⟨D',E'⟩,F'⟩;exact⟨rfl,⟨M,gh,hc,O,a',n',cap',mb,D',by rw[<-HX.out];exact E'⟩,F'⟩
   by_cases hne:sl'=sl
   ·subst hne;go_wp2_with fail;go_end0;exact⟨rfl,⟨sl',HEv,HK3.1,HK3.2⟩,rY⟩
   ·have hne2:(sl' !=sl)=true:=by simpa using hne
    go_wp2_with fail;refine au0 HFg ?_;rintro e w2 ⟨rfl,E2,F2⟩;have HE2:=kH E2;have pX:=kH (rY.trans F2);go_wp2_with fail;go_end0;exact⟨rfl,⟨sl',HE2,HK3.1,HK3.2⟩,pX⟩
end
end En
namespace En
open Mm Hh Hc Mc
theorem EF {m:Nat}:∀(n:Nat) {x:Wk},AU x m→AU (wk x n) m
 |0,x,o=>o
 |n+1,x,o=>by
  by_cases h:x.h.state=0
  ·rw[uk h];exact EF n (yz o h)
  ·rw[yw h];exact o
structure Tn (s:Sh) (k n:Nat) (L:List Kc.Bv) (mn c ml j:Nat) (s':Sh) (L':List Kc.Bv) (iK:Nat):Prop where
 runs:runs s k n=Mc.runs s' k j
 fit:Fit s' c ml
 lo:mn<=iK
 hi:iK<=s'.steps
 out:s'.out.length<=s'.steps
 steps:s'.steps+j<=s.steps+n
 did:(j=n/\s'=s/\L'=L/\iK=mn)\/(L=[]->0<(Bk.blk s.m (at' s k).pc 16 0).length->mn<iK)
theorem Tn.on {s s':Sh}{iK cN:Nat}{L L' L1:List Kc.Bv}(T:Tn s k n L mn c ml j s' L' iK)(hk:k<c)(hc:(wk (w0 s' k) cN).n=cN/\0<cN/\cN<=j)(hm:iK<=m1/\m1<=iK+1/\(L'=[]->0<(Bk.blk s'.m (at' s' k).pc 16 0).length->iK<m1)):Tn s k n L mn c ml (j-cN) (tk s' k (wk (w0 s' k) cN)) L1 m1:=by
 have hl:k<s'.hs.length:=by rw[T.fit.len];exact hk
 have e:=pO hl cN;have o:=EF cN (pQ T.fit hk);have h1:=T.hi;have h2:=T.out;have h3:=T.steps;have h4:=T.lo;have o1:=o.out;obtain⟨c1,c2,c3⟩:=hc;obtain⟨m2,m3,m4⟩:=hm;have es:(tk s' k (wk (w0 s' k) cN)).steps=s'.steps+cN:=by show s'.steps+(wk (w0 s' k) cN).n=_;rw[c1]
 refine⟨?_,by rw[<-e];exact pK hk cN T.fit,ab,ab,?_,ab,.inr fun hL hb=>?_⟩
 ·rw[T.runs,<-e,<-AR,show cN+(j-cN)=j by omega]
 ·rw[es];show(s'.out++(wk (w0 s' k) cN).out).length<=_
  rw[apo];omega
 ·rcases T.did with⟨_,hs,hL',lU⟩|h
  ·have:=m4 (hL'.trans hL) (by rw[hs];exact hb);omega
  ·have:=h hL hb;omega
section
variable{room:Int}{s:Sh}{L:List Kc.Bv}
theorem uP (E:Ev 0 w base g room s L pu sl mn)(K:Ek room s.m L pu sl mn)(T:nI b w)(hbb:b<=base)(F:Fit s c ml)(lY:ml<=4096)(hc4:c<=4)(hr0:0<=room)(hr1:room<=64)(lU:mn<=s.steps)(hso:s.out.length<=s.steps)(hss:s.steps<=200000)(hk:k<c)(hn:n<=400):Calls prog 25 #[.pointer (some ⟨g,0,none⟩),.agg #[.int .i64 k,.int .i64 n]] w fun e w'=>e=.returned (.tuple #[])/\(∃(L':List Kc.Bv) (kZ sl':Int) (iK:Nat),Ev 0 w' base g room (runs s k n) L' kZ sl' iK/\Ek room (runs s k n).m L' kZ sl' iK/\(mn<=iK/\iK<=(runs s k n).steps)/\(L=[]->0<n->(at' s k).state=0->0<(Bk.blk s.m (at' s k).pc 16 0).length->mn<iK))/\Below base w w':=by
 have HE:=kH E;have HK:=kH K;have HT:=kH T;have HF:=kH F;have hbl:base<=w.heap.size:=by
  obtain⟨_,_,_,_,_,_,_,_,_,E⟩:=E;exact E.ay
 have HT0:Hid (Tn s k n L mn c ml n s L mn):=⟨rfl,F,apn _,lU,hso,apn _,.inl ⟨rfl,rfl,rfl,rfl⟩⟩;clear E K T F lU hso;go_enter func25,ntmps25;go_wp2_with fail;go_loopw [] (fun wr=>∃(j:Nat) (s':Sh) (L':List Kc.Bv) (kZ sl':Int) (iK:Nat),j<=n/\wr.heap[w.heap.size]?=some (.cells #[.int .i64 k,.int .i64 j] 45 (0,0))/\Tn s k n L mn c ml j s' L' iK/\Ev 0 wr base g room s' L' kZ sl' iK/\Ek room s'.m L' kZ sl' iK/\Below base w wr) (fun wr=>match wr.cell? ⟨w.heap.size,1,none⟩with|some (.int _ z)=>z.toNat|_=>0)
 case atStart=>exact⟨n,s,L,pu,sl,mn,apn _,at5 w _,HT0,HE.of br,HK,aun ((Gr.refl w).alloc _) hbl⟩
 case round=>
  obtain⟨j,s',L',kZ,sl',iK,hj,KP,T1,E1,K1,L1⟩:=hrel;have HP:=kH KP;have HT1:=kH T1;have ED:=kH E1;have Ra:=kH K1;have CJ:=kH L1;have hlw:=(apk.1 KP).1;have p0:wr.cell? ⟨w.heap.size,0,none⟩=some (.int .i64 k):=atZ _ _ _ _ _ _ KP;have p1:wr.cell? ⟨w.heap.size,1,none⟩=some (.int .i64 j):=atZ _ _ _ _ _ _ KP;have UG:Hid ((match wr.cell? ⟨w.heap.size,1,none⟩with|some (.int _ z)=>z.toNat|_=>0)=j):=by unfold Hid;rw[p1];simp
  obtain⟨M0,gh,hc,O0,a0,n0,cap0,mb0,D0,E0⟩:=E1;have hl:k<s'.hs.length:=by rw[T1.fit.len];exact hk
  have eh:s'.hs[k]?=some (at' s' k):=by unfold at';rw[api hl];simp[List.getD,hl]
  have jM:=E0.bw.row.ok _ (aps eh);have g1:wr.cell? ⟨g,1,none⟩=some (.slice (some ⟨gh,0,none⟩) c hc):=by have:=E0.bw.c1;rw[T1.fit.len]at this;exact this
  have c35:=(E0.bw.row.cell eh ab).trans (aW jM 3);have hstp:s'.steps<=300000:=by have:=T1.steps;omega
  clear KP T1 K1 L1 E0 eh jM hl;by_cases hgo:0<j/\(at' s' k).state=0
  ·obtain⟨hj0,hst⟩:=hgo;have QY:Hid (∀W:World,Gr wr W->Calls prog 57 #[.pointer (some ⟨g,0,none⟩),.agg #[.int .i64 k,.int .i64 j]] W fun e w'=>∃(d:Qv) (cN:Nat) (L1:List Kc.Bv) (p1:Int) (m1:Nat),e=.returned (.agg (qA d))/\(Dq w' 0 d (wk (w0 s' k) cN)/\d.h.Ok)/\((wk (w0 s' k) cN).n=cN/\0<cN/\cN<=j)/\Ev 0 w' base g room s' L1 p1 sl' m1/\Ek room s'.m L1 p1 sl' m1/\(iK<=m1/\m1<=iK+1/\(L'=[]->0<(Bk.blk s'.m (at' s' k).pc 16 0).length->iK<m1))/\Fm base W w'):=fun W G=>by
    have:=HT1.hi;exact BP (ED.of G) Ra (HT.below (aun (CJ.trans (aun G ab)) hbb)) hbb HT1.fit lY hc4 hr0 hr1 ab hk hj0 ab hst
   rw[hst]at c35;clear hst;go_wp2_with fail;go_quiet (fail);go_wp2_with fail;refine(QY _ ((Gr.refl _).drewN _)).mono ?_;rintro e w2 ⟨d,cN,L1,q1,m1,rfl,⟨D2,okd⟩,hcN,E2,K2,hm1,F2⟩;have HD2:Hid (Dq w2 0 d (wk (w0 s' k) cN)/\d.h.Ok):=⟨D2,okd⟩;have zS:=kH okd;have HNn:=kH D2.n;have HcN:=kH hcN;have HE2:=kH E2;have F9:=kH K2;have HTn:Hid (∀L2,Tn s k n L mn c ml (j-cN) (tk s' k (wk (w0 s' k) cN)) L2 m1):=fun L2=>HT1.on hk hcN hm1
   have HL2:=kH (CJ.trans ((aun ((Gr.refl wr).drewN _) ab).trans F2.below));have ny:=kH (F2.row HP an);have amh:m1<=300001:=by have:=HT1.hi;have:=hm1.2.1;omega
   have HWo:Hid (AU (w0 s' k) ml/\AU (wk (w0 s' k) cN) ml):=⟨pQ HT1.fit hk,EF cN (pQ HT1.fit hk)⟩;have HFo:Hid (s'.hs.length=c/\s'.out.length<=s'.steps/\s'.steps<=300000):=⟨HT1.out.fit.len,HT1.out.out,hstp⟩;clear D2 okd hcN E2 K2 hm1 F2 QY HP HT1 ED Ra CJ p0 p1 g1 c35 HT0 HE HK;obtain⟨QL,UH⟩:∃QL:List Value,Hid (qA d=QL.toArray):=⟨_,rfl⟩;have qw:=kH (fG HD2.2);have CQ:=kH (lW HD2.1.mem.cells.2 (az HD2.1.out).2.1 (az HD2.1.av).2.1);have HQl:Hid (QL.length=41):=by have:=qw;rw[UH.out,ap2]at this;exact this
   have HX3:Hid (∀Y:Array Value,Gr w2 ((w2.alloc (.cells Y 142)).setRow w2.heap.size (qA d))):=fun Y=>ag br (apn _) _
   have KS:Hid (∀Y:Array Value,((w2.alloc (.cells Y 142)).setRow w2.heap.size (qA d)).heap[w2.heap.size]?=some (.cells (qA d) 142 (0,0))):=fun Y=>aup _ _ _ _ _ (0,0) (at5 w2 _)
   have hl2:=(apk.1 ny).1;have z0:w2.cell? ⟨w.heap.size,0,none⟩=some (.int .i64 k):=atZ _ _ _ _ _ _ ny;go_wp2_with (refine auf rfl 142 _ _ rfl w2.heap.size (qA d) rfl rfl 142 _ (at5 w2 _) (by rw[qw.out];exact iQ) (by rw[qw.out];rfl) CQ ?_);refine aT (fun W=>W.heap[w2.heap.size]?=some (.cells (qA d) 142 (0,0))/\Gr w2 W) ⟨KS _,HX3 _⟩ ?_;rintro W3 ⟨KO,G3⟩;obtain⟨o,ho⟩:∃o:Nat,o=w2.heap.size:=⟨_,rfl⟩;have hol:w.heap.size<o:=ab;have Gt:base<=o:=ab;rw[<-ho]at KO ⊢;have yD:=kH KO;have KT:=kH (Kc.aX G3 ny.out);have Rb:=kH (HE2.out.of G3);have HD3:=kH (HD2.out.1.gr G3);have HL3:=kH (HL2.out.trans (aun G3 ab));clear KO G3 HX3 KS HE2 ny HL2 ho z0 hl2 hlw HD2;clear w2;have HS3:Hid (∀V:World,(∀(q:Nat) (x:Obj),W3.heap[q]?=some x->V.heap[q]?=some x)->(fun W=>W.cell? ⟨w.heap.size,0,none⟩=some (.int .i64 k)/\W.rangeAt o 0 QL) V):=fun V h=>⟨atZ _ _ _ _ _ _ (h _ _ KT.out),fun i v hv=>by rw[apu,atZ _ _ _ _ _ _ (h _ _ yD.out),UH.out,apm];exact hv⟩
   obtain⟨M0,gh,hc,O0,a0,n0,cap0,mb0,D0,E0⟩:=Rb.out;have HE0:=kH E0;have HTk:Hid (∀V:World,Gr W3 V->Calls prog 58 #[.pointer (some ⟨g,0,none⟩),.int .i64 k,.agg QL.toArray] V fun e w'=>e=.returned (.tuple #[])/\Bd 94 (rsE room a0 n0 cap0 q1 sl' mb0) w' base g (tk s' k (wk (w0 s' k) cN))/\Fe 94 base V w'):=fun V G=>by
    rw[<-UH.out];have o1:=HWo.out.2.out;have o2:=HWo.out.2.av;obtain⟨f1,f2,f3⟩:=HFo.out;obtain⟨d1,d2,d3⟩:=HcN.out;exact BM (HE0.out.of G).bw f1 hc4 (HD3.out.gr G) zS.out (fun p hp=>by have:=HWo.out.2.bd p hp;omega) ab ab ab hk
   clear E0;refine aut (S:=fun W=>W.cell? ⟨w.heap.size,0,none⟩=some (.int .i64 k)/\W.rangeAt o 0 QL) al ?_ (fun hHeld=>?_)
   ·exact HS3.out _ (fun q x h=>h)
   have aY:=kH hHeld;clear hHeld;refine tK 0 (.pointer (some ⟨g,0,none⟩)) aY.out ?_;refine tK 1 (.pointer (some ⟨g,0,none⟩)) aY.out ?_;refine tK 2 (.pointer (some ⟨g,0,none⟩)) aY.out ?_;refine tK 3 (.pointer (some ⟨w.heap.size,0,none⟩)) aY.out ?_;refine tK 4 (.int .i64 k) aY.out ?_;refine auF (i:=5) (v:=.agg QL.toArray) rfl al al al (fun _ _ _ h=>h) (auN (by rfl) 142 (.tmp 4) rfl o 0 aw QL _ (fun W hW=>hW.2) underlying142 rfl (by rw[HQl.out];exact iQ)) aY.out ?_;simp only[apN,apP,apQ,Act.put,apl,apC,apy];refine aue (rs:=[6]) al aq ?_;refine aua rfl (fun K hK=>?_) aud;go_simp;refine(HTk.out _ (Gr.refl _).drew).mono ?_;rintro e w4 ⟨rfl,B4,F4⟩;have F4':Fe 94 base W3 w4:=⟨(Below.drew (auC base W3)).trans F4.below,F4.keep⟩;have Zp:=kH ((F4'.cells yD.out an an an).trans yD.out);have HP4:=kH ((F4'.cells KT.out an an an).trans KT.out);have Ri:=kH (HE0.out.take B4 F4');have Ue:=kH (HL3.out.trans F4'.below);have HSo:=kH (aj HD3.out.av fun q x f e=>F4'.cells e an an an);clear B4 F4;refine hK.out _ _ ⟨atZ _ _ _ _ _ _ HP4.out,fun i v hv=>by rw[apu,atZ _ _ _ _ _ _ Zp.out,UH.out,apm];exact hv⟩ (fun hx=>?_);clear hK K hx;refine auy al ?_ _;obtain⟨sa,sc,uO⟩:=(az HSo.out).2.2;have k40:w4.cell? ⟨o,40,none⟩=some (.slice sa (wk (w0 s' k) cN).av.length sc):=(atZ _ _ _ _ _ _ Zp.out).trans (by rw[jl zS.out 3];simp[uO]);have HDs:Hid (Calls prog 59 #[.pointer (some ⟨g,0,none⟩),.slice sa (wk (w0 s' k) cN).av.length sc] w4 fun e w'=>e=.returned (.tuple #[])/\(∃sl2,Ev 0 w' base g room (tk s' k (wk (w0 s' k) cN)) (cK (wk (w0 s' k) cN).av L1) q1 sl2 m1/\0<=sl2/\sl2+((cK (wk (w0 s' k) cN).av L1).length:Int)=sl'+(L1.length:Int))/\Fm base w4 w'):=by
    obtain⟨M4,gh4,amj,O4,a4,n4,cap4,mb4,D4,E4⟩:=Ri.out;have o2:=HWo.out.2.av;obtain⟨d1,d2,d3⟩:=HcN.out;have x1:=F9.out.cnt;have x2:=F9.out.p0;have x3:=F9.out.s0;exact BQ E4 (F9.out.same hr1) x3 ab (by have:=HSo.out;rw[uO]at this;exact this) rfl ab (fun p hp=>by have:=HWo.out.2.bd p hp;omega)
   have HNu:Hid (w4.cell? ⟨o,39,none⟩=some (.int .i64 cN)):=(atZ _ _ _ _ _ _ Zp.out).trans (by rw[jl zS.out 2];simp[HNn.out,HcN.out.1]);clear uO HSo HTk HS3 aY HE0 yD KT Rb HD3 HL3 Ri;generalize(wk (w0 s' k) cN).av.length=m at *
   go_wp2_with fail;refine au0 HDs.out ?_;rintro e w5 ⟨rfl,⟨sl2,E5,h50,Yw⟩,F5⟩;have Gq:Hid (Ev 0 w5 base g room (tk s' k (wk (w0 s' k) cN)) (cK (wk (w0 s' k) cN).av L1) q1 sl2 m1):=E5;have HK5:Hid (Ek room (tk s' k (wk (w0 s' k) cN)).m (cK (wk (w0 s' k) cN).av L1) q1 sl2 m1):=F9.out.work lY HWo.out.1 h50 Yw;have Q9:Hid (w5.heap[w.heap.size]?=some (.cells #[.int .i64 k,.int .i64 j] 45 (0,0))):=F5.row HP4.out an;have HO5:Hid (w5.heap[o]?=some (.cells (qA d) 142 (0,0))):=F5.row Zp.out an;have Xi:Hid (Below base w w5):=Ue.out.trans F5.below;have b1:w5.cell? ⟨w.heap.size,1,none⟩=some (.int .i64 j):=atZ _ _ _ _ _ _ Q9.out;have fb1:w5.frozen? ⟨w.heap.size,1,none⟩=false:=aus _ _ _ _ _ Q9.out;have o39:w5.cell? ⟨o,39,none⟩=some (.int .i64 cN):=(atZ _ _ _ _ _ _ HO5.out).trans (by rw[jl zS.out 2];simp[HNn.out,HcN.out.1]);obtain⟨d1,d2,d3⟩:=HcN.out;have HRw:Hid ((w5.setCell ⟨w.heap.size,1,none⟩ (.int .i64 ((j:Int)-(cN:Int)))).heap[w.heap.size]?=some (.cells #[.int .i64 k,.int .i64 ((j-cN:Nat):Int)] 45 (0,0))):=by
    unfold Hid;rw[aul _ _ _ _ _ _ Q9.out,show((j-cN:Nat):Int)=(j:Int)-(cN:Int)by omega];rfl
   have HEw:Hid (Ev 0 (w5.setCell ⟨w.heap.size,1,none⟩ (.int .i64 ((j:Int)-(cN:Int)))) base g room (tk s' k (wk (w0 s' k) cN)) (cK (wk (w0 s' k) cN).av L1) q1 sl2 m1):=Gq.out.oth Q9.out an fun q hq=>auv _ _ _ _ (by exact hq)
   have HLw:Hid (Below base w (w5.setCell ⟨w.heap.size,1,none⟩ (.int .i64 ((j:Int)-(cN:Int))))):=auS Xi.out (by exact hbl) _;clear E5 F5 HDs k40 HNu HP4 Zp Ue h50 Yw d1;go_wp2_with fail;go_roundw
   case rel=>exact⟨j-cN,tk s' k (wk (w0 s' k) cN),_,q1,sl2,m1,ab,HRw.out,HTn.out _,HEw.out,HK5.out,HLw.out⟩
   case measure=>
    rw[UG.out,atZ _ _ _ _ _ _ HRw.out];simp;omega
  ·have HE2:Hid (runs s k n=s'):=by
    unfold Hid;rw[HT1.out.runs];by_cases h1:0<j
    ·exact qO (fun e=>hgo ⟨h1,e⟩) _
    ·rw[show j=0 by omega];rfl
   have Xo:Hid (∃(L':List Kc.Bv) (kZ sl':Int) (iK:Nat),Ev 0 wr base g room (runs s k n) L' kZ sl' iK/\Ek room (runs s k n).m L' kZ sl' iK/\(mn<=iK/\iK<=(runs s k n).steps)/\(L=[]->0<n->(at' s k).state=0->0<(Bk.blk s.m (at' s k).pc 16 0).length->mn<iK)):=by
    rw[HE2.out];refine⟨L',kZ,sl',iK,ED.out,Ra.out,⟨HT1.out.lo,HT1.out.hi⟩,fun h1 h2 h3 h4=>?_⟩;rcases HT1.out.did with⟨x1,x2,_,_⟩|h
    ·exact absurd ⟨ab,by rw[x2];exact h3⟩ hgo
    ·exact h h1 h4
   have hc2:¬0<j\/(0<j/\((at' s' k).state ==0)=false):=by
    by_cases h1:0<j
    ·exact .inr ⟨h1,by simpa using fun e=>hgo ⟨h1,e⟩⟩
    ·exact .inl h1
   clear hgo HE2 HT1 ED Ra HP HT0 HE HK;rcases hc2 with h1|⟨h1,h2⟩
   ·have ej:j=0:=ab;subst ej;clear h1;go_wp2_with fail;go_quiet (fail);go_wp2_with fail;go_end0;refine⟨rfl,?_,CJ.out.trans (aun ((Gr.refl wr).drewN _) ab)⟩;obtain⟨x1,x2,x3,x4,x5,x6⟩:=Xo.out;exact⟨x1,x2,x3,x4,x5.of ((Gr.refl _).drewN _),x6⟩
   ·generalize(at' s' k).state=st at *
    go_wp2_with fail;go_quiet (fail);go_wp2_with fail;go_end0;refine⟨rfl,?_,CJ.out.trans (aun ((Gr.refl wr).drewN _) ab)⟩;obtain⟨x1,x2,x3,x4,x5,x6⟩:=Xo.out;exact⟨x1,x2,x3,x4,x5.of ((Gr.refl _).drewN _),x6⟩
end
end En
namespace Mc
open Mm Hh Hc
theorem Gu {m:Nat}:∀(n:Nat) {x:Wk},AU x m→AU (wk x n) m∧(wk x n).n≤x.n+n
 |0,x,o=>⟨o,apn _⟩
 |n+1,x,o=>by
  unfold wk;split
  ·rename_i h;have:=Gu n (yz o h);refine⟨this.1,?_⟩;have h2:=this.2;have:(FV x).n=x.n+1:=rfl;omega
  ·exact⟨o,ab⟩
def Few (s:Sh) (t:Nat):Prop:=s.out.length<=s.steps/\s.steps<=t
theorem OC {s:Sh}{t m:Nat}{x:Wk}(f:Few s t)(o:AU x m)(h:x.n<=n):Few (tk s k x) (t+n):=by
 unfold Few tk at *
 have:=o.out;simp only[apo];omega
def nums (ps:List (Int×Int)):List (Nat×Nat):=ps.map fun p=>(p.1.toNat,p.2.toNat)
theorem BU (h:ps[j]?=some p):(nums ps).take (j+1)=(nums ps).take j++[(p.1.toNat,p.2.toNat)]:=by refine je ?_;unfold nums;rw[apT,h];rfl
theorem kE {hs:List Hv}(h:wrong m hs ps=0):m.length<=4096/\1<=hs.length/\hs.length<=4/\(∀h∈hs,may h=true)/\ps.length<=300/\∀p∈ps,0<=p.1/\p.1<hs.length/\0<=p.2/\p.2<=400:=by
 unfold wrong at h;split at h
 ·omega
 split at h
 ·omega
 split at h
 ·omega
 split at h
 ·omega
 rename_i h1 h2 h3 h4;refine⟨ab,ab,ab,?_,ab,fun p hp=>?_⟩
 ·simpa using h2
 ·have:=(apM.1 (by simpa using h4)) p hp;simpa[jk]using this
theorem bQ.lt {hs:List Hv}(r:bQ w g hs):g<w.heap.size:=by obtain⟨_,e⟩:=r.row;exact(apk.1 e).1
theorem bQ.hs {w:World}{g c:Nat}{hs:List Hv}(r:bQ w g hs)(h:hs.length=c):Hs w (some ⟨g,0,none⟩) c hs:=⟨h,r.ok,fun _=>⟨g,0,rfl,r.lt,fun i q hq=>by rw[apu];exact r.range hq⟩⟩
def Shn (w:World) (v:Value) (c mn:Nat) (S:Sh):Prop:=∃ma mc ha hc oa oc,v=.agg #[.slice ma mn mc,.slice ha c hc,.slice oa S.out.length oc,.int .i64 S.steps]/\Mem w ma mn S.m/\(ma=none->mc=0)/\Hs w ha c S.hs/\Wm w oa S.out.length S.out/\(oa=none->oc=0)
def ShO (w:World) (v:Value) (c mn:Nat) (S:Sh):Prop:=∃ma mc gh hc oa oc,v=.agg #[.slice ma mn mc,.slice (some ⟨gh,0,none⟩) c hc,.slice oa S.out.length oc,.int .i64 S.steps]/\Own w Hc.mb (.slice ma mn mc) S.m/\Hc.mb<=gh/\bQ w gh S.hs/\Zh w gh hc/\Wm w oa S.out.length S.out/\(oa=none->oc=0)/\S.m.length=mn/\S.hs.length=c
theorem mh {e sz:Nat}(h:w.ownsRow base e sz (.slice a n c) n xs):a=none->c=0:=by
 rintro rfl;rcases h.2 with⟨h,_⟩|⟨g,cap,cur,h,_⟩
 ·injection h
 ·cases h
theorem xC {a b c:World}(h:Gr a b)(k:Below n b c)(hn:a.heap.size<=n):Gr a c:=auI h (aun k hn)
theorem Gv {w:World}{va oa:Option Addr}{vc gh hc oc c mn base:Nat}{S:Sh}(h1:Own w Hc.mb (.slice va mn vc) S.m)(hm:S.m.length=mn)(h2:bQ w gh S.hs)(hz:Zh w gh hc/\Hc.mb<=gh)(hl:S.hs.length=c)(h3:w.ownsRow base 37 1 (.slice oa S.out.length oc) S.out.length (S.out.map (Value.int .u32))):ShO w (.agg #[.slice va mn vc,.slice (some ⟨gh,0,none⟩) c hc,.slice oa S.out.length oc,.int .i64 S.steps]) c mn S:=by obtain⟨a2,b2,e2,W⟩:=M7 rfl h3;injection e2 with e6 e7 e8;subst e6;exact⟨_,_,_,_,_,_,rfl,h1,hz.2,h2,hz.1,W,mh h3,hm,hl⟩
theorem iS:(prog.info? 47).map (·.size)=some 4:=al
end Mc
namespace En
open Mm Hh Hc Mc
theorem BV (w:World):Shn w (.agg #[.slice none 0 0,.slice none 0 0,.slice none 0 0,.int .i64 0]) 0 0 ⟨[],[],[],0⟩:=⟨none,0,none,0,none,0,rfl,⟨rfl,fun _=>rfl,fun ad e=>by cases e⟩,fun _=>rfl,⟨rfl,fun h hm=>(by cases hm),fun h=>absurd h ab⟩,⟨rfl,fun _=>rfl,fun ad e=>by cases e⟩,fun _=>rfl⟩
def aaj (w:World) (ma ha pa:Option Addr) (mn mc hn hc pn pc:Nat) (room E:Int):Prop:=∀W:World,Gr w W->Calls prog 12 #[.agg #[.slice ma mn mc,.slice ha hn hc],.slice pa pn pc,.int .i64 room] W fun e w'=>∃v a c,e=.returned (.tuple #[v,.agg #[.int .i64 0,.slice a 0 c,.int .i64 0,.int .i64 0],.int .i64 E])/\Shn w' v 0 0 ⟨[],[],[],0⟩/\Gr W w'
def ad5 (w:World) (ma ha pa:Option Addr) (mn mc hn hc pn pc:Nat) (room:Int) (S:Sh) (F:List Kc.Bv->Int->Int->Prop):Prop:=∀W:World,Gr w W->Calls prog 12 #[.agg #[.slice ma mn mc,.slice ha hn hc],.slice pa pn pc,.int .i64 room] W fun e w'=>∃v a m c pu sl L,e=.returned (.tuple #[v,.agg #[.int .i64 room,.slice a m c,.int .i64 pu,.int .i64 sl],.int .i64 0])/\ShO w' v hn mn S/\(Kc.Bs w' a m L/\m<=c/\F L pu sl)/\Gr W w'
end En
end Go.Proofs.YtiadhbmnfjfioaaGreatDoor
