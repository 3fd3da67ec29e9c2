/- ours -/
import Derived.Test.YtiadhbmnfjfioaaGreatDoorX25
set_option linter.unusedVariables false
set_option linter.unusedSimpArgs false
set_option maxHeartbeats 8000000
set_option maxRecDepth 100000
set_option linter.unusedSectionVars false
namespace Go.Proofs.YtiadhbmnfjfioaaGreatDoor
open Go.Proofs.Tryz
open Go.ChangeShapes Go.WideShapes Go.ChangeAt Go.RowKit
variable [Inhabited Hc.bN]
namespace Mp
open Mm Hh Hc Mi

theorem jo {w w':World}{A B Z:Array Value}{t u s:Nat}(g:Gr (((w.alloc (.cells A t)).alloc (.cells B u)).alloc (.cells Z s)) w'):w'.heap[w.heap.size]?=some (.cells A t (0,0))/\w'.heap[w.heap.size+1]?=some (.cells B u (0,0))/\w'.heap[w.heap.size+1+1]?=some (.cells Z s (0,0)):=by
 refine⟨dI g (dI (((Gr.refl _).alloc _).alloc _) (at5 w _)),dI g (dI ((Gr.refl _).alloc _) ?_),dI g ?_⟩
 ·have:=at5 (w.alloc (.cells A t)) (.cells B u);simpa using this
 ·have:=at5 ((w.alloc (.cells A t)).alloc (.cells B u)) (.cells Z s);simpa using this
theorem Oq (c:Cv)(r:Rn)(bf bt steps:Int)(h1:c.m.oneCell'=true)(h2:c.out.oneCell'=true)(h3:c.av.oneCell'=true):(Gc.cB c (mg r bf bt steps)).all (·.oneCell')=true:=by refine auE ?_;intro v hv;simp only[hL,mg,apR,apK,apx,apB,auw]at hv;rcases hv with(⟨n,_,rfl⟩|rfl|rfl|rfl|rfl|rfl)|(rfl|rfl|rfl)|⟨n,_,rfl⟩|rfl|rfl|rfl|rfl|rfl<;>first|rfl|assumption
theorem vQ {w:World}{h hc:Hv}(o:h.Ok)(oc:hc.Ok){ao:Option Addr}{n cap:Nat}(l:List UInt8){ok:Bool}(bf bt steps:Int){PV:World→Value→Prop}(st:∀(W W':World) (v:Value),PV W v->(∀(k:Nat) (c:Array Value) (f:Nat×Nat),W.heap[k]?=some (.cells c 5 f)->W'.heap[k]?=W.heap[k]?)->PV W' v)(one:∀W v,PV W v->v.cells=#[v]/\v.oneCell'=true)(NC:∀W:World,Gr w W->Calls prog 143 #[.agg (hA h),.slice ao n cap] W fun e w'=>∃v,e=.returned (.tuple #[.agg (cA ⟨hc,v,ax,ax⟩),.bool ok])/\PV w' v/\Gr W w'):Calls prog 114 #[.agg (hA h),.slice ao n cap,.agg #[.int .u32 bf,.int .u32 bt],.int .i64 steps] w fun e w'=>∃v,e=.returned (.tuple #[.agg (Gc.cB ⟨hc,v,ax,ax⟩ (mg (mstart h l) bf bt steps)),.bool ok])/\PV w' v/\Gr w w':=by
 have HN:Hid (∀W:World,Gr w W->Calls prog 143 #[.agg (hA h),.slice ao n cap] W fun e w'=>∃v,e=.returned (.tuple #[.agg (cA ⟨hc,v,ax,ax⟩),.bool ok])/\PV w' v/\Gr W w'):=NC;have M9:Hid (∀v,prog.built 206 [(0,.agg (cA ⟨hc,v,ax,ax⟩)),(2,.agg #[.int .u32 bf,.int .u32 bt]),(3,.int .i64 steps),(5,.int .u32 h.pc)]=some (Gc.cB ⟨hc,v,ax,ax⟩ (mg (mstart h l) bf bt steps))):=fun v=>zi (c:=⟨hc,v,ax,ax⟩) oc h l bf bt steps
 have HS:=kH (jC o);have h32:(hA h)[32]?=some (.int .u32 h.pc):=by unfold hA;rw[apm];exact aW o 0
 have HA1:Hid (∀v,(cA ⟨hc,v,ax,ax⟩).size=40):=fun v=>jD oc
 have TK:Hid (∀v:Value,v.oneCell'=true->(cA ⟨hc,v,ax,ax⟩).all (·.oneCell')=true):=fun v hv=>yC _ hv rfl rfl
 have HR1:Hid (∀v,(Gc.cB ⟨hc,v,ax,ax⟩ (mg (mstart h l) bf bt steps)).size=49):=fun v=>by rw[zg oc,qh rfl]
 have Xl:Hid (∀v:Value,v.oneCell'=true->(Gc.cB ⟨hc,v,ax,ax⟩ (mg (mstart h l) bf bt steps)).all (·.oneCell')=true):=fun v hv=>Oq _ _ _ _ _ hv rfl rfl
 have QW:=kH st;have HOn:=kH one;generalize hA h=H0 at *
 generalize h.pc=pc at *
 go_enter func114,ntmps114;go_wp2_with (refine auL rfl 43 _ rfl w.heap.size rfl 43 H0 (0,0) _ ?lh1 underlying43 rfl (by rw[HS.out];exact iHa) ?_;(case lh1=>exact dI (((Gr.refl _).alloc _).alloc _) (at5 w _)));refine(HN.out _ ((((Gr.refl _).alloc _).alloc _).alloc _)).mono ?_;rintro e w1 ⟨v,rfl,hv,G1⟩;obtain⟨b0,b1,b2⟩:=jo G1;have aU:=kH (((((Gr.refl _).alloc _).alloc _).alloc _).trans G1);have HPV:=kH hv;have HV1:=kH ((HOn.out _ _ hv).2);have ahd:=M9.out v;have HA2:=kH (HA1.out v);have kY:=kH (TK.out v HV1.out);have HR2:=kH (HR1.out v);have aaa:=kH (Xl.out v HV1.out);have HBZ:Hid (∃Z:Array Value,Z.size=49/\w1.heap[w.heap.size+1+1]?=some (.cells Z 206 (0,0))):=⟨_,rfl,b2⟩;have hlt:=(apk.1 b2).1;obtain⟨Z,hz,hZ⟩:=HBZ.out;have HZ:=kH hZ;have HZs:=kH hz;have HB0:=kH b0;have HB1:=kH b1;have HBx:=kH ahd;generalize hR1:Gc.cB ⟨hc,v,ax,ax⟩ (mg (mstart h l) bf bt steps)=R1 at *
 have HRe:=kH hR1;generalize cA ⟨hc,v,ax,ax⟩=A1 at *
 have HX:Hid (∀Y:Array Value,Gr w1 ((w1.alloc (.cells Y 197)).setRow w1.heap.size A1)):=fun Y=>ag ((Gr.refl _).alloc _) (apn _) _
 have kL:Hid (∀Y:Array Value,((w1.alloc (.cells Y 197)).setRow w1.heap.size A1).heap[w1.heap.size]?=some (.cells A1 197 (0,0))):=fun Y=>aup _ _ _ _ _ (0,0) (at5 w1 _)
 have q0:∀Y:Array Value,((w1.alloc (.cells Y 197)).setRow w1.heap.size A1).cell? ⟨w.heap.size+1,0,none⟩=some (.int .u32 bf):=fun Y=>atZ _ _ _ _ _ _ (dI (HX.out Y) HB1.out)
 have q1:∀Y:Array Value,((w1.alloc (.cells Y 197)).setRow w1.heap.size A1).cell? ⟨w.heap.size+1,1,none⟩=some (.int .u32 bt):=fun Y=>atZ _ _ _ _ _ _ (dI (HX.out Y) HB1.out)
 have q2:∀Y:Array Value,((w1.alloc (.cells Y 197)).setRow w1.heap.size A1).cell? ⟨w.heap.size,32,none⟩=some (.int .u32 pc):=fun Y=>(atZ _ _ _ _ _ _ (dI (HX.out Y) HB0.out)).trans h32
 go_wp2_with (first
  |(refine auf rfl 197 _ _ rfl w1.heap.size A1 rfl rfl 197 _ (at5 w1 _) (by rw[HA2.out];exact iC) (by rw[HA2.out];rfl) kY.out ?_)
  |(refine auL rfl 197 _ rfl w1.heap.size rfl 197 A1 (0,0) _ ?lh2 underlying197 rfl (by rw[HA2.out];exact iC) ?_;(case lh2=>exact kL.out _))
  |(refine au9 rfl 206 _ rfl _ rfl R1 (by have:=HBx.out;simp[Act.eval,Act.put];exact this) ?_)
  |(refine auf rfl 206 _ _ rfl (w.heap.size+1+1) R1 rfl rfl 206 Z ?sr1 (by rw[HR2.out];exact zh) (by rw[HR2.out];exact HZs.out) aaa.out ?_;(case sr1=>exact dI (HX.out _) HZ.out)))
 refine auc (v:=.tuple #[.agg R1,.bool ok]) (Hr.aI results114 _ _ _ _ _ (0,0) _ _ rfl rfl (aup _ _ _ _ _ (0,0) (dI (HX.out _) HZ.out)) underlying206 rfl (by rw[HR2.out];exact zh)) rfl ⟨v,by rw[HRe.out],?_,?_⟩
 ·refine QW.out _ _ v HPV.out fun k c f hk=>?_
  exact(auo _ _ _ _ (aa hk HZ.out (by decide))).trans ((HX.out _).block k (apk.1 hk).1)
 ·exact ag (aU.out.trans (HX.out _)) (by omega) _
end Mp
namespace Mp
open Mm Hh Hc Mi

variable {w :World}
def xA:List Value:=qd.map (Value.int .i64)
theorem Ot {w':World}(g:Gr w w'){k:Nat}{x:Obj}(h:w.heap[k]?=some x):w'.heap[k]?=some x:=by rw[g.block k (gs h).1];exact h
theorem JK:xA.length=33:=rfl
theorem adP:(prog.info? 262).map (·.size)=some 33:=by kernel_rfl
theorem Tr.range (T:Tr w):w.rangeAt 7 0 xA:=fun j v hv=>by
 rw[apu];unfold xA at hv;rw[apT]at hv;cases h:qd[j]? with
 |none=>rw[h]at hv;cases hv
 |some n=>
  rw[h]at hv;have e:Value.int .i64 n=v:=by simpa using hv
  rw[<-e];exact T.rows j n h
theorem Uz {j:Nat}(hj:j<11){f l k:Int}(h:p9[j]?=some (f,l,k))(W:World):(Instr.index 262 (.agg xA.toArray) (.int .i64 j)).run prog W=.ok (.agg #[.int .i64 f,.int .i64 l,.int .i64 k]) W:=by
 have:j=0\/j=1\/j=2\/j=3\/j=4\/j=5\/j=6\/j=7\/j=8\/j=9\/j=10:=by omega
 rcases this with rfl|rfl|rfl|rfl|rfl|rfl|rfl|rfl|rfl|rfl|rfl <;>
  (injection h with h;injection h with h1 h;injection h with h2 h3;subst h1 h2 h3;rfl)
theorem Ou {w:World}(T:Tr w)(op d a b n:Int):Calls prog 142 #[.agg #[.int .i64 op,.int .i64 d,.int .i64 a,.int .i64 b,.int .u32 n]] w fun e w'=>e=.returned (.bool (dZ ⟨op,d,a,b,n⟩))/\Gr w w':=by
 have HT:Hid (Tr w):=T;have HRg:Hid (∀x,(w.alloc x).rangeAt 7 0 xA):=fun x=>(T.of ((Gr.refl _).alloc _)).range
 have HX:Hid (∀j:Nat,j<11->∀f l k,p9[j]?=some (f,l,k)->∀W:World,_):=fun j hj f l k h W=>Uz hj h W
 have HL:=kH JK;have HM:Hid (∀k,named op=k->0<=k->dZ ⟨op,d,a,b,n⟩=kT k ⟨op,d,a,b,n⟩):=fun k h h0=>ZL h h0
 have HN:Hid (named op<0->dZ ⟨op,d,a,b,n⟩=false):=fun h=>TC h
 have Wi:Hid (∀(f l:Int) (W:World),_):=fun f l W=>aG op f l W
 have Fi:Hid (∀(K:Int),(K=0\/K=7\/K=8\/K=9\/K=10\/K=11\/K=14)->∀W:World,_):=fun K h W=>Oc h op d a b n W
 generalize dZ ⟨op,d,a,b,n⟩=OKB at *
 generalize xA=A at *
 clear T;go_enter func142,ntmps142;go_wp2_with (refine auA rfl 262 _ rfl 7 0 rfl A _ ?lm1 underlying262 rfl (by rw[HL.out];exact adP) ?_;(case lm1=>exact HRg.out _));go_loopw [6] (fun i wr=>∃j:Nat,j<=11/\i=.int .i64 j/\(∀t f l k,t<j->p9[t]?=some (f,l,k)->¬(f<=op/\op<=l))/\wr.heap[w.heap.size]?=some (.cells #[.int .i64 op,.int .i64 d,.int .i64 a,.int .i64 b,.int .u32 n] 235 (0,0))/\Gr w wr) (fun i _=>11-(intOf i).toNat)
 case atStart=>exact⟨0,apF _,rfl,fun t f l k h=>absurd h (by omega),at5 w _,(Gr.refl _).alloc _⟩
 case round=>
  obtain⟨j,hj,rfl,hno,hB,G⟩:=hrel;have nY:=kH hno;have HB:=kH hB;have HG:=kH G;clear hno hB G;by_cases hlt:j<11
  ·obtain⟨f,l,k,hr,_,_,_,hk,hnm⟩:=ZK hlt;have hx:=HX.out j hlt f l k hr;have ED:Hid (¬(f<=op/\op<=l)->∀t f l k,t<j+1->p9[t]?=some (f,l,k)->¬(f<=op/\op<=l)):=fun h t f' l' k' ht hr'=>by
    by_cases e:t=j
    ·subst e;rw[hr]at hr';injection hr' with e1;injection e1 with e1 e2;injection e2 with e2 e3;subst e1 e2;exact h
    ·exact nY.out t f' l' k' (by omega) hr'
   have HF:Hid (f<=op/\op<=l->_):=fun h=>HM.out k (hnm op h.1 h.2) (by omega)
   have p0:wr.cell? ⟨w.heap.size,0,none⟩=some (.int .i64 op):=atZ _ _ _ _ _ _ HB.out;have p1:wr.cell? ⟨w.heap.size,1,none⟩=some (.int .i64 d):=atZ _ _ _ _ _ _ HB.out;have p2:wr.cell? ⟨w.heap.size,2,none⟩=some (.int .i64 a):=atZ _ _ _ _ _ _ HB.out;have p3:wr.cell? ⟨w.heap.size,3,none⟩=some (.int .i64 b):=atZ _ _ _ _ _ _ HB.out;have p4:wr.cell? ⟨w.heap.size,4,none⟩=some (.int .u32 n):=atZ _ _ _ _ _ _ HB.out;have hsz:w.heap.size<wr.heap.size:=(apk.1 HB.out).1;have HKv:Hid (k=0\/k=7\/k=8\/k=9\/k=10\/k=11\/k=14):=hk;clear hr hk hnm HX nY;by_cases c:f<=op/\op<=l
   ·have pX:Hid (OKB=kT k ⟨op,d,a,b,n⟩):=HF.out c;have Wi2:Hid (∀W:World,Calls prog 113 #[.int .i64 op,.int .i64 f,.int .i64 l] W fun e w'=>e=.returned (.bool true)/\w'=W):=fun W=>by
     have:=Wi.out f l W;rwa[auq c]at this
    clear c HF ED Wi;go_wp2_with fail;refine(Wi2.out _).mono ?_;rintro e w1 ⟨rfl,rfl⟩;clear Wi2;go_wp2_with fail;refine(Fi.out k HKv.out _).mono ?_;rintro e w1 ⟨rfl,G1⟩;have aU:Hid (Gr w w1):=(HG.out.alloc _).trans G1;clear Fi G1 p0 p1 p2 p3 p4;go_wp2_with fail;go_ret;exact⟨l7 pX.out.symm,aU.out⟩
   ·have ahi:Hid (∀t f l k,t<j+1->p9[t]?=some (f,l,k)->¬(f<=op/\op<=l)):=ED.out c;have Wi2:Hid (∀W:World,Calls prog 113 #[.int .i64 op,.int .i64 f,.int .i64 l] W fun e w'=>e=.returned (.bool false)/\w'=W):=fun W=>by
     have:=Wi.out f l W;rwa[auh c]at this
    clear c HF ED Wi;go_wp2_with fail;refine(Wi2.out _).mono ?_;rintro e w1 ⟨rfl,rfl⟩;clear Wi2;go_wp2_with fail;go_roundw
    case rel=>exact⟨j+1,by omega,by go_num,ahi.out,Ot ((Gr.refl _).alloc _) HB.out,HG.out.alloc _⟩
    case measure=>simp[intOf];omega
  ·have ej:j=11:=by omega
   have HE:Hid (OKB=false):=HN.out (Ej fun t f l k hr=>nY.out t f l k (by have:=(apj.1 hr).1;have:p9.length=11:=rfl;omega) hr);go_wp2_with fail;go_ret;exact⟨l7 HE.out.symm,HG.out⟩
theorem Ow {ao:Option Addr}{n:Nat}(cap:Nat){code:List Mv}{w:World}(C:Cs w ao n code)(T:Tr w)(hn:n<=140737488351232):Calls prog 112 #[.slice ao n cap] w fun e w'=>e=.returned (.bool (nZ code))/\Gr w w':=by
 have HL:=kH C.len;have HM:Hid (nZ code=(decide (n<=200) && code.all dZ)):=by unfold Hid nZ;rw[HL.out]
 by_cases c2:200<n
 ·have HE:Hid (nZ code=false):=by unfold Hid;rw[HM.out,auh (by omega)];rfl
  go_enter func112,ntmps112;go_wp2;go_ret;exact⟨l7 HE.out.symm,Gr.refl _⟩
 have Jq:Hid (nZ code=code.all dZ):=by unfold Hid;rw[HM.out,auq (by omega)];rfl
 have HC:=kH C;have HT:=kH T;go_enter func112,ntmps112;go_wp2;go_loopw [10] (fun i wr=>∃j:Nat,j<=n/\i=.int .i64 j/\(code.take j).all dZ=true/\Gr w wr) (fun i _=>n-(intOf i).toNat)
 case atStart=>exact⟨0,apF _,rfl,rfl,Gr.refl _⟩
 case round=>
  obtain⟨j,hj,rfl,hall,G⟩:=hrel;have HA:=kH hall;have HG:=kH G;by_cases hlt:j<n
  ·obtain⟨c,hc⟩:∃c,code[j]?=some c:=⟨_,api (by rw[HL.out];exact hlt)⟩;obtain⟨b,o,rfl,hb,hcell⟩:=(HC.out.of HG.out).spot (by omega);obtain⟨p0,p1,p2,p3,p4⟩:=hcell j c hc;have Ma:Hid (∀W:World,Gr w W->_):=fun W G=>Ou (HT.out.of G) c.op c.d c.a c.b c.n
   have nY:Hid (dZ c=false->nZ code=false):=fun h=>by rw[Jq.out];exact yH hc h
   have ahj:Hid (dZ c=true->(code.take (j+1)).all dZ=true):=fun h=>by rw[Js _ _ _ _ hc,HA.out,h];rfl
   obtain⟨op,d,a,b2,nn⟩:=c;simp only at *
   generalize dZ ⟨op,d,a,b2,nn⟩=OKB at *
   cases OKB with
   |false=>
    have ahk:=kH (nY.out rfl);go_wp2_with fail;refine(Ma.out _ (HG.out.alloc _)).mono ?_;rintro e w1 ⟨rfl,G1⟩;have aU:=kH ((HG.out.alloc _).trans G1);go_wp2_with fail;go_ret;exact⟨l7 ahk.out.symm,aU.out⟩
   |true=>
    have KJ:=kH (ahj.out rfl);go_wp2_with fail;refine(Ma.out _ (HG.out.alloc _)).mono ?_;rintro e w1 ⟨rfl,G1⟩;have aU:=kH ((HG.out.alloc _).trans G1);go_wp2_with fail;go_roundw
    case rel=>exact⟨j+1,by omega,by go_num,KJ.out,aU.out⟩
    case measure=>simp[intOf];omega
  ·have ej:j=n:=by omega
   have HE:Hid (nZ code=true):=by
    unfold Hid;rw[Jq.out];have:=HA.out;rwa[ej,<-HL.out,ap9]at this
   go_wp2_with fail;go_ret;exact⟨l7 HE.out.symm,HG.out⟩
end Mp
namespace Mi
open Mm Hh Hc

end Mi
namespace Mi
open Mm Hh Hc

end Mi
namespace Mp
open Mm Hh Hc Mi

theorem aab (h:Hv)(M O S:Value)(n:Int)(h1:M.oneCell'=true)(h2:O.oneCell'=true)(h3:S.oneCell'=true):(gA h M O n S).all (·.oneCell')=true:=by refine auE ?_;intro v hv;simp only[gL,hL,apR,apK,apx,apB,auw]at hv;rcases hv with(⟨n,_,rfl⟩|rfl|rfl|rfl|rfl|rfl)|rfl|rfl|rfl|rfl<;>first|rfl|assumption
theorem adR {w w':World}(T:Gc.Ts w w.heap.size)(G:Gr w w'):Gc.Ts w' w'.heap.size:=⟨fun i n e=>(G.cell _ (by exact T.b1)).trans (T.sizes i n e),apq T.b1 G.size⟩
theorem Ox {bf bt steps:Int}{h:Hv}{l:List UInt8}{code:List Mv}(o:h.Ok)(hs:h.state=0)(hl:l.length<=4096)(hn:∀i∈code,Hh.W i.n):(dC bf bt steps h l code).Ok:=by
 have G:=Gd.bB (steps:=steps) (Gd.start (bf:=bf) (bt:=bt) o hs hl) hn code.length;rw[ap9]at G;unfold dC mend;split
 ·have:=W.lo ((bB bf bt steps (mstart h l) code).here+4);exact G.ok.hart (G.ok.h.go this.1 this.2)
 ·exact G.ok
end Mp
namespace Mp
open Mm Hh Hc Mi

theorem UA {w:World}{ao:Option Addr}{n:Nat}(cap:Nat){code:List Mv}(C:Cs w ao n code)(T:Tr w)(Ts:Gc.Ts w w.heap.size)(hn:n<=140737488351232)(hm:nZ code=true){h:Hv}(o:h.Ok){mo:Option Addr}{ml mc:Nat}{l:List UInt8}(M:Mem w mo ml l)(hcap:mo=none->mc=0)(bf bt steps:Int)(s0:0<=steps)(s1:steps<=400)(hh:may h=true)(hs:h.state=0)(lY:ml<=4096)(hmb:Hc.mb<=w.heap.size):Calls prog 86 #[.slice ao n cap,.agg (hA h),.slice mo ml mc,.agg #[.int .u32 bf,.int .u32 bt],.int .i64 steps] w fun e w'=>∃M O S,e=.returned (.tuple #[.agg (gA (dC bf bt steps h l code).h M O (dC bf bt steps h l code).n S),.bool true])/\Dr w' (dC bf bt steps h l code) M O S/\Own w' Hc.mb M (dC bf bt steps h l code).m/\Gr w w':=by
 have M0:Hid (∀W:World,Gr w W->Calls prog 112 #[.slice ao n cap] W fun e w'=>e=.returned (.bool true)/\Gr W w'):=fun W G=>by rw[<-hm];exact Ow cap (C.of G) (T.of G) hn
 have Wi:Hid (∀W:World,Calls prog 113 #[.int .i64 steps,.int .i64 0,.int .i64 400] W fun e w'=>e=.returned (.bool true)/\w'=W):=fun W=>by
  have:=aG steps 0 400 W;rwa[auq ⟨s0,s1⟩]at this
 have hll:l.length<=4096:=by have:=M.len;omega
 have NR:Hid (∀W:World,Gr w W->Calls prog 114 #[.agg (hA h),.slice mo ml mc,.agg #[.int .u32 bf,.int .u32 bt],.int .i64 steps] W fun e w'=>∃v,e=.returned (.tuple #[.agg (Gc.cB ⟨h,v,ax,ax⟩ (mg (mstart h l) bf bt steps)),.bool true])/\Own w' Hc.mb v l/\Gr W w'):=fun W G=>by
  exact vQ (PV:=fun W v=>Own W Hc.mb v l) o o l bf bt steps (fun _ _ v hv e=>hv.to e) (fun _ v hv=>hv.cells) (fun V GV=>(A8 o (M.of (G.trans GV)) hcap lY hh hs).mono fun e w' ⟨v,e1,e2,e3⟩=>⟨v,e1,e2.base (w':=w') (apr hmb (apr G.size GV.size)),e3⟩)
 have WW:Hid (Hc.mb<=w.heap.size):=hmb;have RN:Hid (∀(w0 X:World) (g:Nat),Gr w w0->Gr w0 X->Pr X w0.heap.size g (mstart h l) bf bt steps->Calls prog 115 #[.pointer (some ⟨g,0,none⟩),.slice ao n cap] X fun e w'=>e=.returned (.tuple #[])/\Pr w' w0.heap.size g (dC bf bt steps h l code) bf bt steps/\Gr w0 w'):=fun w0 X g G0 GX I=>zb cap (C.of G0) hm o hs hll (adR Ts G0) I GX
 have zS:Hid (dC bf bt steps h l code).Ok:=Ox o hs hll C.wn;have HS:Hid ((hA h).size=37):=jC o;have HR1:Hid (∀v,(Gc.cB ⟨h,v,ax,ax⟩ (mg (mstart h l) bf bt steps)).size=49):=fun v=>by rw[zg o,qh rfl]
 have Xl:Hid (∀v:Value,v.oneCell'=true->(Gc.cB ⟨h,v,ax,ax⟩ (mg (mstart h l) bf bt steps)).all (·.oneCell')=true):=fun v hv=>Oq _ _ _ _ _ hv rfl rfl
 have HOh:Hid h.Ok:=o;generalize hA h=H0 at *
 generalize dC bf bt steps h l code=r at *
 go_enter func86,ntmps86;go_wp2_with fail;refine(M0.out _ ((((Gr.refl _).alloc _).alloc _).alloc _)).mono ?_;rintro e w1 ⟨rfl,G1⟩;obtain⟨b0,b1,b2⟩:=jo G1;have aU:=kH (((((Gr.refl _).alloc _).alloc _).alloc _).trans G1);have HBZ:Hid (∃Z:Array Value,Z.size=41/\w1.heap[w.heap.size+1+1]?=some (.cells Z 142 (0,0))):=⟨_,rfl,b2⟩;have HB1:=kH b0;have r0:w1.cell? ⟨w.heap.size+1,0,none⟩=some (.int .u32 bf):=atZ _ _ _ _ _ _ b1;have r1:w1.cell? ⟨w.heap.size+1,1,none⟩=some (.int .u32 bt):=atZ _ _ _ _ _ _ b1;obtain⟨Z,hz,hZ⟩:=HBZ.out;have HZ2:=kH hZ;have HZs:=kH hz;go_wp2_with fail;refine(Wi.out _).mono ?_;rintro e w' ⟨rfl,rfl⟩;go_wp2_with (refine auL rfl 43 _ rfl w.heap.size rfl 43 H0 (0,0) _ ?lh1 underlying43 rfl (by rw[HS.out];exact iHa) ?_;(case lh1=>exact HB1.out));refine(NR.out _ aU.out).mono ?_;rintro e w2 ⟨v,rfl,hv,G2⟩;have HG2:=kH (aU.out.trans G2);have HR:=kH (HR1.out v);have aaa:=kH (Xl.out v hv.cells.2);have HZ3:=kH (dI G2 HZ2.out);have HX:Hid (∀Y:Array Value,Gr w2 ((w2.alloc (.cells Y 206)).setRow w2.heap.size (Gc.cB ⟨h,v,ax,ax⟩ (mg (mstart h l) bf bt steps)))):=fun Y=>ag ((Gr.refl _).alloc _) (apn _) _
 have HP:Hid (∀Y:Array Value,Pr ((w2.alloc (.cells Y 206)).setRow w2.heap.size (Gc.cB ⟨h,v,ax,ax⟩ (mg (mstart h l) bf bt steps))) w2.heap.size w2.heap.size (mstart h l) bf bt steps):=fun Y=>by
  refine⟨⟨h,v,ax,ax⟩,rfl,⟨by decide,by decide,by decide,HOh.out,apn _,aup _ _ _ _ _ (0,0) (at5 w2 _),?_,apr WW.out HG2.out.size,aur _ _ _ _,aur _ _ _ _⟩⟩;exact hv.to fun k c f hk=>(HX.out Y).block k (apk.1 hk).1
 generalize Gc.cB ⟨h,v,ax,ax⟩ (mg (mstart h l) bf bt steps)=R at *
 go_wp2_with (refine auf rfl 206 _ _ rfl w2.heap.size R rfl rfl 206 _ (at5 w2 _) (by rw[HR.out];exact zh) (by rw[HR.out];rfl) aaa.out ?_);refine(RN.out w2 _ w2.heap.size HG2.out (HX.out _) (HP.out _)).mono ?_;rintro e w3 ⟨rfl,I3,G3⟩;have fQ:=kH (HG2.out.trans G3);have zk:=kH (dI G3 HZ3.out);have k47:=I3.NZ zS.out 3;obtain⟨c,hc,I⟩:=I3;obtain⟨ma,BM,hM,MM⟩:=I.mem.mem;obtain⟨oa,oc,hO,_⟩:=M6 rfl I.out;obtain⟨sa,sc,hS⟩:=xz I.av;have k37:w3.cell? ⟨w2.heap.size,37,none⟩=some (.slice ma r.m.length BM):=by rw[<-hM];exact I.dJ 0
 have k38:w3.cell? ⟨w2.heap.size,38,none⟩=some (.slice oa r.out.length oc):=by rw[<-hO];exact I.dJ 1
 have KI:w3.cell? ⟨w2.heap.size,39,none⟩=some (.slice sa r.av.length sc):=by rw[<-hS];exact I.dJ 2
 have HRg:Hid (w3.rangeAt w2.heap.size 0 (hL r.h)):=fun j u hj=>by
  have hj2:j<37:=by have:=(apj.1 hj).1;rwa[aD zS.out.h]at this
  rw[apu,I.hcell hj2,hc];exact hj
 have HLn:=kH (aD zS.out.h);have M9:Hid (prog.built 142 [(0,.agg (hL r.h).toArray),(1,.slice ma r.m.length BM),(2,.slice oa r.out.length oc),(3,.int .i64 r.n),(4,.slice sa r.av.length sc)]=some (gA r.h (.slice ma r.m.length BM) (.slice oa r.out.length oc) r.n (.slice sa r.av.length sc))):=oI zS.out.h _ _ _ _ rfl rfl rfl;have HD:Hid (∀cs:Array Value,Dr (w3.setRow (w.heap.size+1+1) cs) r (.slice ma r.m.length BM) (.slice oa r.out.length oc) (.slice sa r.av.length sc)):=fun cs=>by
  have ne:∀{t:Nat},t≠142->∀{j:Nat} {o:Array Value} {f:Nat×Nat},w3.heap[j]?=some (.cells o t f)->(w3.setRow (w.heap.size+1+1) cs).heap[j]?=w3.heap[j]?:=fun ht _ _ _ hj=>auo _ _ _ _ (aa hj zk.out ht)
  obtain⟨xB,adS,hM',MM'⟩:=(I.mem.to fun k o f hk=>ne (by decide) hk).mem;refine⟨zS.out,?_,⟨w2.heap.size,?_⟩,⟨w2.heap.size,?_⟩⟩
  ·rw[<-hM,hM'];exact⟨xB,adS,rfl,MM'⟩
  ·rw[<-hO];exact aj I.out fun j o f hj=>ne (by decide) hj
  ·rw[<-hS];exact aj I.av fun j o f hj=>ne (by decide) hj
 have HDw:Hid (∀cs:Array Value,Own (w3.setRow (w.heap.size+1+1) cs) Hc.mb (.slice ma r.m.length BM) r.m):=fun cs=>by
  rw[<-hM];exact I.mem.to fun k o f hk=>auo _ _ _ _ (aa hk zk.out (by decide))
 have HDz:Hid ((gA r.h (.slice ma r.m.length BM) (.slice oa r.out.length oc) r.n (.slice sa r.av.length sc)).size=41):=Gl zS.out.h _ _ _ _;have HDo:Hid ((gA r.h (.slice ma r.m.length BM) (.slice oa r.out.length oc) r.n (.slice sa r.av.length sc)).all (·.oneCell')=true):=aab _ _ _ _ _ rfl rfl rfl;generalize hD:gA r.h (.slice ma r.m.length BM) (.slice oa r.out.length oc) r.n (.slice sa r.av.length sc)=D at *
 have HDe:=kH hD;generalize hHl:hL r.h=HL at *
 generalize r.m.length=mn at *
 generalize r.out.length=on at *
 generalize r.av.length=sn at *
 go_wp2_with (first
  |(refine auA rfl 43 _ rfl w2.heap.size 0 rfl HL _ ?lm1 underlying43 rfl (by rw[HLn.out];exact iHa) ?_;(case lm1=>exact HRg.out))
  |(refine au9 rfl 142 _ rfl _ rfl D (by have:=M9.out;simp[Act.eval,Act.put];exact this) ?_)
  |(refine auf rfl 142 _ _ rfl (w.heap.size+1+1) D rfl rfl 142 Z ?sr1 (by rw[HDz.out];exact Xi) (by rw[HDz.out];exact HZs.out) HDo.out ?_;(case sr1=>exact zk.out)))
 refine auc (v:=.tuple #[.agg D,.bool true]) (Hr.aI results86 _ _ _ _ _ (0,0) _ _ rfl rfl (aup _ _ _ _ _ (0,0) zk.out) underlying142 rfl (by rw[HDz.out];exact Xi)) rfl ⟨_,_,_,by rw[HDe.out],HD.out _,HDw.out _,?_⟩;exact ag fQ.out (by omega) _
end Mp
end Go.Proofs.YtiadhbmnfjfioaaGreatDoor
