/- ours -/
import Derived.Test.YtiadhbmnfjfioaaGreatDoorX33
set_option linter.unusedVariables false
set_option linter.unusedSimpArgs false
set_option maxHeartbeats 8000000
set_option maxRecDepth 100000
set_option linter.unusedSectionVars false
namespace Go.Proofs.YtiadhbmnfjfioaaGreatDoor
open Go.Proofs.Tryz hiding t1 t2 t3 t5
open Go.ChangeShapes Go.WideShapes Go.ChangeAt Go.RowKit
variable [Inhabited Hc.bN]
namespace Ud
open Mm Hh Hc Mc

theorem rU {P:Program}{fn:Func}{p t u:Tmp}{ty:TypeId}(h:fn.results=#[.cell p ty,.tmp t,.tmp u])(tmps:Array Value)(w:World)(g:Nat)(tt:TypeId)(cs:Array Value)(fr:Nat×Nat)(d:TypeDesc)
  (v v2:Value)(hp:tmps.getD p undef=.pointer (some ⟨g,0,none⟩))(hv:tmps.getD t undef=v)(hv2:tmps.getD u undef=v2)(hg:w.heap[g]?=some (.cells cs tt fr))
  (hu:P.underlying ty=some d)(hd:(match d with|.struct _|.array _ _=>true|_=>false)=true)(hi:(P.info? ty).map (·.size)=some cs.size):
  (results fn tmps).run P w=.ok (.tuple #[.agg cs,v,v2]) w:=by
 subst hv hv2;have hp':tmps[p]?.getD undef=.pointer (some ⟨g,0,none⟩):=by simpa using hp
 simp[results,h,hp',asAddr,au4 w g tt ty cs fr d hg hu hd hi]
theorem Px (s:Sh)(a:List (Nat×Nat))(k n:Nat):gD s (jS s (a++[(k,n)]))=gD s (jS s a)++gD (aL s a) (vR (aL s a) k n):=by
 rw[Gx,zo,<-mr];congr 2;show vR (aL s a) k n++[]=_
 rw[apz]
theorem JX (s:Sh)(a:List (Nat×Nat)):s.steps+(gD s (jS s a)).length=(aL s a).steps:=by rw[nA,mr,xE]
theorem UX {ma ha pa:Option Addr}{hn pn:Nat}(mc hc pc:Nat){m:List UInt8}{hs:List Hv}{ps:List (Int×Int)}{w:World}(mn:Nat)(lU:m.length=mn)(H:Hs w ha hn hs)(P:Ps w pa pn ps)(b1:mn<=140737488351232)(b2:hn<=140737488351232)(b3:pn<=140737488351232)(hno:¬wrong m hs ps=0):Calls prog 10 #[.agg #[.slice ma mn mc,.slice ha hn hc],.slice pa pn pc] w fun e w'=>e=.returned (.tuple #[.agg #[.slice none 0 0,.slice none 0 0,.slice none 0 0,.int .i64 0],.slice none 0 0,.int .i64 (wrong m hs ps)])/\Gr w w':=by
 have HM:Hid (∀W:World,Gr w W->Calls prog 22 #[.agg #[.slice ma mn mc,.slice ha hn hc],.slice pa pn pc] W fun e w'=>e=.returned (.tuple #[.agg #[.slice none 0 0,.slice none 0 0,.slice none 0 0,.int .i64 0],.int .i64 (wrong m hs ps)])/\Gr W w'):=fun W G=>rJ mc hc pc mn lU (H.of G) (P.of G) b1 b2 b3 hno
 clear H P lU;generalize wrong m hs ps=E at *
 have hE:(E !=0)=true:=by simpa using hno
 go_enter func10,ntmps10;go_wp2_with fail;refine(HM.out _ (((Gr.refl _).alloc _).alloc _)).mono ?_;rintro e w1 ⟨rfl,G1⟩;have aU:=kH ((((Gr.refl _).alloc _).alloc _).trans G1);have HB:=kH ((fA G1).2);have hlt:=(gs HB.out).1;have HI:=kH iS;have HB2:Hid (∀Y:Array Value,(w1.alloc (.cells Y 84)).heap[w.heap.size+1]?=some (.cells #[.slice none 0 0,.slice none 0 0,.slice none 0 0,.int .i64 0] 47 (0,0))):=fun Y=>Hr.ae ((Gr.refl _).alloc _) HB.out
 go_wp2_with (refine auf rfl 47 _ _ rfl (w.heap.size+1) #[.slice none 0 0,.slice none 0 0,.slice none 0 0,.int .i64 0] rfl rfl 47 _ ?hb HI.out rfl (by kernel_rfl) ?_;(case hb=>exact HB2.out _));refine auc (v:=.tuple #[.agg _,.slice none 0 0,.int .i64 E]) (rU results10 _ _ _ _ _ (0,0) _ _ _ rfl rfl rfl (aup _ _ _ _ _ (0,0) (HB2.out _)) underlying47 rfl HI.out) rfl ⟨rfl,?_⟩;exact ag (aU.out.alloc _) (aqi _) _
theorem Py {ma ha pa:Option Addr}{hn pn:Nat}(mc hc pc:Nat){m:List UInt8}{hs:List Hv}{ps:List (Int×Int)}{w:World}(mn:Nat)(T:TT w w.heap.size)(M:Mem w ma mn m)(hcap:ma=none->mc=0)(H:Hs w ha hn hs)(P:Ps w pa pn ps)(hy:wrong m hs ps=0)(hmb:Hc.mb<=w.heap.size):Calls prog 10 #[.agg #[.slice ma mn mc,.slice ha hn hc],.slice pa pn pc] w fun e w'=>∃v ua un uc,e=.returned (.tuple #[v,.slice ua un uc,.int .i64 0])/\ShO w' v hn mn (aL ⟨hs,m,[],0⟩ (nums ps))/\(Us w' ua un (gD ⟨hs,m,[],0⟩ (jS ⟨hs,m,[],0⟩ (nums ps)))/\UsL w' Hc.mb ua un)/\un<=uc/\Gr w w':=by
 obtain⟨b1,b2,b4,ze,b3,hpk⟩:=kE hy;have lY:=M.len;have Xn:=H.len;have hpl:=P.len;have HN:Hid (∀W:World,Gr w W->Calls prog 22 #[.agg #[.slice ma mn mc,.slice ha hn hc],.slice pa pn pc] W fun e w'=>∃a c gh hc,e=.returned (.tuple #[.agg #[.slice a mn c,.slice (some ⟨gh,0,none⟩) hn hc,.slice none 0 0,.int .i64 0],.int .i64 0])/\Hc.Own w' Hc.mb (.slice a mn c) m/\W.heap.size<=gh/\(bP w' gh hs/\Zh w' gh hc)/\Gr W w'):=fun W G=>kQ mc hc pc mn (M.of G) hcap (H.of G) (P.of G) (by omega) hy (by omega) (by omega) (by omega) (apr hmb G.size)
 have F0:Fit ⟨hs,m,[],0⟩ hn mn:=⟨Xn,lY,fun h hm=>⟨H.ok h hm,ze h hm⟩⟩;have HF0:=kH F0;have HT:=kH T;have HP:=kH P;have Ga:=kH hpl;have HPK:Hid (∀p∈ps,0<=p.1/\p.1<hn/\0<=p.2/\p.2<=400):=by rw[Xn]at hpk;exact hpk
 have xD:=kH Xn;have HLV:Hid (Live ⟨hs,m,[],0⟩ (jS ⟨hs,m,[],0⟩ (nums ps))):=uS _ _ (fun q hq=>by
  obtain⟨r,hr,rfl⟩:=apK.1 hq;have:=hpk r hr;show r.1.toNat<hs.length
  omega)
 have c4:hn<=4:=by omega
 have m4:mn<=4096:=by omega
 have p4:pn<=300:=by omega
 have CR:Hid (∀j,Fit (aL ⟨hs,m,[],0⟩ ((nums ps).take j)) hn mn):=fun j=>pM _ (fun q hq=>by
  obtain⟨r,hr,rfl⟩:=apK.1 (aq7 hq);have:=HPK.out r hr;show r.1.toNat<hn
  omega) F0
 have ahO:=kH hmb;go_enter func10,ntmps10;go_wp2_with fail;refine(HN.out _ (((Gr.refl _).alloc _).alloc _)).mono ?_;rintro e w1 ⟨a1,c1,gh,hc1,rfl,O1,hgh,R1,G1⟩;have aU:=kH ((((Gr.refl _).alloc _).alloc _).trans G1);have fO:=kH ((fA G1).2);have hlt:=(gs fO.out).1;have UK:w.heap.size+2<=gh:=by simpa using hgh
 have TK:=kH O1;have HR1:=kH R1.1;have HZ1:=kH R1.2;go_wp2_with fail;refine JV (fun W=>Rw W (w.heap.size+2) (w1.heap.size+1) (.slice a1 mn c1) gh hc1 (.slice none 0 0) (.slice none 0 0) [] ⟨hs,m,[],0⟩ []/\W.heap[w.heap.size+1]?=some (.cells #[.slice none 0 0,.slice none 0 0,.slice none 0 0,.int .i64 0] 47 (0,0))/\Gr w W) ?_ ?_
 ·have GA:∀o1 o2:Obj,Gr w1 ((w1.alloc o1).alloc o2):=fun o1 o2=>((Gr.refl _).alloc _).alloc _
  have e1:∀o1:Obj,(w1.alloc o1).heap.size=w1.heap.size+1:=fun o1=>by simp
  have hblk:=at5 (w1.alloc (.cells #[.slice a1 mn c1,.slice (some ⟨gh,0,none⟩) hn hc1,.slice none 0 0,.int .i64 0] 84)) (.cells #[.slice a1 mn c1,.slice (some ⟨gh,0,none⟩) hn hc1,.slice none 0 0,.int .i64 0,.slice none 0 0] 88);rw[e1]at hblk;refine⟨⟨⟨by decide,by decide,by decide,by omega,?_,gT TK.out (GA _ _),UK,HR1.out.of (GA _ _),aur _ _ _ _,⟨HZ1.out.of (GA _ _),by omega⟩⟩,aur _ _ _ _,Ux.nil _⟩,Hr.ae (GA _ _) fO.out,aU.out.trans (GA _ _)⟩;show _=some (Obj.cells #[.slice a1 mn c1,.slice (some ⟨gh,0,none⟩) hs.length hc1,.slice none 0 0,.int .i64 ((0:Nat):Int),.slice none 0 0] 88 (0,0))
  rw[xD.out];exact hblk
 obtain⟨g,hg⟩:∃g:Nat,g=w1.heap.size+1:=⟨_,rfl⟩;rw[<-hg];rintro W3 ⟨R3,u1,G3⟩;have hwg:w.heap.size+2<=g:=by omega
 clear hg hlt;have HR3:Hid (Rc W3 (w.heap.size+2) g ⟨hs,m,[],0⟩ []):=⟨_,_,_,_,_,_,R3⟩;have rQ:=kH u1;have fQ:Hid (Gr w W3):=G3;have hb3:w.heap.size+2<=W3.heap.size:=R3.bw.ay;have HT3:Hid (TT W3 (w.heap.size+2)):=Xp (uX HT.out G3) (by omega);have Zc:Hid (∀V:World,Below (w.heap.size+2) W3 V->Gr w V/\V.heap[w.heap.size+1]?=some (.cells #[.slice none 0 0,.slice none 0 0,.slice none 0 0,.int .i64 0] 47 (0,0))):=fun V B=>⟨xC fQ.out B (by omega),(B.block _ (by omega)).trans rQ.out⟩
 clear R3 u1 G3 rQ fQ HT;go_loopw [26] (fun i wr=>∃j:Nat,j<=pn/\i=.int .i64 j/\Rc wr (w.heap.size+2) g (aL ⟨hs,m,[],0⟩ ((nums ps).take j)) (gD ⟨hs,m,[],0⟩ (jS ⟨hs,m,[],0⟩ ((nums ps).take j)))/\Few (aL ⟨hs,m,[],0⟩ ((nums ps).take j)) (400*j)/\Below (w.heap.size+2) W3 wr) (fun i _=>pn-(intOf i).toNat)
 case atStart=>exact⟨0,apF _,rfl,HR3.out,⟨apn _,apn _⟩,auC _ _⟩
 case round=>
  obtain⟨j,hj,rfl,R4,fw,B4⟩:=hrel;have HR4:=kH R4;have HFW:=kH fw;have sj:=kH B4;have fC:=kH ((Zc.out _ B4).1);have hb4:=apr hb3 B4.size;by_cases hlt:j<pn
  ·obtain⟨p,hp⟩:∃p,ps[j]?=some p:=⟨_,api (by rw[Ga.out];exact hlt)⟩;obtain⟨z0,z1,z2,z3⟩:=HPK.out p (aps hp);obtain⟨b',o',rfl,hb',hcell'⟩:=HP.out.spot (by omega);have q0:=(fC.out.cell _ (by exact hb')).trans (hcell' j p hp).1;have q1:=(fC.out.cell _ (by exact hb')).trans (hcell' j p hp).2;have HTK:=kH (BQ hp);clear hcell' hp;obtain⟨p1,p2⟩:=p;simp only at *
   obtain⟨k,rfl⟩:=apt z0;obtain⟨n,rfl⟩:=apt z2;simp only[apG]at HTK;have hk:k<hn:=by omega
   have hn4:n<=400:=by omega
   have HTu:Hid (∀V:World,Gr wr V->Calls prog 23 #[.pointer (some ⟨g,0,none⟩),.agg #[.int .i64 k,.int .i64 n]] V fun e w'=>e=.returned (.tuple #[])/\Rc w' (w.heap.size+2) g (aL ⟨hs,m,[],0⟩ ((nums ps).take (j+1))) (gD ⟨hs,m,[],0⟩ (jS ⟨hs,m,[],0⟩ ((nums ps).take (j+1))))/\Below (w.heap.size+2) V w'):=fun V G=>by
    have f1:=HFW.out.1;have f2:=HFW.out.2;have f3:=JX ⟨hs,m,[],0⟩ ((nums ps).take j);simp only[apu]at f3;have f4:(gD ⟨hs,m,[],0⟩ (jS ⟨hs,m,[],0⟩ ((nums ps).take j))).length=(aL ⟨hs,m,[],0⟩ ((nums ps).take j)).steps:=f3;refine(uP (HR4.out.of G) (uX HT3.out (sj.out.trans (aun G hb4))) (CR.out j) m4 hk c4 hn4 (by omega) (by omega) (by omega)).mono ?_;rintro e w' ⟨rfl,R',F'⟩;rw[HTK.out,Px,uj];exact⟨rfl,R',F'.below⟩
   have HFN:Hid (Few (aL ⟨hs,m,[],0⟩ ((nums ps).take (j+1))) (400*(j+1))):=by
    unfold Hid;rw[HTK.out,uj,jc];show Few (runs _ k n) _
    rw[pO (by rw[(CR.out j).len];exact hk) n,show 400*(j+1)=400*j+400 by omega];have:=Gt n (pQ (CR.out j) hk);have e0:(w0 (aL ⟨hs,m,[],0⟩ ((nums ps).take j)) k).n=0:=rfl;exact OB HFW.out this.1 (by omega)
   clear z0 z1 z2 z3 HR4 HFW HTK;go_wp2_with fail;refine(HTu.out _ ((Gr.refl _).alloc _)).mono ?_;rintro e w5 ⟨rfl,R5,B5⟩;have xK:=kH R5;have KW:=kH (sj.out.trans ((aun ((Gr.refl wr).alloc _) hb4).trans B5));go_wp2_with fail;go_roundw
   case rel=>exact⟨j+1,by omega,by go_num,xK.out,HFN.out,KW.out⟩
   case measure=>simp[intOf];omega
  ·have ej:ps.length<=j:=by rw[Ga.out];omega
   have HE:Hid ((nums ps).take j=nums ps):=by unfold Hid;rw[ap0 (by unfold nums;rw[apY];exact ej)]
   have HFs:Hid (Fit (aL ⟨hs,m,[],0⟩ (nums ps)) hn mn):=by have:=CR.out j;rw[HE.out]at this;exact this
   obtain⟨Mv,gh,hc1,Ov,Uv',xs,R5⟩:=HR4.out;rw[HE.out]at R5;have HUO:Hid (∀u∈gD ⟨hs,m,[],0⟩ (jS ⟨hs,m,[],0⟩ (nums ps)),u.Ok/\(-9223372036854775808<=u.k/\u.k<=9223372036854775807)/\(∀q∈u.lost, -9223372036854775808<=q.1/\q.1<=9223372036854775807)/\u.bs.length<=4096/\u.lost.length<=4096):=fun u hu=>by
    obtain⟨f1,f2,f3,f4⟩:=zt m4 _ _ HF0.out HLV.out u hu;unfold fB at f1;simp only[apD,auk,apM]at f1;obtain⟨⟨a0,a1⟩,a2,a3,a4⟩:=f1;exact⟨f2,⟨by omega,by omega⟩,fun q hq=>by have:=a4 q hq;omega,f3,by omega⟩
   generalize hS:aL ⟨hs,m,[],0⟩ (nums ps)=s at *
   generalize hUU:gD ⟨hs,m,[],0⟩ (jS ⟨hs,m,[],0⟩ (nums ps))=us at *
   have HSS:=kH hS;have HUU:=kH hUU;obtain⟨va,vc,rfl, -⟩:=R5.bw.mem.mem;obtain⟨oa,oc,rfl⟩:=(az R5.bw.out).2.2;obtain⟨ua,uc,rfl⟩:=(az R5.row).2.2;have xK:=kH R5;have UE:=kH HFs.out.mem;have HHs:=kH HFs.out.len;have HUC:Hid (us.length<=uc):=by
    rcases R5.row.2 with⟨e,e2⟩|⟨g',cp,cur,e,_,_,e3,_⟩
    ·show us.length<=uc;rw[e2];exact apF _
    ·injection e with _ _ e;rw[<-e]at e3;exact e3
   obtain⟨ol,hol⟩:∃ol:Nat,ol=s.out.length:=⟨_,rfl⟩;obtain⟨st,hst⟩:∃st:Int,st=s.steps:=⟨_,rfl⟩;obtain⟨un,hun⟩:∃un:Nat,un=us.length:=⟨_,rfl⟩;have HOS:Hid (ol=s.out.length/\st=s.steps/\un=us.length):=⟨hol,hst,hun⟩;have HS:Hid ((fun W=>W.cell? ⟨g,0,none⟩=some (.slice va mn vc)/\W.cell? ⟨g,1,none⟩=some (.slice (some ⟨gh,0,none⟩) hn hc1)/\W.cell? ⟨g,2,none⟩=some (.slice oa ol oc)/\W.cell? ⟨g,3,none⟩=some (.int .i64 st)/\W.cell? ⟨g,4,none⟩=some (.slice ua un uc)) wr):=by
    have x0:=R5.bw.c0;have x1:=R5.bw.c1;have x2:=R5.bw.c2;have x3:=R5.bw.c3;have x4:=R5.bw.rest 0;rw[UE.out]at x0;rw[HHs.out]at x1;rw[<-hol]at x2;rw[<-hst]at x3;rw[<-hun]at x4;exact⟨x0,x1,x2,x3,x4⟩
   obtain⟨GW,U1⟩:=Zc.out _ sj.out;have zT:=kH GW;have rQ:=kH U1;have fO:Hid (∀(V:World),(∀i:Nat,V.cell? ⟨g,i,none⟩=wr.cell? ⟨g,i,none⟩)->(fun W=>W.cell? ⟨g,0,none⟩=some (.slice va mn vc)/\W.cell? ⟨g,1,none⟩=some (.slice (some ⟨gh,0,none⟩) hn hc1)/\W.cell? ⟨g,2,none⟩=some (.slice oa ol oc)/\W.cell? ⟨g,3,none⟩=some (.int .i64 st)/\W.cell? ⟨g,4,none⟩=some (.slice ua un uc)) V):=fun V h=>by
    obtain⟨y0,y1,y2,y3,y4⟩:=HS.out;exact⟨(h 0).trans y0,(h 1).trans y1,(h 2).trans y2,(h 3).trans y3,(h 4).trans y4⟩
   go_wp2_with fail;refine aut (S:=fun W=>W.cell? ⟨g,0,none⟩=some (.slice va mn vc)/\W.cell? ⟨g,1,none⟩=some (.slice (some ⟨gh,0,none⟩) hn hc1)/\W.cell? ⟨g,2,none⟩=some (.slice oa ol oc)/\W.cell? ⟨g,3,none⟩=some (.int .i64 st)/\W.cell? ⟨g,4,none⟩=some (.slice ua un uc)) (by kernel_rfl) ?_ (fun hHeld=>?_)
   ·exact fO.out _ (fun i=>rfl)
   have aY:=kH hHeld;refine tK 0 (.pointer (some ⟨g,0,none⟩)) aY.out ?_;refine tK 1 (.pointer (some ⟨g,0,none⟩)) aY.out ?_;refine tK 2 (.agg #[.slice va mn vc,.slice (some ⟨gh,0,none⟩) hn hc1,.slice oa ol oc,.int .i64 st]) aY.out ?_;refine tK 3 (.pointer (some ⟨g,4,none⟩)) aY.out ?_;refine tK 4 (.slice ua un uc) aY.out ?_;have oQ:Hid (∀i:Nat,(wr.drew.setRow (w.heap.size+1) #[.slice va mn vc,.slice (some ⟨gh,0,none⟩) hn hc1,.slice oa ol oc,.int .i64 st]).cell? ⟨g,i,none⟩=wr.cell? ⟨g,i,none⟩):=fun i=>aui (auo _ _ _ _ (by show g≠w.heap.size+1;omega))
   refine aue (rs:=[5]) (by kernel_rfl) (by simp) ?_;refine aua rfl (fun K hK=>?_) aud;refine gP rfl 47 (.tmp 4) (.tmp 35) rfl (w.heap.size+1) #[.slice va mn vc,.slice (some ⟨gh,0,none⟩) hn hc1,.slice oa ol oc,.int .i64 st] (by simp[Act.eval]) (by simp[Act.eval]) 47 #[.slice none 0 0,.slice none 0 0,.slice none 0 0,.int .i64 0] rQ.out iS rfl (DR _ _ _ _ _ _ _ _ _ _) ?_;refine hK.out _ _ (fO.out _ oQ.out) (fun hx=>?_);simp only[apN,apP,apQ,Act.put,apl,apC,apy];refine tK 6 (.slice ua un uc) (fO.out _ oQ.out) ?_;refine tK 7 (.int .i64 0) (fO.out _ oQ.out) ?_;refine auy (by kernel_rfl) ?_ _;have ne:∀(t:Nat) (k:Nat) (q:Array Value) (f:Nat×Nat),t≠47->wr.heap[k]?=some (.cells q t f)->(wr.drew.setRow (w.heap.size+1) #[.slice va mn vc,.slice (some ⟨gh,0,none⟩) hn hc1,.slice oa ol oc,.int .i64 st]).heap[k]?=wr.heap[k]?:=fun t k q f ht hk=>auo _ _ _ _ (aa hk rQ.out ht)
   have HFin:Hid (ShO (wr.drew.setRow (w.heap.size+1) #[.slice va mn vc,.slice (some ⟨gh,0,none⟩) hn hc1,.slice oa ol oc,.int .i64 st]) (.agg #[.slice va mn vc,.slice (some ⟨gh,0,none⟩) hn hc1,.slice oa ol oc,.int .i64 st]) hn mn s/\(Us (wr.drew.setRow (w.heap.size+1) #[.slice va mn vc,.slice (some ⟨gh,0,none⟩) hn hc1,.slice oa ol oc,.int .i64 st]) ua un us/\UsL (wr.drew.setRow (w.heap.size+1) #[.slice va mn vc,.slice (some ⟨gh,0,none⟩) hn hc1,.slice oa ol oc,.int .i64 st]) Hc.mb ua un)/\un<=uc/\Gr w (wr.drew.setRow (w.heap.size+1) #[.slice va mn vc,.slice (some ⟨gh,0,none⟩) hn hc1,.slice oa ol oc,.int .i64 st])):=by
    obtain⟨e1,e2,e3⟩:=HOS.out;have hM:=xK.out.bw.mem.to (w':=wr.drew.setRow (w.heap.size+1) #[.slice va mn vc,.slice (some ⟨gh,0,none⟩) hn hc1,.slice oa ol oc,.int .i64 st]) fun k o f hk=>ne _ k o f (by decide) hk
    have hO:=aj (w':=wr.drew.setRow (w.heap.size+1) #[.slice va mn vc,.slice (some ⟨gh,0,none⟩) hn hc1,.slice oa ol oc,.int .i64 st]) xK.out.bw.out fun k o f hk=>ne _ k o f (by decide) hk
    have hU:=aj (w':=wr.drew.setRow (w.heap.size+1) #[.slice va mn vc,.slice (some ⟨gh,0,none⟩) hn hc1,.slice oa ol oc,.int .i64 st]) xK.out.row fun k o f hk=>ne _ k o f (by decide) hk
    have hX:=xK.out.ux.to (w':=wr.drew.setRow (w.heap.size+1) #[.slice va mn vc,.slice (some ⟨gh,0,none⟩) hn hc1,.slice oa ol oc,.int .i64 st]) fun k o t f ht hk=>ne _ k o f (by rcases ht with rfl|rfl<;>decide) hk
    rw[UE.out]at hM;refine⟨?_,?_,by rw[e3];exact HUC.out,ag (Gr.drew zT.out) (aqi _) _⟩
    ·have:=Gu (base:=w.heap.size+2) (va:=va) (vc:=vc) (oa:=oa) (oc:=oc) (gh:=gh) (hc:=hc1) (c:=hn) (mn:=mn) (S:=s) (w:=wr.drew.setRow (w.heap.size+1) #[.slice va mn vc,.slice (some ⟨gh,0,none⟩) hn hc1,.slice oa ol oc,.int .i64 st]) hM UE.out (xK.out.bw.row.to fun k o f hk=>ne _ k o f (by decide) hk) ⟨xK.out.bw.hz.1.to fun k o f hk=>ne _ k o f (by decide) hk,apr xK.out.bw.hz.2 xK.out.bw.bh⟩ HHs.out hO;rw[e1,e2]at this ⊢;exact this
    ·rw[e3];exact⟨hX.us hU rfl HUO.out,hX.usl hU rfl (fun u hu=>(HUO.out u hu).1.was) (apr ahO.out (Nat.le_add_right _ _))⟩
   have HB9:Hid ((wr.drew.setRow (w.heap.size+1) #[.slice va mn vc,.slice (some ⟨gh,0,none⟩) hn hc1,.slice oa ol oc,.int .i64 st]).heap[w.heap.size+1]?=some (.cells #[.slice va mn vc,.slice (some ⟨gh,0,none⟩) hn hc1,.slice oa ol oc,.int .i64 st] 47 (0,0))):=Ig rQ.out;generalize wr.drew.setRow (w.heap.size+1) #[.slice va mn vc,.slice (some ⟨gh,0,none⟩) hn hc1,.slice oa ol oc,.int .i64 st]=W9 at *
   go_wp2_with fail;refine auc (v:=.tuple #[.agg #[.slice va mn vc,.slice (some ⟨gh,0,none⟩) hn hc1,.slice oa ol oc,.int .i64 st],.slice ua un uc,.int .i64 0]) (rU results10 _ _ _ _ _ (0,0) _ _ _ rfl rfl rfl HB9.out underlying47 rfl iS) rfl ⟨_,_,_,_,rfl,by rw[HSS.out];exact HFin.out.1,by rw[HUU.out];exact HFin.out.2.1,HFin.out.2.2.1,HFin.out.2.2.2⟩
end Ud
namespace Ud
open Mm Hh Hc Mc

variable {w :World} {ma ha la :Option Addr} {mn mc hn hc ln lc :Nat} {us :List Uv} {u :Uv} {x :List Value}
theorem l7 {a b:Bool}(h:a=b):Ending.returned (.bool a)=.returned (.bool b):=by rw[h]
theorem dE (mb:Nat)(k1:w.cell? ⟨mb,1,none⟩=some (.slice ha hn hc))(hb:hn<=140737488351232)(q:Int):Calls prog 70 #[.int .i64 q,.pointer (some ⟨mb,0,none⟩)] w fun e w'=>e=.returned (.bool (decide (0<=q/\q<hn)))/\Gr w w':=by
 by_cases h0:0<=q
 ·by_cases h1:q<hn
  ·go_enter func70,ntmps70;go_wp2;go_ret;exact⟨l7 (by simp[h0,h1]),Gr.refl _⟩
  ·go_enter func70,ntmps70;go_wp2;go_ret;exact⟨l7 (by simp[h1]),Gr.refl _⟩
 ·go_enter func70,ntmps70;go_wp2;go_ret;exact⟨l7 (by rw[auh (show¬0<=q by omega)];rfl),Gr.refl _⟩
theorem EK (U:Uc w u x)(hb:mn<=140737488351232):Calls prog 71 #[.slice ma mn mc,.agg x.toArray] w fun e w'=>e=.returned (.bool (decide (u.fr+u.bs.length<=mn)))/\Gr w w':=by
 obtain⟨ba,bn,bc,l1,l2,l3,rfl,o,_,_,M,_,b1,_⟩:=U;have hl:=M.len;have f0:=o.f0;have f1:=o.f1;have k38:(uL u (.slice ba bn bc) (.slice l1 l2 l3)).toArray[38]?=some (.int .u32 u.fr):=by rw[apm];exact eO o.was 0
 have KI:(uL u (.slice ba bn bc) (.slice l1 l2 l3)).toArray[39]?=some (.slice ba bn bc):=by rw[apm];exact eO o.was 1
 have HR:Hid ((decide (u.fr+u.bs.length<=mn))=decide (u.fr+(bn:Int)<=mn)):=by unfold Hid;rw[hl]
 clear M o hl;generalize(uL u (.slice ba bn bc) (.slice l1 l2 l3)).toArray=X at *
 have q38:(w.alloc (.cells X 121)).cell? ⟨w.heap.size,38,none⟩=some (.int .u32 u.fr):=(cr (at5 w _)).trans k38;have q39:(w.alloc (.cells X 121)).cell? ⟨w.heap.size,39,none⟩=some (.slice ba bn bc):=(cr (at5 w _)).trans KI;generalize u.fr=f at *
 have e1:IntKind.u64.wrap f=f:=by simp[IntKind.wrap,IntKind.bits,IntKind.signed];omega
 have e2:IntKind.u64.wrap (bn:Int)=bn:=by simp[IntKind.wrap,IntKind.bits,IntKind.signed];omega
 have e3:IntKind.u64.wrap (f+(bn:Int))=f+bn:=by simp[IntKind.wrap,IntKind.bits,IntKind.signed];omega
 have e4:IntKind.u64.wrap (mn:Int)=mn:=by simp[IntKind.wrap,IntKind.bits,IntKind.signed];omega
 go_enter func71,ntmps71;go_wp2;go_ret;exact⟨l7 HR.out.symm,(Gr.refl _).alloc _⟩
theorem yH {α:Type}{f:α->Bool}{l:List α}{k:Nat}{y:α}(h:l[k]?=some y)(hx:f y=false):l.all f=false:=all_false h hx
theorem zC (U:Us w la ln us)(hb1:mn<=140737488351232)(hb2:hn<=140737488351232)(hb3:ln<=140737488351232):Calls prog 35 #[.agg #[.slice ma mn mc,.slice ha hn hc],.slice la ln lc] w fun e w'=>e=.returned (.bool (us.all (fB hn mn)))/\Gr w w':=by
 have HU:=kH U;have HL:=kH U.len;have HC:Hid (∀(q:Int) (W:World),Gr w W->W.heap[w.heap.size]?=some (.cells #[.slice ma mn mc,.slice ha hn hc] 28 (0,0))->_):=fun q W G e=>dE w.heap.size (iY e) hb2 q
 clear U;go_enter func35,ntmps35;go_wp2_with fail;go_loopw [13] (fun i wr=>∃j:Nat,j<=ln/\i=.int .i64 j/\(us.take j).all (fB hn mn)=true/\Gr w wr/\wr.heap[w.heap.size]?=some (.cells #[.slice ma mn mc,.slice ha hn hc] 28 (0,0))) (fun i _=>ln-(intOf i).toNat)
 case atStart=>exact⟨0,apF _,rfl,rfl,(Gr.refl _).alloc _,at5 w _⟩
 case round=>
  obtain⟨j,hj,rfl,hall,G,KM⟩:=hrel;have HA:=kH hall;have HG:Hid (Gr w wr):=G;have HM:=kH KM;have lY:=(gs KM).1;clear hall G KM;by_cases hlt:j<ln
  ·obtain⟨u,hu⟩:∃u,us[j]?=some u:=⟨_,api (by rw[HL.out];exact hlt)⟩;obtain⟨b,o,rfl,hb,hc'⟩:=HU.out.spot (by omega);obtain⟨x,Ux',hr⟩:=hc' j u hu;have RG:=kH (oO hr hb HG.out);have CS:=kH Ux'.len;have CU:Hid (x.toArray.size=41):=by unfold Hid;simp[CS.out]
   have kL:=kH Ux'.one;have Za:Hid (∀W:World,Gr w W->Calls prog 71 #[.slice ma mn mc,.agg x.toArray] W fun e w'=>e=.returned (.bool (decide (u.fr+u.bs.length<=mn)))/\Gr W w'):=fun W G=>EK (Ux'.of G) hb1
   obtain⟨ba,bn,bc',l1,l2,l3,hx,ok,hk,hq,_,LS,_,b2⟩:=Ux';have Jt:Hid (x[0]?=some (.int .i64 u.k)/\∀i v,(hL u.was)[i]?=some v->x[1+i]?=some v):=by
    rw[hx];refine⟨rfl,fun i v hi=>?_⟩;have:i<37:=by have:=(apj.1 hi).1;rwa[aD ok.was]at this
    rw[q9 ok.was this];exact hi
   have ahQ:Hid (x[40]?=some (.slice l1 l2 l3)):=by rw[hx];exact eO ok.was 2
   have HLS:=kH LS;have Cj:Hid (∀W:World,_):=fun W=>yj ok.was W
   have xD:=kH (aD ok.was);have fC:Hid (∀Y:Array Value,Gr wr ((wr.alloc (.cells Y 121)).setRow wr.heap.size x.toArray)):=fun Y=>ag ((Gr.refl _).alloc _) (apn _) _
   have CK:Hid (∀Y:Array Value,((wr.alloc (.cells Y 121)).setRow wr.heap.size x.toArray).heap[wr.heap.size]?=some (.cells x.toArray 121 (0,0))):=fun Y=>Ig (at5 wr _)
   have Xq:Hid (∀Y:Array Value,((wr.alloc (.cells Y 121)).setRow wr.heap.size x.toArray).heap[w.heap.size]?=some (.cells #[.slice ma mn mc,.slice ha hn hc] 28 (0,0))):=fun Y=>Hr.ae (fC.out Y) HM.out
   have u0:∀Y:Array Value,((wr.alloc (.cells Y 121)).setRow wr.heap.size x.toArray).cell? ⟨wr.heap.size,0,none⟩=some (.int .i64 u.k):=fun Y=>(cr (CK.out Y)).trans (by rw[apm];exact Jt.out.1)
   have Pz:Hid (fB hn mn u=(decide (0<=u.k/\u.k<hn) && (may u.was && (decide (u.fr+u.bs.length<=mn) && u.lost.all fun q=>decide (0<=q.1/\q.1<hn))))):=rfl;have ED:Hid ((us.take (j+1)).all (fB hn mn)=((us.take j).all (fB hn mn) && fB hn mn u)):=pV _ _ _ _ hu;have Xr:Hid (fB hn mn u=false->_):=fun h=>yH hu h
   clear hc' hr hx ok LS HU hu;have oQ:Hid (∀W:World,Gr w W->W.heap[w.heap.size]?=some (.cells #[.slice ma mn mc,.slice ha hn hc] 28 (0,0))->Calls prog 70 #[.int .i64 u.k,.pointer (some ⟨w.heap.size,0,none⟩)] W fun e w'=>e=.returned (.bool (decide (0<=u.k/\u.k<hn)))/\Gr W w'):=HC.out u.k;generalize decide (0<=u.k/\u.k<(hn:Int))=t1 at oQ Pz;generalize may u.was=t2 at Cj Pz;generalize decide (u.fr+u.bs.length<=mn)=t3 at Za Pz;cases t1 with
   |false=>
    have nY:Hid (us.all (fB hn mn)=false):=Xr.out (by rw[Pz.out];rfl);clear Pz Xr ED
    go_wp2_with (first
     |(refine auA rfl 121 _ rfl b (o+j*41) rfl x _ ?r1 underlying121 rfl (by rw[CS.out];exact iU) ?_;(case r1=>exact RG.out))
     |(refine auf rfl 121 _ _ rfl wr.heap.size x.toArray rfl rfl 121 _ (at5 wr _) (by rw[CU.out];exact iU) (by rw[CU.out];rfl) kL.out ?_))
    refine(oQ.out _ (HG.out.trans (fC.out _)) (Xq.out _)).mono ?_;rintro e w5 ⟨rfl,G5⟩;have lu:=kH (HG.out.trans ((fC.out _).trans G5));have qx:=kH (Hr.ae G5 (CK.out _));have UY:=kH (Hr.ae ((fC.out _).trans G5) HM.out);have R5:Hid (w5.rangeAt (wr.heap.size) 1 (hL u.was)):=fun i v hv=>by rw[cr qx.out,apm];exact Jt.out.2 i v hv
    have hl5:=(gs qx.out).1;clear G5 CK fC Xq u0 oQ;go_wp2_with fail;go_ret;exact⟨l7 nY.out.symm,lu.out⟩
   |true=>
    cases t2 with
    |false=>
     have nY:=kH (Xr.out (by rw[Pz.out];rfl));clear Pz Xr ED
     go_wp2_with (first
      |(refine auA rfl 121 _ rfl b (o+j*41) rfl x _ ?r1 underlying121 rfl (by rw[CS.out];exact iU) ?_;(case r1=>exact RG.out))
      |(refine auf rfl 121 _ _ rfl wr.heap.size x.toArray rfl rfl 121 _ (at5 wr _) (by rw[CU.out];exact iU) (by rw[CU.out];rfl) kL.out ?_))
     refine(oQ.out _ (HG.out.trans (fC.out _)) (Xq.out _)).mono ?_;rintro e w5 ⟨rfl,G5⟩;have lu:=kH (HG.out.trans ((fC.out _).trans G5));have qx:=kH (Hr.ae G5 (CK.out _));have UY:=kH (Hr.ae ((fC.out _).trans G5) HM.out);have R5:Hid (w5.rangeAt (wr.heap.size) 1 (hL u.was)):=fun i v hv=>by rw[cr qx.out,apm];exact Jt.out.2 i v hv
     have hl5:=(gs qx.out).1;clear G5 CK fC Xq u0 oQ;go_wp2_with (refine gQ (by rfl) 43 _ rfl wr.heap.size 1 rfl (hL u.was) _ ?r2 underlying43 rfl (by rw[xD.out];exact iH) ?_;(case r2=>exact R5.out));refine(Cj.out _).mono ?_;rintro e w6 ⟨rfl,G6⟩;have oL:=kH (lu.out.trans G6);have Xt:=kH (Hr.ae G6 qx.out);have UZ:=kH (Hr.ae G6 UY.out);have m0:=iE UZ.out;clear G6 lu qx UY R5 Cj;go_wp2_with fail;go_ret;exact⟨l7 nY.out.symm,oL.out⟩
    |true=>
     cases t3 with
     |false=>
      have nY:=kH (Xr.out (by rw[Pz.out];rfl));clear Pz Xr ED
      go_wp2_with (first
       |(refine auA rfl 121 _ rfl b (o+j*41) rfl x _ ?r1 underlying121 rfl (by rw[CS.out];exact iU) ?_;(case r1=>exact RG.out))
       |(refine auf rfl 121 _ _ rfl wr.heap.size x.toArray rfl rfl 121 _ (at5 wr _) (by rw[CU.out];exact iU) (by rw[CU.out];rfl) kL.out ?_))
      refine(oQ.out _ (HG.out.trans (fC.out _)) (Xq.out _)).mono ?_;rintro e w5 ⟨rfl,G5⟩;have lu:=kH (HG.out.trans ((fC.out _).trans G5));have qx:=kH (Hr.ae G5 (CK.out _));have UY:=kH (Hr.ae ((fC.out _).trans G5) HM.out);have R5:Hid (w5.rangeAt (wr.heap.size) 1 (hL u.was)):=fun i v hv=>by rw[cr qx.out,apm];exact Jt.out.2 i v hv
      have hl5:=(gs qx.out).1;clear G5 CK fC Xq u0 oQ;go_wp2_with (refine gQ (by rfl) 43 _ rfl wr.heap.size 1 rfl (hL u.was) _ ?r2 underlying43 rfl (by rw[xD.out];exact iH) ?_;(case r2=>exact R5.out));refine(Cj.out _).mono ?_;rintro e w6 ⟨rfl,G6⟩;have oL:=kH (lu.out.trans G6);have Xt:=kH (Hr.ae G6 qx.out);have UZ:=kH (Hr.ae G6 UY.out);have m0:=iE UZ.out;clear G6 lu qx UY R5 Cj;go_wp2_with (refine ku (by rfl) 121 _ rfl wr.heap.size rfl 121 x.toArray (0,0) _ ?r3 underlying121 rfl (by rw[CU.out];exact iU) ?_;(case r3=>exact Xt.out));refine(Za.out _ oL.out).mono ?_;rintro e w7 ⟨rfl,G7⟩;have zB:=kH (oL.out.trans G7);have HU7:=kH (Hr.ae G7 Xt.out);have HM7:=kH (Hr.ae G7 UZ.out);clear G7 oL Xt UZ m0 Za;go_wp2_with fail;go_ret;exact⟨l7 nY.out.symm,zB.out⟩
     |true=>
      have HF4:Hid (fB hn mn u=u.lost.all fun q=>decide (0<=q.1/\q.1<(hn:Int))):=by unfold Hid;rw[Pz.out];simp only[arl]
      clear Pz
      go_wp2_with (first
       |(refine auA rfl 121 _ rfl b (o+j*41) rfl x _ ?r1 underlying121 rfl (by rw[CS.out];exact iU) ?_;(case r1=>exact RG.out))
       |(refine auf rfl 121 _ _ rfl wr.heap.size x.toArray rfl rfl 121 _ (at5 wr _) (by rw[CU.out];exact iU) (by rw[CU.out];rfl) kL.out ?_))
      refine(oQ.out _ (HG.out.trans (fC.out _)) (Xq.out _)).mono ?_;rintro e w5 ⟨rfl,G5⟩;have lu:=kH (HG.out.trans ((fC.out _).trans G5));have qx:=kH (Hr.ae G5 (CK.out _));have UY:=kH (Hr.ae ((fC.out _).trans G5) HM.out);have R5:Hid (w5.rangeAt (wr.heap.size) 1 (hL u.was)):=fun i v hv=>by rw[cr qx.out,apm];exact Jt.out.2 i v hv
      have hl5:=(gs qx.out).1;clear G5 CK fC Xq u0 oQ;go_wp2_with (refine gQ (by rfl) 43 _ rfl wr.heap.size 1 rfl (hL u.was) _ ?r2 underlying43 rfl (by rw[xD.out];exact iH) ?_;(case r2=>exact R5.out));refine(Cj.out _).mono ?_;rintro e w6 ⟨rfl,G6⟩;have oL:=kH (lu.out.trans G6);have Xt:=kH (Hr.ae G6 qx.out);have UZ:=kH (Hr.ae G6 UY.out);have m0:=iE UZ.out;clear G6 lu qx UY R5 Cj;go_wp2_with (refine ku (by rfl) 121 _ rfl wr.heap.size rfl 121 x.toArray (0,0) _ ?r3 underlying121 rfl (by rw[CU.out];exact iU) ?_;(case r3=>exact Xt.out));refine(Za.out _ oL.out).mono ?_;rintro e w7 ⟨rfl,G7⟩;have zB:=kH (oL.out.trans G7);have HU7:=kH (Hr.ae G7 Xt.out);have HM7:=kH (Hr.ae G7 UZ.out);clear G7 oL Xt UZ m0 Za;have k40:w7.cell? ⟨wr.heap.size,40,none⟩=some (.slice l1 l2 l3):=(cr HU7.out).trans (by rw[apm];exact ahQ.out);have rH:Hid (u.lost.length=l2):=HLS.out.len;go_wp2_with fail;go_loopw [38] (fun i ws=>∃q:Nat,q<=l2/\i=.int .i64 q/\(u.lost.take q).all (fun q=>decide (0<=q.1/\q.1<(hn:Int)))=true/\Gr w ws/\ws.heap[w.heap.size]?=some (.cells #[.slice ma mn mc,.slice ha hn hc] 28 (0,0))) (fun i _=>l2-(intOf i).toNat)
      case atStart=>exact⟨0,apF _,rfl,rfl,zB.out,HM7.out⟩
      case round=>
       obtain⟨q,hq',rfl,hall,G,KM⟩:=hrel;have HAq:Hid ((u.lost.take q).all (fun q=>decide (0<=q.1/\q.1<(hn:Int)))=true):=hall;have HGq:Hid (Gr w wr):=G;have HMq:Hid (wr.heap[w.heap.size]?=some (.cells #[.slice ma mn mc,.slice ha hn hc] 28 (0,0))):=KM;clear hall G KM k40 HU7;by_cases hlq:q<l2
       ·obtain⟨p,hp⟩:∃p,u.lost[q]?=some p:=⟨_,api (by rw[rH.out];exact hlq)⟩;obtain⟨b7,o7,rfl,hb7,hc7⟩:=HLS.out.spot (by omega);have z0:wr.cell? ⟨b7,o7+q*2,none⟩=some (.int .i64 p.1):=(HGq.out.cell _ (by exact hb7)).trans (hc7 q p hp).1;have z1:wr.cell? ⟨b7,o7+q*2+1,none⟩=some (.int .u32 p.2):=(HGq.out.cell _ (by exact hb7)).trans (hc7 q p hp).2;have HCq:Hid (∀W:World,Gr w W->W.heap[w.heap.size]?=some (.cells #[.slice ma mn mc,.slice ha hn hc] 28 (0,0))->Calls prog 70 #[.int .i64 p.1,.pointer (some ⟨w.heap.size,0,none⟩)] W fun e w'=>e=.returned (.bool (decide (0<=p.1/\p.1<hn)))/\Gr W w'):=HC.out p.1;have HTq:Hid ((u.lost.take (q+1)).all (fun q=>decide (0<=q.1/\q.1<(hn:Int)))=((u.lost.take q).all (fun q=>decide (0<=q.1/\q.1<(hn:Int))) && decide (0<=p.1/\p.1<(hn:Int)))):=pV _ _ _ _ hp;have HNq:Hid (decide (0<=p.1/\p.1<(hn:Int))=false->us.all (fB hn mn)=false):=fun h=>Xr.out (by rw[HF4.out];exact yH hp h)
        clear hc7 hp;obtain⟨p1,p2⟩:=p;simp only at *
        generalize decide (0<=p1/\p1<(hn:Int))=t5 at HCq HTq HNq;cases t5 with
        |false=>
         have nY:Hid (us.all (fB hn mn)=false):=HNq.out rfl;clear HNq HTq;go_wp2_with fail;refine(HCq.out _ (HGq.out.alloc _) (Hr.ae ((Gr.refl _).alloc _) HMq.out)).mono ?_;rintro e w8 ⟨rfl,G8⟩;have Ri:Hid (Gr w w8):=(HGq.out.alloc _).trans G8;clear G8 HCq z0 z1;go_wp2_with fail;go_ret;exact⟨l7 nY.out.symm,Ri.out⟩
        |true=>
         clear HNq;go_wp2_with fail;refine(HCq.out _ (HGq.out.alloc _) (Hr.ae ((Gr.refl _).alloc _) HMq.out)).mono ?_;rintro e w8 ⟨rfl,G8⟩;have Ri:Hid (Gr w w8):=(HGq.out.alloc _).trans G8;have HM8:Hid (w8.heap[w.heap.size]?=some (.cells #[.slice ma mn mc,.slice ha hn hc] 28 (0,0))):=Hr.ae (((Gr.refl _).alloc _).trans G8) HMq.out;clear G8 HCq z0 z1;go_wp2_with fail;go_roundw
         case rel=>exact⟨q+1,by omega,by go_num,by rw[HTq.out,HAq.out];rfl,Ri.out,HM8.out⟩
         case measure=>simp[intOf];omega
       ·have HYe:Hid ((us.take (j+1)).all (fB hn mn)=true):=by
         unfold Hid;rw[ED.out,HA.out,HF4.out];have:=HAq.out;rwa[ap0 (by rw[rH.out];omega)]at this
        clear HAq ED Xr HF4;go_wp2_with fail;go_roundw
        case rel=>exact⟨j+1,by omega,by go_num,HYe.out,HGq.out,HMq.out⟩
        case measure=>simp[intOf];omega
  ·have HYe:Hid (us.all (fB hn mn)=true):=by
    have:=HA.out;rwa[ap0 (by rw[HL.out];omega)]at this
   clear HA;go_wp2_with fail;go_ret;exact⟨l7 HYe.out.symm,HG.out⟩
end Ud
end Go.Proofs.YtiadhbmnfjfioaaGreatDoor
