/- ours -/
import Derived.Test.YtiadhbmnfjfioaaGreatDoorX27
set_option linter.unusedVariables false
set_option linter.unusedSimpArgs false
set_option maxHeartbeats 8000000
set_option maxRecDepth 100000
set_option linter.unusedSectionVars false
namespace Go.Proofs.YtiadhbmnfjfioaaGreatDoor
open Go.Proofs.Tryz hiding d1 d2 d3
open Go.ChangeShapes Go.WideShapes Go.ChangeAt Go.RowKit
variable [Inhabited Hc.bN]
namespace En
open Mm Hh Hc Mc

theorem EE {m:Nat}:∀(n:Nat) {x:Wk},AR x m→AR (wk x n) m
 |0,x,o=>o
 |n+1,x,o=>by
  by_cases h:x.h.state=0
  ·rw[uk h];exact EE n (yz o h)
  ·rw[yw h];exact o
structure Tn (s:Sh) (k n:Nat) (L:List Kc.Bv) (mn c ml j:Nat) (s':Sh) (L':List Kc.Bv) (iK:Nat):Prop where
 runs:runs s k n=Mc.runs s' k j
 fit:Fit s' c ml
 lo:mn<=iK
 hi:iK<=s'.steps
 out:s'.out.length<=s'.steps
 steps:s'.steps+j<=s.steps+n
 did:(j=n/\s'=s/\L'=L/\iK=mn)\/(L=[]->0<(Bk.blk s.m (at' s k).pc 16 0).length->mn<iK)
theorem Tn.on {s s':Sh}{k n mn c ml j iK cN m1:Nat}{L L' L1:List Kc.Bv}(T:Tn s k n L mn c ml j s' L' iK)(hk:k<c)(hc:(wk (w0 s' k) cN).n=cN/\0<cN/\cN<=j)(hm:iK<=m1/\m1<=iK+1/\(L'=[]->0<(Bk.blk s'.m (at' s' k).pc 16 0).length->iK<m1)):Tn s k n L mn c ml (j-cN) (tk s' k (wk (w0 s' k) cN)) L1 m1:=by
 have hl:k<s'.hs.length:=by rw[T.fit.len];exact hk
 have e:=pO hl cN;have o:=EE cN (pQ T.fit hk);have h1:=T.hi;have h2:=T.out;have h3:=T.steps;have h4:=T.lo;have o1:=o.out;obtain⟨c1,c2,c3⟩:=hc;obtain⟨m2,m3,m4⟩:=hm;have es:(tk s' k (wk (w0 s' k) cN)).steps=s'.steps+cN:=by show s'.steps+(wk (w0 s' k) cN).n=_;rw[c1]
 refine⟨?_,by rw[<-e];exact pK hk cN T.fit,by omega,by omega,?_,by omega,.inr fun hL hb=>?_⟩
 ·rw[T.runs,<-e,<-AQ,show cN+(j-cN)=j by omega]
 ·rw[es];show(s'.out++(wk (w0 s' k) cN).out).length<=_
  rw[apo];omega
 ·rcases T.did with⟨_,hs,hL',lU⟩|h
  ·have:=m4 (hL'.trans hL) (by rw[hs];exact hb);omega
  ·have:=h hL hb;omega
section
variable {w :World} {base g :Nat} {room :Int} {s :Sh} {L :List Kc.Bv} {pu sl :Int} {mn :Nat}
theorem uP (E:Ev 0 w base g room s L pu sl mn)(K:Ek room s.m L pu sl mn){b:Nat}(T:nI b w)(hbb:b<=base){c ml:Nat}(F:Fit s c ml)(lY:ml<=4096)(hc4:c<=4)(hr0:0<=room)(hr1:room<=64)(lU:mn<=s.steps)(hso:s.out.length<=s.steps)(hss:s.steps<=200000){k n:Nat}(hk:k<c)(hn:n<=400):Calls prog 25 #[.pointer (some ⟨g,0,none⟩),.agg #[.int .i64 k,.int .i64 n]] w fun e w'=>e=.returned (.tuple #[])/\(∃(L':List Kc.Bv) (kZ sl':Int) (iK:Nat),Ev 0 w' base g room (runs s k n) L' kZ sl' iK/\Ek room (runs s k n).m L' kZ sl' iK/\(mn<=iK/\iK<=(runs s k n).steps)/\(L=[]->0<n->(at' s k).state=0->0<(Bk.blk s.m (at' s k).pc 16 0).length->mn<iK))/\Below base w w':=by
 have HE:=kH E;have HK:=kH K;have HT:=kH T;have HF:=kH F;have hbl:base<=w.heap.size:=by
  obtain⟨_,_,_,_,_,_,_,_,_,E⟩:=E;exact E.ay
 have HT0:Hid (Tn s k n L mn c ml n s L mn):=⟨rfl,F,apn _,lU,hso,apn _,.inl ⟨rfl,rfl,rfl,rfl⟩⟩;clear E K T F lU hso;go_enter func25,ntmps25;go_wp2_with fail;go_loopw [] (fun wr=>∃(j:Nat) (s':Sh) (L':List Kc.Bv) (kZ sl':Int) (iK:Nat),j<=n/\wr.heap[w.heap.size]?=some (.cells #[.int .i64 k,.int .i64 j] 45 (0,0))/\Tn s k n L mn c ml j s' L' iK/\Ev 0 wr base g room s' L' kZ sl' iK/\Ek room s'.m L' kZ sl' iK/\Below base w wr) (fun wr=>match wr.cell? ⟨w.heap.size,1,none⟩with|some (.int _ z)=>z.toNat|_=>0)
 case atStart=>exact⟨n,s,L,pu,sl,mn,apn _,at5 w _,HT0.out,HE.out.of ((Gr.refl _).alloc _),HK.out,aun ((Gr.refl w).alloc _) hbl⟩
 case round=>
  obtain⟨j,s',L',kZ,sl',iK,hj,KP,T1,E1,K1,L1⟩:=hrel;have HP:=kH KP;have HT1:=kH T1;have EC:=kH E1;have Q7:=kH K1;have CJ:=kH L1;have hlw:=(apk.1 KP).1;have p0:wr.cell? ⟨w.heap.size,0,none⟩=some (.int .i64 k):=atZ _ _ _ _ _ _ KP;have p1:wr.cell? ⟨w.heap.size,1,none⟩=some (.int .i64 j):=atZ _ _ _ _ _ _ KP;have UE:Hid ((match wr.cell? ⟨w.heap.size,1,none⟩with|some (.int _ z)=>z.toNat|_=>0)=j):=by unfold Hid;rw[p1];simp
  obtain⟨M0,gh,hc,O0,a0,n0,cap0,mb0,D0,E0⟩:=E1;have hl:k<s'.hs.length:=by rw[T1.fit.len];exact hk
  have eh:s'.hs[k]?=some (at' s' k):=by unfold at';rw[api hl];simp[List.getD,hl]
  have jM:=E0.bw.row.ok _ (aps eh);have g1:wr.cell? ⟨g,1,none⟩=some (.slice (some ⟨gh,0,none⟩) c hc):=by have:=E0.bw.c1;rw[T1.fit.len]at this;exact this
  have c35:=(E0.bw.row.cell eh (by omega)).trans (aW jM 3);have hstp:s'.steps<=300000:=by have:=T1.steps;omega
  clear KP T1 K1 L1 E0 eh jM hl;by_cases hgo:0<j/\(at' s' k).state=0
  ·obtain⟨hj0,hst⟩:=hgo;have QW:Hid (∀W:World,Gr wr W->Calls prog 57 #[.pointer (some ⟨g,0,none⟩),.agg #[.int .i64 k,.int .i64 j]] W fun e w'=>∃(d:Qv) (cN:Nat) (L1:List Kc.Bv) (p1:Int) (m1:Nat),e=.returned (.agg (qA d))/\(Dq w' 0 d (wk (w0 s' k) cN)/\d.h.Ok)/\((wk (w0 s' k) cN).n=cN/\0<cN/\cN<=j)/\Ev 0 w' base g room s' L1 p1 sl' m1/\Ek room s'.m L1 p1 sl' m1/\(iK<=m1/\m1<=iK+1/\(L'=[]->0<(Bk.blk s'.m (at' s' k).pc 16 0).length->iK<m1))/\Fm base W w'):=fun W G=>by
    have:=HT1.out.hi;exact BO (EC.out.of G) Q7.out (HT.out.below (aun (CJ.out.trans (aun G (by omega))) hbb)) hbb HT1.out.fit lY hc4 hr0 hr1 (by omega) hk hj0 (by omega) hst
   rw[hst]at c35;clear hst;go_wp2_with fail;go_quiet (fail);go_wp2_with fail;refine(QW.out _ ((Gr.refl _).drewN _)).mono ?_;rintro e w2 ⟨d,cN,L1,q1,m1,rfl,⟨D2,okd⟩,hcN,E2,K2,hm1,F2⟩;have HD2:Hid (Dq w2 0 d (wk (w0 s' k) cN)/\d.h.Ok):=⟨D2,okd⟩;have zS:=kH okd;have HNn:=kH D2.n;have HcN:=kH hcN;have HE2:=kH E2;have F8:=kH K2;have HTn:Hid (∀L2,Tn s k n L mn c ml (j-cN) (tk s' k (wk (w0 s' k) cN)) L2 m1):=fun L2=>HT1.out.on hk hcN hm1
   have HL2:=kH (CJ.out.trans ((aun ((Gr.refl wr).drewN _) (by omega)).trans F2.below));have ny:=kH (F2.row HP.out (by decide));have ame:m1<=300001:=by have:=HT1.out.hi;have:=hm1.2.1;omega
   have HWo:Hid (AR (w0 s' k) ml/\AR (wk (w0 s' k) cN) ml):=⟨pQ HT1.out.fit hk,EE cN (pQ HT1.out.fit hk)⟩;have HFo:Hid (s'.hs.length=c/\s'.out.length<=s'.steps/\s'.steps<=300000):=⟨HT1.out.fit.len,HT1.out.out,hstp⟩;clear D2 okd hcN E2 K2 hm1 F2 QW HP HT1 EC Q7 CJ p0 p1 g1 c35 HT0 HE HK;obtain⟨QL,UF⟩:∃QL:List Value,Hid (qA d=QL.toArray):=⟨_,rfl⟩;have qw:=kH (fG HD2.out.2);have CQ:=kH (lW HD2.out.1.mem.cells.2 (az HD2.out.1.out).2.1 (az HD2.out.1.av).2.1);have HQl:Hid (QL.length=41):=by have:=qw.out;rw[UF.out,ap2]at this;exact this
   have HX3:Hid (∀Y:Array Value,Gr w2 ((w2.alloc (.cells Y 142)).setRow w2.heap.size (qA d))):=fun Y=>ag ((Gr.refl _).alloc _) (apn _) _
   have KN:Hid (∀Y:Array Value,((w2.alloc (.cells Y 142)).setRow w2.heap.size (qA d)).heap[w2.heap.size]?=some (.cells (qA d) 142 (0,0))):=fun Y=>aup _ _ _ _ _ (0,0) (at5 w2 _)
   have hl2:=(apk.1 ny.out).1;have z0:w2.cell? ⟨w.heap.size,0,none⟩=some (.int .i64 k):=atZ _ _ _ _ _ _ ny.out;go_wp2_with (refine auf rfl 142 _ _ rfl w2.heap.size (qA d) rfl rfl 142 _ (at5 w2 _) (by rw[qw.out];exact iQ) (by rw[qw.out];rfl) CQ.out ?_);refine aT (fun W=>W.heap[w2.heap.size]?=some (.cells (qA d) 142 (0,0))/\Gr w2 W) ⟨KN.out _,HX3.out _⟩ ?_;rintro W3 ⟨KO,G3⟩;obtain⟨o,ho⟩:∃o:Nat,o=w2.heap.size:=⟨_,rfl⟩;have hol:w.heap.size<o:=by omega
   have Gq:base<=o:=by omega
   rw[<-ho]at KO ⊢;have yD:=kH KO;have KS:=kH (Kc.aX G3 ny.out);have Q9:=kH (HE2.out.of G3);have HD3:=kH (HD2.out.1.gr G3);have HL3:=kH (HL2.out.trans (aun G3 (by omega)));clear KO G3 HX3 KN HE2 ny HL2 ho z0 hl2 hlw HD2;clear w2;have HS3:Hid (∀V:World,(∀(q:Nat) (x:Obj),W3.heap[q]?=some x->V.heap[q]?=some x)->(fun W=>W.cell? ⟨w.heap.size,0,none⟩=some (.int .i64 k)/\W.rangeAt o 0 QL) V):=fun V h=>⟨atZ _ _ _ _ _ _ (h _ _ KS.out),fun i v hv=>by rw[apu,atZ _ _ _ _ _ _ (h _ _ yD.out),UF.out,apm];exact hv⟩
   obtain⟨M0,gh,hc,O0,a0,n0,cap0,mb0,D0,E0⟩:=Q9.out;have HE0:=kH E0;have HTk:Hid (∀V:World,Gr W3 V->Calls prog 58 #[.pointer (some ⟨g,0,none⟩),.int .i64 k,.agg QL.toArray] V fun e w'=>e=.returned (.tuple #[])/\Bd 94 (rsE room a0 n0 cap0 q1 sl' mb0) w' base g (tk s' k (wk (w0 s' k) cN))/\Fe 94 base V w'):=fun V G=>by
    rw[<-UF.out];have o1:=HWo.out.2.out;have o2:=HWo.out.2.av;obtain⟨f1,f2,f3⟩:=HFo.out;obtain⟨d1,d2,d3⟩:=HcN.out;exact BL (HE0.out.of G).bw f1 hc4 (HD3.out.gr G) zS.out (fun p hp=>by have:=HWo.out.2.bd p hp;omega) (by omega) (by omega) (by omega) hk
   clear E0;refine aut (S:=fun W=>W.cell? ⟨w.heap.size,0,none⟩=some (.int .i64 k)/\W.rangeAt o 0 QL) (by kernel_rfl) ?_ (fun hHeld=>?_)
   ·exact HS3.out _ (fun q x h=>h)
   have aY:=kH hHeld;clear hHeld;refine tK 0 (.pointer (some ⟨g,0,none⟩)) aY.out ?_;refine tK 1 (.pointer (some ⟨g,0,none⟩)) aY.out ?_;refine tK 2 (.pointer (some ⟨g,0,none⟩)) aY.out ?_;refine tK 3 (.pointer (some ⟨w.heap.size,0,none⟩)) aY.out ?_;refine tK 4 (.int .i64 k) aY.out ?_;refine auF (i:=5) (v:=.agg QL.toArray) rfl (by kernel_rfl) (by kernel_rfl) (by kernel_rfl) (fun _ _ _ h=>h) (auN (by rfl) 142 (.tmp 4) rfl o 0 (by simp[Act.eval]) QL _ (fun W hW=>hW.2) underlying142 rfl (by rw[HQl.out];exact iQ)) aY.out ?_;simp only[apN,apP,apQ,Act.put,apl,apC,apy];refine aue (rs:=[6]) (by kernel_rfl) (by simp) ?_;refine aua rfl (fun K hK=>?_) aud;go_simp;refine(HTk.out _ (Gr.refl _).drew).mono ?_;rintro e w4 ⟨rfl,B4,F4⟩;have F4':Fe 94 base W3 w4:=⟨(Below.drew (auC base W3)).trans F4.below,F4.keep⟩;have Zn:=kH ((F4'.cells yD.out (by decide) (by decide) (by decide)).trans yD.out);have HP4:=kH ((F4'.cells KS.out (by decide) (by decide) (by decide)).trans KS.out);have Ra:=kH (HE0.out.take B4 F4');have Ua:=kH (HL3.out.trans F4'.below);have HSo:=kH (aj HD3.out.av fun q x f e=>F4'.cells e (by decide) (by decide) (by decide));clear B4 F4;refine hK.out _ _ ⟨atZ _ _ _ _ _ _ HP4.out,fun i v hv=>by rw[apu,atZ _ _ _ _ _ _ Zn.out,UF.out,apm];exact hv⟩ (fun hx=>?_);clear hK K hx;refine auy (by kernel_rfl) ?_ _;obtain⟨sa,sc,uO⟩:=(az HSo.out).2.2;have k40:w4.cell? ⟨o,40,none⟩=some (.slice sa (wk (w0 s' k) cN).av.length sc):=(atZ _ _ _ _ _ _ Zn.out).trans (by rw[jl zS.out 3];simp[uO]);have HDs:Hid (Calls prog 59 #[.pointer (some ⟨g,0,none⟩),.slice sa (wk (w0 s' k) cN).av.length sc] w4 fun e w'=>e=.returned (.tuple #[])/\(∃sl2,Ev 0 w' base g room (tk s' k (wk (w0 s' k) cN)) (cK (wk (w0 s' k) cN).av L1) q1 sl2 m1/\0<=sl2/\sl2+((cK (wk (w0 s' k) cN).av L1).length:Int)=sl'+(L1.length:Int))/\Fm base w4 w'):=by
    obtain⟨M4,gh4,amg,O4,a4,n4,cap4,mb4,D4,E4⟩:=Ra.out;have o2:=HWo.out.2.av;obtain⟨d1,d2,d3⟩:=HcN.out;have x1:=F8.out.cnt;have x2:=F8.out.p0;have x3:=F8.out.s0;exact BP E4 (F8.out.same hr1) x3 (by omega) (by have:=HSo.out;rw[uO]at this;exact this) rfl (by omega) (fun p hp=>by have:=HWo.out.2.bd p hp;omega)
   have HNu:Hid (w4.cell? ⟨o,39,none⟩=some (.int .i64 cN)):=(atZ _ _ _ _ _ _ Zn.out).trans (by rw[jl zS.out 2];simp[HNn.out,HcN.out.1]);clear uO HSo HTk HS3 aY HE0 yD KS Q9 HD3 HL3 Ra;generalize(wk (w0 s' k) cN).av.length=m at *
   go_wp2_with fail;refine au0 HDs.out ?_;rintro e w5 ⟨rfl,⟨sl2,E5,h50,Yt⟩,F5⟩;have Gp:Hid (Ev 0 w5 base g room (tk s' k (wk (w0 s' k) cN)) (cK (wk (w0 s' k) cN).av L1) q1 sl2 m1):=E5;have HK5:Hid (Ek room (tk s' k (wk (w0 s' k) cN)).m (cK (wk (w0 s' k) cN).av L1) q1 sl2 m1):=F8.out.work lY HWo.out.1 h50 Yt;have QZ:Hid (w5.heap[w.heap.size]?=some (.cells #[.int .i64 k,.int .i64 j] 45 (0,0))):=F5.row HP4.out (by decide);have HO5:Hid (w5.heap[o]?=some (.cells (qA d) 142 (0,0))):=F5.row Zn.out (by decide);have Xg:Hid (Below base w w5):=Ua.out.trans F5.below;have b1:w5.cell? ⟨w.heap.size,1,none⟩=some (.int .i64 j):=atZ _ _ _ _ _ _ QZ.out;have fb1:w5.frozen? ⟨w.heap.size,1,none⟩=false:=aus _ _ _ _ _ QZ.out;have o39:w5.cell? ⟨o,39,none⟩=some (.int .i64 cN):=(atZ _ _ _ _ _ _ HO5.out).trans (by rw[jl zS.out 2];simp[HNn.out,HcN.out.1]);obtain⟨d1,d2,d3⟩:=HcN.out;have HRw:Hid ((w5.setCell ⟨w.heap.size,1,none⟩ (.int .i64 ((j:Int)-(cN:Int)))).heap[w.heap.size]?=some (.cells #[.int .i64 k,.int .i64 ((j-cN:Nat):Int)] 45 (0,0))):=by
    unfold Hid;rw[aul _ _ _ _ _ _ QZ.out,show((j-cN:Nat):Int)=(j:Int)-(cN:Int)by omega];rfl
   have HEw:Hid (Ev 0 (w5.setCell ⟨w.heap.size,1,none⟩ (.int .i64 ((j:Int)-(cN:Int)))) base g room (tk s' k (wk (w0 s' k) cN)) (cK (wk (w0 s' k) cN).av L1) q1 sl2 m1):=Gp.out.oth QZ.out (by decide) fun q hq=>auv _ _ _ _ (by exact hq)
   have HLw:Hid (Below base w (w5.setCell ⟨w.heap.size,1,none⟩ (.int .i64 ((j:Int)-(cN:Int))))):=auS Xg.out (by exact hbl) _;clear E5 F5 HDs k40 HNu HP4 Zn Ua h50 Yt d1;go_wp2_with fail;go_roundw
   case rel=>exact⟨j-cN,tk s' k (wk (w0 s' k) cN),_,q1,sl2,m1,by omega,HRw.out,HTn.out _,HEw.out,HK5.out,HLw.out⟩
   case measure=>
    rw[UE.out,atZ _ _ _ _ _ _ HRw.out];simp;omega
  ·have HE2:Hid (runs s k n=s'):=by
    unfold Hid;rw[HT1.out.runs];by_cases h1:0<j
    ·exact qO (fun e=>hgo ⟨h1,e⟩) _
    ·rw[show j=0 by omega];rfl
   have Xm:Hid (∃(L':List Kc.Bv) (kZ sl':Int) (iK:Nat),Ev 0 wr base g room (runs s k n) L' kZ sl' iK/\Ek room (runs s k n).m L' kZ sl' iK/\(mn<=iK/\iK<=(runs s k n).steps)/\(L=[]->0<n->(at' s k).state=0->0<(Bk.blk s.m (at' s k).pc 16 0).length->mn<iK)):=by
    rw[HE2.out];refine⟨L',kZ,sl',iK,EC.out,Q7.out,⟨HT1.out.lo,HT1.out.hi⟩,fun h1 h2 h3 h4=>?_⟩;rcases HT1.out.did with⟨x1,x2,_,_⟩|h
    ·exact absurd ⟨by omega,by rw[x2];exact h3⟩ hgo
    ·exact h h1 h4
   have hc2:¬0<j\/(0<j/\((at' s' k).state ==0)=false):=by
    by_cases h1:0<j
    ·exact .inr ⟨h1,by simpa using fun e=>hgo ⟨h1,e⟩⟩
    ·exact .inl h1
   clear hgo HE2 HT1 EC Q7 HP HT0 HE HK;rcases hc2 with h1|⟨h1,h2⟩
   ·have ej:j=0:=by omega
    subst ej;clear h1;go_wp2_with fail;go_quiet (fail);go_wp2_with fail;go_end0;refine⟨rfl,?_,CJ.out.trans (aun ((Gr.refl wr).drewN _) (by omega))⟩;obtain⟨x1,x2,x3,x4,x5,x6⟩:=Xm.out;exact⟨x1,x2,x3,x4,x5.of ((Gr.refl _).drewN _),x6⟩
   ·generalize(at' s' k).state=st at *
    go_wp2_with fail;go_quiet (fail);go_wp2_with fail;go_end0;refine⟨rfl,?_,CJ.out.trans (aun ((Gr.refl wr).drewN _) (by omega))⟩;obtain⟨x1,x2,x3,x4,x5,x6⟩:=Xm.out;exact⟨x1,x2,x3,x4,x5.of ((Gr.refl _).drewN _),x6⟩
end
end En
namespace Mc
open Mm Hh Hc

theorem Gt {m:Nat}:∀(n:Nat) {x:Wk},AR x m→AR (wk x n) m∧(wk x n).n≤x.n+n
 |0,x,o=>⟨o,apn _⟩
 |n+1,x,o=>by
  unfold wk;split
  ·rename_i h;have:=Gt n (yz o h);refine⟨this.1,?_⟩;have h2:=this.2;have:(FU x).n=x.n+1:=rfl;omega
  ·exact⟨o,by omega⟩
def Few (s:Sh) (t:Nat):Prop:=s.out.length<=s.steps/\s.steps<=t
theorem OB {s:Sh}{t m n k:Nat}{x:Wk}(f:Few s t)(o:AR x m)(h:x.n<=n):Few (tk s k x) (t+n):=by
 unfold Few tk at *
 have:=o.out;simp only[apo];omega
def nums (ps:List (Int×Int)):List (Nat×Nat):=ps.map fun p=>(p.1.toNat,p.2.toNat)
theorem BQ {ps:List (Int×Int)}{j:Nat}{p:Int×Int}(h:ps[j]?=some p):(nums ps).take (j+1)=(nums ps).take j++[(p.1.toNat,p.2.toNat)]:=by refine je ?_;unfold nums;rw[apT,h];rfl
theorem kE {m:List UInt8}{hs:List Hv}{ps:List (Int×Int)}(h:wrong m hs ps=0):m.length<=4096/\1<=hs.length/\hs.length<=4/\(∀h∈hs,may h=true)/\ps.length<=300/\∀p∈ps,0<=p.1/\p.1<hs.length/\0<=p.2/\p.2<=400:=by
 unfold wrong at h;split at h
 ·omega
 split at h
 ·omega
 split at h
 ·omega
 split at h
 ·omega
 rename_i h1 h2 h3 h4;refine⟨by omega,by omega,by omega,?_,by omega,fun p hp=>?_⟩
 ·simpa using h2
 ·have:=(apM.1 (by simpa using h4)) p hp;simpa[jk]using this
theorem bP.lt {w:World}{g:Nat}{hs:List Hv}(r:bP w g hs):g<w.heap.size:=by obtain⟨_,e⟩:=r.row;exact(apk.1 e).1
theorem bP.hs {w:World}{g c:Nat}{hs:List Hv}(r:bP w g hs)(h:hs.length=c):Hs w (some ⟨g,0,none⟩) c hs:=⟨h,r.ok,fun _=>⟨g,0,rfl,r.lt,fun i q hq=>by rw[apu];exact r.range hq⟩⟩
def Shn (w:World) (v:Value) (c mn:Nat) (S:Sh):Prop:=∃ma mc ha hc oa oc,v=.agg #[.slice ma mn mc,.slice ha c hc,.slice oa S.out.length oc,.int .i64 S.steps]/\Mem w ma mn S.m/\(ma=none->mc=0)/\Hs w ha c S.hs/\Wm w oa S.out.length S.out/\(oa=none->oc=0)
def ShO (w:World) (v:Value) (c mn:Nat) (S:Sh):Prop:=∃ma mc gh hc oa oc,v=.agg #[.slice ma mn mc,.slice (some ⟨gh,0,none⟩) c hc,.slice oa S.out.length oc,.int .i64 S.steps]/\Own w Hc.mb (.slice ma mn mc) S.m/\Hc.mb<=gh/\bP w gh S.hs/\Zh w gh hc/\Wm w oa S.out.length S.out/\(oa=none->oc=0)/\S.m.length=mn/\S.hs.length=c
theorem mh {w:World}{base e sz n c:Nat}{a:Option Addr}{xs:List Value}(h:w.ownsRow base e sz (.slice a n c) n xs):a=none->c=0:=by
 rintro rfl;rcases h.2 with⟨h,_⟩|⟨g,cap,cur,h,_⟩
 ·injection h
 ·cases h
theorem xC {a b c:World}{n:Nat}(h:Gr a b)(k:Below n b c)(hn:a.heap.size<=n):Gr a c:=auI h (aun k hn)
theorem Gu {w:World}{va oa:Option Addr}{vc gh hc oc c mn base:Nat}{S:Sh}(h1:Own w Hc.mb (.slice va mn vc) S.m)(hm:S.m.length=mn)(h2:bP w gh S.hs)(hz:Zh w gh hc/\Hc.mb<=gh)(hl:S.hs.length=c)(h3:w.ownsRow base 37 1 (.slice oa S.out.length oc) S.out.length (S.out.map (Value.int .u32))):ShO w (.agg #[.slice va mn vc,.slice (some ⟨gh,0,none⟩) c hc,.slice oa S.out.length oc,.int .i64 S.steps]) c mn S:=by obtain⟨a2,b2,e2,W⟩:=M6 rfl h3;injection e2 with e6 e7 e8;subst e6;exact⟨_,_,_,_,_,_,rfl,h1,hz.2,h2,hz.1,W,mh h3,hm,hl⟩
theorem iS:(prog.info? 47).map (·.size)=some 4:=by kernel_rfl
end Mc
namespace En
open Mm Hh Hc Mc

theorem BU (w:World):Shn w (.agg #[.slice none 0 0,.slice none 0 0,.slice none 0 0,.int .i64 0]) 0 0 ⟨[],[],[],0⟩:=⟨none,0,none,0,none,0,rfl,⟨rfl,fun _=>rfl,fun ad e=>by cases e⟩,fun _=>rfl,⟨rfl,fun h hm=>(by cases hm),fun h=>absurd h (by omega)⟩,⟨rfl,fun _=>rfl,fun ad e=>by cases e⟩,fun _=>rfl⟩
def aah (w:World) (ma ha pa:Option Addr) (mn mc hn hc pn pc:Nat) (room E:Int):Prop:=∀W:World,Gr w W->Calls prog 12 #[.agg #[.slice ma mn mc,.slice ha hn hc],.slice pa pn pc,.int .i64 room] W fun e w'=>∃v a c,e=.returned (.tuple #[v,.agg #[.int .i64 0,.slice a 0 c,.int .i64 0,.int .i64 0],.int .i64 E])/\Shn w' v 0 0 ⟨[],[],[],0⟩/\Gr W w'
def ad1 (w:World) (ma ha pa:Option Addr) (mn mc hn hc pn pc:Nat) (room:Int) (S:Sh) (F:List Kc.Bv->Int->Int->Prop):Prop:=∀W:World,Gr w W->Calls prog 12 #[.agg #[.slice ma mn mc,.slice ha hn hc],.slice pa pn pc,.int .i64 room] W fun e w'=>∃v a m c pu sl L,e=.returned (.tuple #[v,.agg #[.int .i64 room,.slice a m c,.int .i64 pu,.int .i64 sl],.int .i64 0])/\ShO w' v hn mn S/\(Kc.Bs w' a m L/\m<=c/\F L pu sl)/\Gr W w'
end En
end Go.Proofs.YtiadhbmnfjfioaaGreatDoor
