/- ours -/
import Derived.Test.YtiadhbmnfjfioaaGreatDoorU05
set_option linter.unusedVariables false
set_option linter.unusedSimpArgs false
set_option maxHeartbeats 8000000
set_option maxRecDepth 100000
set_option linter.unusedSectionVars false
namespace Go.Proofs.YtiadhbmnfjfioaaGreatDoor
open Go.Value (int slice pointer agg tuple string)
open Go.IntKind (i64)
open Go.Ending (returned)
open Go.Obj (cells)
open Go.Operand (tmp)
open Go.Proofs.Tryz hiding cs d1 d2 d3 d4 d5 t0 t1 t2 t3 t4 t5
open Go.ChangeShapes Go.WideShapes Go.ChangeAt Go.RowKit
variable{K:Act->World->Prop}{ops:Array Oper}{Y:Array Value}{fr:Bool}{fn:Func}{pu sl:Int}{ps ls:List (Int×Int)}{t l s L:List Nat}{rest:List Oper}{m:List UInt8}{xs cs x rs:List Value}{k n mn c ml j jq b g base e sz hn pn pc u ty ub:Nat}{f:Nat×Nat}{o:Oper}{a ma ha pa:Option Addr}{P:Program}{E:Prop}{v:Value}{w w':World}{p:World->Prop}
namespace En
variable[Inhabited Hc.bH]
open Mm Hh Hc Mc
theorem Gx {m:Nat}:∀(n:Nat) {x:Wk},CX x m→CX (wk x n) m
 |0,x,o=>o
 |n+1,x,o=>by
  by_cases h:x.h.state=0
  ·rw[vM h];exact Gx n (zN o h)
  ·rw[zL h];exact o
structure Tn (s:Sh) (k n:Nat) (L:List Kc.Bv) (mn c ml j:Nat) (s':Sh) (L':List Kc.Bv) (jq:Nat):Prop where
 runs:runs s k n=Mc.runs s' k j
 fit:Fit s' c ml
 lo:mn<=jq
 hi:jq<=s'.steps
 out:s'.out.length<=s'.steps
 steps:s'.steps+j<=s.steps+n
 did:(j=n/\s'=s/\L'=L/\jq=mn)\/(L=[]->0<(Bk.blk s.m (at' s k).pc 16 0).length->mn<jq)
theorem Tn.on {s s'}{cN m1}{L L' L1}(T:Tn s k n L mn c ml j s' L' jq)(hk:k<c)(hc:(wk (w0 s' k) cN).n=cN/\0<cN/\cN<=j)(hm:jq<=m1/\m1<=jq+1/\(L'=[]->0<(Bk.blk s'.m (at' s' k).pc 16 0).length->jq<m1)):Tn s k n L mn c ml (j-cN) (tk s' k (wk (w0 s' k) cN)) L1 m1:=by
 have hl:k<s'.hs.length:=by rw[T.fit.len];exact hk
 have e:=qR hl cN;have o:=Gx cN (qV T.fit hk);have h1:=T.hi;have h2:=T.out;have h3:=T.steps;have h4:=T.lo;have o1:=o.out;obtain⟨c1,c2,c3⟩:=hc;obtain⟨m2,m3,m4⟩:=hm;have es:(tk s' k (wk (w0 s' k) cN)).steps=s'.steps+cN:=by show s'.steps+(wk (w0 s' k) cN).n=_;rw[c1]
 refine⟨?_,by rw[<-e];exact qP hk cN T.fit,ab,ab,?_,ab,.inr fun hL hb=>?_⟩
 ·rw[T.runs,<-e,<-CW,show cN+(j-cN)=j by omega]
 ·rw[es];show(s'.out++(wk (w0 s' k) cN).out).length<=_
  rw[ary];omega
 ·rcases T.did with⟨_,hs,hL',ni⟩|h
  ·have:=m4 (hL'.trans hL) (by rw[hs];exact hb);omega
  ·have:=h hL hb;omega
section
variable{room:Int}{s:Sh}{L:List Kc.Bv}
theorem wK (E:Ev 0 w base g room s L pu sl mn)(K:Ek room s.m L pu sl mn)(T:oZ b w)(hbb:b<=base)(F:Fit s c ml)(nC:ml<=4096)(hc4:c<=4)(hr0:0<=room)(hr1:room<=64)(ni:mn<=s.steps)(hso:s.out.length<=s.steps)(hss:s.steps<=200000)(hk:k<c)(hn:n<=400):Calls prog 25 #[pointer (some ⟨g,0,none⟩),agg #[int i64 k,int i64 n]] w fun e w'=>e=returned (tuple #[])/\(∃(L':List Kc.Bv) (mK sl':Int) (jq:Nat),Ev 0 w' base g room (runs s k n) L' mK sl' jq/\Ek room (runs s k n).m L' mK sl' jq/\(mn<=jq/\jq<=(runs s k n).steps)/\(L=[]->0<n->(at' s k).state=0->0<(Bk.blk s.m (at' s k).pc 16 0).length->mn<jq))/\Below base w w':=by
 have HE:=kH E;have HK:=kH K;have HT:=kH T;have HF:=kH F;have hbl:base<=w.heap.size:=by
  obtain⟨_,_,_,_,_,_,_,_,_,E⟩:=E;exact E.az
 have HT0:Hid (Tn s k n L mn c ml n s L mn):=⟨rfl,F,arA _,ni,hso,arA _,.inl ⟨rfl,rfl,rfl,rfl⟩⟩;clear E K T F ni hso;go_enter func25,ntmps25;go_wp2_with fail;go_loopw [] (fun wr=>∃(j:Nat) (s':Sh) (L':List Kc.Bv) (mK sl':Int) (jq:Nat),j<=n/\wr.heap[w.heap.size]?=some (cells #[int i64 k,int i64 j] 45 (0,0))/\Tn s k n L mn c ml j s' L' jq/\Ev 0 wr base g room s' L' mK sl' jq/\Ek room s'.m L' mK sl' jq/\Below base w wr) (fun wr=>match wr.cell? ⟨w.heap.size,1,none⟩with|some (int _ z)=>z.toNat|_=>0)
 case atStart=>exact⟨n,s,L,pu,sl,mn,arA _,awk w _,HT0,HE.of br,HK,awH ((Gr.refl w).alloc _) hbl⟩
 case round=>
  obtain⟨j,s',L',mK,sl',jq,hj,KP,T1,E1,K1,L1⟩:=hrel;have HP:=kH KP;have HT1:=kH T1;have Gv:=kH E1;have DN:=kH K1;have EK:=kH L1;have hlw:=(arz.1 KP).1;have p0:wr.cell? ⟨w.heap.size,0,none⟩=some (int i64 k):=awl _ _ _ _ _ _ KP;have p1:wr.cell? ⟨w.heap.size,1,none⟩=some (int i64 j):=awl _ _ _ _ _ _ KP;have Xw:Hid ((match wr.cell? ⟨w.heap.size,1,none⟩with|some (int _ z)=>z.toNat|_=>0)=j):=by unfold Hid;rw[p1];simp
  obtain⟨M0,gh,hc,O0,a0,n0,cap0,mb0,D0,E0⟩:=E1;have hl:k<s'.hs.length:=by rw[T1.fit.len];exact hk
  have eh:s'.hs[k]?=some (at' s' k):=by unfold at';rw[arq hl];simp[List.getD,hl]
  have kS:=E0.bw.row.ok _ (arE eh);have g1:wr.cell? ⟨g,1,none⟩=some (slice (some ⟨gh,0,none⟩) c hc):=by have:=E0.bw.c1;rw[T1.fit.len]at this;exact this
  have c35:=(E0.bw.row.cell eh ab).trans (bu kS 3);have hstp:s'.steps<=300000:=by have:=T1.steps;omega
  clear KP T1 K1 L1 E0 eh kS hl;by_cases hgo:0<j/\(at' s' k).state=0
  ·obtain⟨hj0,hst⟩:=hgo;have Uy:Hid (∀W:World,Gr wr W->Calls prog 57 #[pointer (some ⟨g,0,none⟩),agg #[int i64 k,int i64 j]] W fun e w'=>∃(d:Qv) (cN:Nat) (L1:List Kc.Bv) (p1:Int) (m1:Nat),e=returned (agg (qA d))/\(Dq w' 0 d (wk (w0 s' k) cN)/\d.h.Ok)/\((wk (w0 s' k) cN).n=cN/\0<cN/\cN<=j)/\Ev 0 w' base g room s' L1 p1 sl' m1/\Ek room s'.m L1 p1 sl' m1/\(jq<=m1/\m1<=jq+1/\(L'=[]->0<(Bk.blk s'.m (at' s' k).pc 16 0).length->jq<m1))/\Fm base W w'):=fun W G=>by
    have:=HT1.hi;exact DX (Gv.of G) DN (HT.below (awH (EK.trans (awH G ab)) hbb)) hbb HT1.fit nC hc4 hr0 hr1 ab hk hj0 ab hst
   rw[hst]at c35;clear hst;go_wp2_with fail;go_quiet (fail);go_wp2_with fail;refine(Uy _ ((Gr.refl _).drewN _)).mono ?_;rintro e w2 ⟨d,cN,L1,q1,m1,rfl,⟨D2,okd⟩,hcN,E2,K2,hm1,F2⟩;have HD2:Hid (Dq w2 0 d (wk (w0 s' k) cN)/\d.h.Ok):=⟨D2,okd⟩;have BQ:=kH okd;have HNn:=kH D2.n;have HcN:=kH hcN;have HE2:=kH E2;have I9:=kH K2;have HTn:Hid (∀L2,Tn s k n L mn c ml (j-cN) (tk s' k (wk (w0 s' k) cN)) L2 m1):=fun L2=>HT1.on hk hcN hm1
   have HL2:=kH (EK.trans ((awH ((Gr.refl wr).drewN _) ab).trans F2.below));have oJ:=kH (F2.row HP an);have aor:m1<=300001:=by have:=HT1.hi;have:=hm1.2.1;omega
   have HWo:Hid (CX (w0 s' k) ml/\CX (wk (w0 s' k) cN) ml):=⟨qV HT1.fit hk,Gx cN (qV HT1.fit hk)⟩;have HFo:Hid (s'.hs.length=c/\s'.out.length<=s'.steps/\s'.steps<=300000):=⟨HT1.out.fit.len,HT1.out.out,hstp⟩;clear D2 okd hcN E2 K2 hm1 F2 Uy HP HT1 Gv DN EK p0 p1 g1 c35 HT0 HE HK;obtain⟨QL,Ra⟩:∃QL:List Value,Hid (qA d=QL.toArray):=⟨_,rfl⟩;have rP:=kH (gq HD2.2);have EO:=kH (ny HD2.1.mem.cells.2 (au HD2.1.out).2.1 (au HD2.1.ax).2.1);have HQl:Hid (QL.length=41):=by have:=rP;rw[Ra.out,asb]at this;exact this
   have HX3:Hid (∀Y:Array Value,Gr w2 ((w2.alloc (cells Y 142)).setRow w2.heap.size (qA d))):=fun Y=>ag br (arA _) _
   have I5:Hid (∀Y:Array Value,((w2.alloc (cells Y 142)).setRow w2.heap.size (qA d)).heap[w2.heap.size]?=some (cells (qA d) 142 (0,0))):=fun Y=>awJ _ _ _ _ _ (0,0) (awk w2 _)
   have hl2:=(arz.1 oJ).1;have z0:w2.cell? ⟨w.heap.size,0,none⟩=some (int i64 k):=awl _ _ _ _ _ _ oJ;go_wp2_with (refine awx rfl 142 _ _ rfl w2.heap.size (qA d) rfl rfl 142 _ (awk w2 _) (by rw[rP.out];exact iQ) (by rw[rP.out];rfl) EO ?_);refine aK (fun W=>W.heap[w2.heap.size]?=some (cells (qA d) 142 (0,0))/\Gr w2 W) ⟨I5 _,HX3 _⟩ ?_;rintro W3 ⟨KO,G3⟩;obtain⟨o,ho⟩:∃o:Nat,o=w2.heap.size:=⟨_,rfl⟩;have hol:w.heap.size<o:=ab;have Jl:base<=o:=ab;rw[<-ho]at KO ⊢;have zS:=kH KO;have NH:=kH (Kc.bB G3 oJ.out);have UD:=kH (HE2.out.of G3);have HD3:=kH (HD2.out.1.gr G3);have HL3:=kH (HL2.out.trans (awH G3 ab));clear KO G3 HX3 I5 HE2 oJ HL2 ho z0 hl2 hlw HD2;clear w2;have HS3:Hid (∀V:World,(∀(q:Nat) (x:Obj),W3.heap[q]?=some x->V.heap[q]?=some x)->(fun W=>W.cell? ⟨w.heap.size,0,none⟩=some (int i64 k)/\W.rangeAt o 0 QL) V):=fun V h=>⟨awl _ _ _ _ _ _ (h _ _ NH.out),fun i v hv=>by rw[arH,awl _ _ _ _ _ _ (h _ _ zS.out),Ra.out,arB];exact hv⟩
   obtain⟨M0,gh,hc,O0,a0,n0,cap0,mb0,D0,E0⟩:=UD.out;have HE0:=kH E0;have HTk:Hid (∀V:World,Gr W3 V->Calls prog 58 #[pointer (some ⟨g,0,none⟩),int i64 k,agg QL.toArray] V fun e w'=>e=returned (tuple #[])/\Bd 94 (rsE room a0 n0 cap0 q1 sl' mb0) w' base g (tk s' k (wk (w0 s' k) cN))/\Fe 94 base V w'):=fun V G=>by
    rw[<-Ra.out];have o1:=HWo.out.2.out;have o2:=HWo.out.2.ax;obtain⟨f1,f2,f3⟩:=HFo.out;obtain⟨d1,d2,d3⟩:=HcN.out;exact DT (HE0.out.of G).bw f1 hc4 (HD3.out.gr G) BQ.out (fun p hp=>by have:=HWo.out.2.bd p hp;omega) ab ab ab hk
   clear E0;refine awN (S:=fun W=>W.cell? ⟨w.heap.size,0,none⟩=some (int i64 k)/\W.rangeAt o 0 QL) al ?_ (fun hHeld=>?_)
   ·exact HS3.out _ (fun q x h=>h)
   have bA:=kH hHeld;clear hHeld;refine tK 0 (pointer (some ⟨g,0,none⟩)) bA.out ?_;refine tK 1 (pointer (some ⟨g,0,none⟩)) bA.out ?_;refine tK 2 (pointer (some ⟨g,0,none⟩)) bA.out ?_;refine tK 3 (pointer (some ⟨w.heap.size,0,none⟩)) bA.out ?_;refine tK 4 (int i64 k) bA.out ?_;refine aw1 (i:=5) (v:=agg QL.toArray) rfl al al al (fun _ _ _ h=>h) (aw9 (by rfl) 142 (tmp 4) rfl o 0 aw QL _ (fun W hW=>hW.2) underlying142 rfl (by rw[HQl.out];exact iQ)) bA.out ?_;simp only[arx,aru,arv,Act.put,arp,art,ars];refine aww (rs:=[6]) al aq ?_;refine awp rfl (fun K hK=>?_) awu;go_simp;refine(HTk.out _ (Gr.refl _).drew).mono ?_;rintro e w4 ⟨rfl,B4,F4⟩;have F4':Fe 94 base W3 w4:=⟨(Below.drew (awX base W3)).trans F4.below,F4.keep⟩;have HO4:=kH ((F4'.cells zS.out an an an).trans zS.out);have HP4:=kH ((F4'.cells NH.out an an an).trans NH.out);have UE:=kH (HE0.out.take B4 F4');have Xf:=kH (HL3.out.trans F4'.below);have HSo:=kH (aj HD3.out.ax fun q x f e=>F4'.cells e an an an);clear B4 F4;refine hK.out _ _ ⟨awl _ _ _ _ _ _ HP4.out,fun i v hv=>by rw[arH,awl _ _ _ _ _ _ HO4.out,Ra.out,arB];exact hv⟩ (fun hx=>?_);clear hK K hx;refine awT al ?_ _;obtain⟨sa,sc,wJ⟩:=(au HSo.out).2.2;have k40:w4.cell? ⟨o,40,none⟩=some (slice sa (wk (w0 s' k) cN).ax.length sc):=(awl _ _ _ _ _ _ HO4.out).trans (by rw[jT BQ.out 3];simp[wJ]);have HDs:Hid (Calls prog 59 #[pointer (some ⟨g,0,none⟩),slice sa (wk (w0 s' k) cN).ax.length sc] w4 fun e w'=>e=returned (tuple #[])/\(∃sl2,Ev 0 w' base g room (tk s' k (wk (w0 s' k) cN)) (dw (wk (w0 s' k) cN).ax L1) q1 sl2 m1/\0<=sl2/\sl2+((dw (wk (w0 s' k) cN).ax L1).length:Int)=sl'+(L1.length:Int))/\Fm base w4 w'):=by
    obtain⟨M4,gh4,aot,O4,a4,n4,cap4,mb4,D4,E4⟩:=UE.out;have o2:=HWo.out.2.ax;obtain⟨d1,d2,d3⟩:=HcN.out;have x1:=I9.out.cnt;have x2:=I9.out.p0;have x3:=I9.out.s0;exact DY E4 (I9.out.same hr1) x3 ab (by have:=HSo.out;rw[wJ]at this;exact this) rfl ab (fun p hp=>by have:=HWo.out.2.bd p hp;omega)
   have HNu:Hid (w4.cell? ⟨o,39,none⟩=some (int i64 cN)):=(awl _ _ _ _ _ _ HO4.out).trans (by rw[jT BQ.out 2];simp[HNn.out,HcN.out.1]);clear wJ HSo HTk HS3 bA HE0 zS NH UD HD3 HL3 UE;generalize(wk (w0 s' k) cN).ax.length=m at *
   go_wp2_with fail;refine axj HDs.out ?_;rintro e w5 ⟨rfl,⟨sl2,E5,h50,h51⟩,F5⟩;have Jj:Hid (Ev 0 w5 base g room (tk s' k (wk (w0 s' k) cN)) (dw (wk (w0 s' k) cN).ax L1) q1 sl2 m1):=E5;have HK5:Hid (Ek room (tk s' k (wk (w0 s' k) cN)).m (dw (wk (w0 s' k) cN).ax L1) q1 sl2 m1):=I9.out.work nC HWo.out.1 h50 h51;have UB:Hid (w5.heap[w.heap.size]?=some (cells #[int i64 k,int i64 j] 45 (0,0))):=F5.row HP4.out an;have HO5:Hid (w5.heap[o]?=some (cells (qA d) 142 (0,0))):=F5.row HO4.out an;have Zx:Hid (Below base w w5):=Xf.out.trans F5.below;have b1:w5.cell? ⟨w.heap.size,1,none⟩=some (int i64 j):=awl _ _ _ _ _ _ UB.out;have fb1:w5.frozen? ⟨w.heap.size,1,none⟩=false:=awM _ _ _ _ _ UB.out;have o39:w5.cell? ⟨o,39,none⟩=some (int i64 cN):=(awl _ _ _ _ _ _ HO5.out).trans (by rw[jT BQ.out 2];simp[HNn.out,HcN.out.1]);obtain⟨d1,d2,d3⟩:=HcN.out;have HRw:Hid ((w5.setCell ⟨w.heap.size,1,none⟩ (int i64 ((j:Int)-(cN:Int)))).heap[w.heap.size]?=some (cells #[int i64 k,int i64 ((j-cN:Nat):Int)] 45 (0,0))):=by
    unfold Hid;rw[awE _ _ _ _ _ _ UB.out,show((j-cN:Nat):Int)=(j:Int)-(cN:Int)by omega];rfl
   have HEw:Hid (Ev 0 (w5.setCell ⟨w.heap.size,1,none⟩ (int i64 ((j:Int)-(cN:Int)))) base g room (tk s' k (wk (w0 s' k) cN)) (dw (wk (w0 s' k) cN).ax L1) q1 sl2 m1):=Jj.out.oth UB.out an fun q hq=>awR _ _ _ _ (by exact hq)
   have HLw:Hid (Below base w (w5.setCell ⟨w.heap.size,1,none⟩ (int i64 ((j:Int)-(cN:Int))))):=axc Zx.out (by exact hbl) _;clear E5 F5 HDs k40 HNu HP4 HO4 Xf h50 h51 d1;go_wp2_with fail;go_roundw
   case rel=>exact⟨j-cN,tk s' k (wk (w0 s' k) cN),_,q1,sl2,m1,ab,HRw.out,HTn.out _,HEw.out,HK5.out,HLw.out⟩
   case measure=>
    rw[Xw.out,awl _ _ _ _ _ _ HRw.out];simp;omega
  ·have HE2:Hid (runs s k n=s'):=by
    unfold Hid;rw[HT1.out.runs];by_cases h1:0<j
    ·exact sG (fun e=>hgo ⟨h1,e⟩) _
    ·rw[show j=0 by omega];rfl
   have ZE:Hid (∃(L':List Kc.Bv) (mK sl':Int) (jq:Nat),Ev 0 wr base g room (runs s k n) L' mK sl' jq/\Ek room (runs s k n).m L' mK sl' jq/\(mn<=jq/\jq<=(runs s k n).steps)/\(L=[]->0<n->(at' s k).state=0->0<(Bk.blk s.m (at' s k).pc 16 0).length->mn<jq)):=by
    rw[HE2.out];refine⟨L',mK,sl',jq,Gv.out,DN.out,⟨HT1.out.lo,HT1.out.hi⟩,fun h1 h2 h3 h4=>?_⟩;rcases HT1.out.did with⟨x1,x2,_,_⟩|h
    ·exact absurd ⟨ab,by rw[x2];exact h3⟩ hgo
    ·exact h h1 h4
   have hc2:¬0<j\/(0<j/\((at' s' k).state ==0)=false):=by
    by_cases h1:0<j
    ·exact .inr ⟨h1,by simpa using fun e=>hgo ⟨h1,e⟩⟩
    ·exact .inl h1
   clear hgo HE2 HT1 Gv DN HP HT0 HE HK;rcases hc2 with h1|⟨h1,h2⟩
   ·have ej:j=0:=ab;subst ej;clear h1;go_wp2_with fail;go_quiet (fail);go_wp2_with fail;go_end0;refine⟨rfl,?_,EK.out.trans (awH ((Gr.refl wr).drewN _) ab)⟩;obtain⟨x1,x2,x3,x4,x5,x6⟩:=ZE.out;exact⟨x1,x2,x3,x4,x5.of ((Gr.refl _).drewN _),x6⟩
   ·generalize(at' s' k).state=st at *
    go_wp2_with fail;go_quiet (fail);go_wp2_with fail;go_end0;refine⟨rfl,?_,EK.out.trans (awH ((Gr.refl wr).drewN _) ab)⟩;obtain⟨x1,x2,x3,x4,x5,x6⟩:=ZE.out;exact⟨x1,x2,x3,x4,x5.of ((Gr.refl _).drewN _),x6⟩
end
end En
namespace Mc
variable[Inhabited Hc.bH]
open Mm Hh Hc
theorem Jm {m:Nat}:∀(n:Nat) {x:Wk},CX x m→CX (wk x n) m∧(wk x n).n≤x.n+n
 |0,x,o=>⟨o,arA _⟩
 |n+1,x,o=>by
  unfold wk;split
  ·rename_i h;have:=Jm n (zN o h);refine⟨this.1,?_⟩;have h2:=this.2;have:(IV x).n=x.n+1:=rfl;omega
  ·exact⟨o,ab⟩
def Few (s:Sh) (t:Nat):Prop:=s.out.length<=s.steps/\s.steps<=t
theorem Rb {s}{t m}{x}(f:Few s t)(o:CX x m)(h:x.n<=n):Few (tk s k x) (t+n):=by
 unfold Few tk at *
 have:=o.out;simp only[ary];omega
def nums (ps:List (Int×Int)):List (Nat×Nat):=ps.map fun p=>(p.1.toNat,p.2.toNat)
theorem DZ {p}(h:ps[j]?=some p):(nums ps).take (j+1)=(nums ps).take j++[(p.1.toNat,p.2.toNat)]:=by refine jO ?_;unfold nums;rw[ar3,h];rfl
theorem lT {hs}(h:wrong m hs ps=0):m.length<=4096/\1<=hs.length/\hs.length<=4/\(∀h∈hs,may h=true)/\ps.length<=300/\∀p∈ps,0<=p.1/\p.1<hs.length/\0<=p.2/\p.2<=400:=by
 unfold wrong at h;split at h
 ·omega
 split at h
 ·omega
 split at h
 ·omega
 split at h
 ·omega
 rename_i h1 h2 h3 h4;refine⟨ab,ab,ab,?_,ab,fun p hp=>?_⟩
 ·simpa using h2
 ·have:=(ar0.1 (by simpa using h4)) p hp;simpa[jS]using this
theorem bY.lt {hs}(r:bY w g hs):g<w.heap.size:=by obtain⟨_,e⟩:=r.row;exact(arz.1 e).1
theorem bY.hs {w}{g c}{hs}(r:bY w g hs)(h:hs.length=c):Hs w (some ⟨g,0,none⟩) c hs:=⟨h,r.ok,fun _=>⟨g,0,rfl,r.lt,fun i q hq=>by rw[arH];exact r.range hq⟩⟩
def Shn (w:World) (v:Value) (c mn:Nat) (S:Sh):Prop:=∃ma mc ha hc oa oc,v=agg #[slice ma mn mc,slice ha c hc,slice oa S.out.length oc,int i64 S.steps]/\Mem w ma mn S.m/\(ma=none->mc=0)/\Hs w ha c S.hs/\Wm w oa S.out.length S.out/\(oa=none->oc=0)
def ShO (w:World) (v:Value) (c mn:Nat) (S:Sh):Prop:=∃ma mc gh hc oa oc,v=agg #[slice ma mn mc,slice (some ⟨gh,0,none⟩) c hc,slice oa S.out.length oc,int i64 S.steps]/\Own w Hc.mb (slice ma mn mc) S.m/\Hc.mb<=gh/\bY w gh S.hs/\Zh w gh hc/\Wm w oa S.out.length S.out/\(oa=none->oc=0)/\S.m.length=mn/\S.hs.length=c
theorem nM (h:w.ownsRow base e sz (slice a n c) n xs):a=none->c=0:=by
 rintro rfl;rcases h.2 with⟨h,_⟩|⟨g,cap,cur,h,_⟩
 ·injection h
 ·cases h
theorem yP {a b c}(h:Gr a b)(k:Below n b c)(hn:a.heap.size<=n):Gr a c:=aw2 h (awH k hn)
theorem Jn {w}{va oa}{vc gh hc oc c mn base}{S}(h1:Own w Hc.mb (slice va mn vc) S.m)(hm:S.m.length=mn)(h2:bY w gh S.hs)(hz:Zh w gh hc/\Hc.mb<=gh)(hl:S.hs.length=c)(h3:w.ownsRow base 37 1 (slice oa S.out.length oc) S.out.length (S.out.map (Value.int .u32))):ShO w (agg #[slice va mn vc,slice (some ⟨gh,0,none⟩) c hc,slice oa S.out.length oc,int i64 S.steps]) c mn S:=by obtain⟨a2,b2,e2,W⟩:=PW rfl h3;injection e2 with e6 e7 e8;subst e6;exact⟨_,_,_,_,_,_,rfl,h1,hz.2,h2,hz.1,W,nM h3,hm,hl⟩
theorem iS:(prog.info? 47).map (·.size)=some 4:=al
end Mc
namespace En
variable[Inhabited Hc.bH]
open Mm Hh Hc Mc
theorem D7 (w):Shn w (agg #[slice none 0 0,slice none 0 0,slice none 0 0,int i64 0]) 0 0 ⟨[],[],[],0⟩:=⟨none,0,none,0,none,0,rfl,⟨rfl,fun _=>rfl,fun ad e=>by cases e⟩,fun _=>rfl,⟨rfl,fun h hm=>(by cases hm),fun h=>absurd h ab⟩,⟨rfl,fun _=>rfl,fun ad e=>by cases e⟩,fun _=>rfl⟩
def acD (w:World) (ma ha pa:Option Addr) (mn mc hn hc pn pc:Nat) (room E:Int):Prop:=∀W:World,Gr w W->Calls prog 12 #[agg #[slice ma mn mc,slice ha hn hc],slice pa pn pc,int i64 room] W fun e w'=>∃v a c,e=returned (tuple #[v,agg #[int i64 0,slice a 0 c,int i64 0,int i64 0],int i64 E])/\Shn w' v 0 0 ⟨[],[],[],0⟩/\Gr W w'
def af8 (w:World) (ma ha pa:Option Addr) (mn mc hn hc pn pc:Nat) (room:Int) (S:Sh) (F:List Kc.Bv->Int->Int->Prop):Prop:=∀W:World,Gr w W->Calls prog 12 #[agg #[slice ma mn mc,slice ha hn hc],slice pa pn pc,int i64 room] W fun e w'=>∃v a m c pu sl L,e=returned (tuple #[v,agg #[int i64 room,slice a m c,int i64 pu,int i64 sl],int i64 0])/\ShO w' v hn mn S/\(Kc.Bs w' a m L/\m<=c/\F L pu sl)/\Gr W w'
end En
namespace En
variable[Inhabited Hc.bH]
open Mm Hh Hc Mc
theorem nN {p1 p2 t}{ty1 ty2}(h:fn.results=#[.cell p1 ty1,.cell p2 ty2,.tmp t])(tmps:Array Value)(w:World)(g1 g2)(tt1 tt2)(cs1 cs2)(fr1 fr2)(d1 d2)
  (v)(hp1:tmps.getD p1 undef=.pointer (some ⟨g1,0,none⟩))(hp2:tmps.getD p2 undef=.pointer (some ⟨g2,0,none⟩))(hv:tmps.getD t undef=v)(hg1:w.heap[g1]?=some (.cells cs1 tt1 fr1))(hg2:w.heap[g2]?=some (.cells cs2 tt2 fr2))
  (hu1:P.underlying ty1=some d1)(hd1:(match d1 with|.struct _|.array _ _=>true|_=>false)=true)(hi1:(P.info? ty1).map (·.size)=some cs1.size)
  (hu2:P.underlying ty2=some d2)(hd2:(match d2 with|.struct _|.array _ _=>true|_=>false)=true)(hi2:(P.info? ty2).map (·.size)=some cs2.size):
  (results fn tmps).run P w=.ok (.tuple #[.agg cs1,.agg cs2,v]) w:=by
 subst hv;have hp1':tmps[p1]?.getD undef=.pointer (some ⟨g1,0,none⟩):=by simpa using hp1
 have ajL:tmps[p2]?.getD undef=.pointer (some ⟨g2,0,none⟩):=by simpa using hp2
 simp[results,h,hp1',ajL,asAddr,axn w g1 tt1 ty1 cs1 fr1 d1 hg1 hu1 hd1 hi1,axn w g2 tt2 ty2 cs2 fr2 d2 hg2 hu2 hd2 hi2]
theorem wL {A B C}{t1 t2 t3:Nat}(G:Gr (((w.alloc (cells A t1)).alloc (cells B t2)).alloc (cells C t3)) w'):w'.heap[w.heap.size]?=some (cells A t1 (0,0))/\w'.heap[w.heap.size+1]?=some (cells B t2 (0,0))/\w'.heap[w.heap.size+1+1]?=some (cells C t3 (0,0)):=by
 have e1:(w.alloc (cells A t1)).heap.size=w.heap.size+1:=aq;have e2:((w.alloc (cells A t1)).alloc (cells B t2)).heap.size=w.heap.size+1+1:=aq;have a:=awk w (cells A t1);have b:=awk (w.alloc (cells A t1)) (cells B t2);have c:=awk ((w.alloc (cells A t1)).alloc (cells B t2)) (cells C t3);rw[e1]at b;rw[e2]at c;exact⟨Kc.bB (Gr.trans (br.alloc _) G) a,Kc.bB (Gr.trans br G) b,Kc.bB G c⟩
theorem Ri:(prog.info? 47).map (·.size)=some 4:=al
theorem acE (mc hc pc){hs}(mn)(room)(ni:m.length=mn)(H:Hs w ha hn hs)(P:Ps w pa pn ps)(b1:mn<=140737488351232)(b2:hn<=140737488351232)(b3:pn<=140737488351232)(hno:¬wrong m hs ps=0):acD w ma ha pa mn mc hn hc pn pc room (wrong m hs ps):=by
 intro W0 G0;have HN:Hid (∀W:World,Gr W0 W->Calls prog 22 #[agg #[slice ma mn mc,slice ha hn hc],slice pa pn pc] W fun e w'=>e=returned (tuple #[agg #[slice none 0 0,slice none 0 0,slice none 0 0,int i64 0],int i64 (wrong m hs ps)])/\Gr W w'):=fun W G=>uf mc hc pc mn ni (H.of (G0.trans G)) (P.of (G0.trans G)) b1 b2 b3 hno
 clear H P ni G0;generalize wrong m hs ps=E at *
 have hE:(E !=0)=true:=by simpa using hno
 clear hno;refine axj (R:=fun e w'=>e=returned (tuple #[agg #[slice none 0 0,slice none 0 0,slice none 0 0,int i64 0],agg #[int i64 0,slice none 0 0,int i64 0,int i64 0],int i64 E])/\Gr W0 w') ?_ (fun e w' h=>⟨_,none,0,h.1,D7 _,h.2⟩);go_enter func12,ntmps12;go_wp2_with fail;refine(HN _ ((br.alloc _).alloc _)).mono ?_;rintro e w1 ⟨rfl,G1⟩;obtain⟨_,u1,u2⟩:=wL G1;have uj:=kH u1;have uF:=kH u2;have aU:=kH (((br.alloc _).alloc _).trans G1);have HA1:Hid (∀Y:Array Value,(w1.alloc (cells Y 84)).heap[W0.heap.size+1]?=some (cells #[slice none 0 0,slice none 0 0,slice none 0 0,int i64 0] 47 (0,0))):=fun Y=>Kc.bB br uj
 have HA2:Hid (∀Y Z:Array Value,((w1.alloc (cells Y 84)).setRow (W0.heap.size+1) Z).heap[W0.heap.size+1+1]?=some (cells #[int i64 0,slice none 0 0,int i64 0,int i64 0] 54 (0,0))):=fun Y Z=>(awI _ _ _ _ ab).trans (Kc.bB br uF)
 go_wp2_with (first
  |(refine awx rfl 47 _ _ rfl (W0.heap.size+1) #[slice none 0 0,slice none 0 0,slice none 0 0,int i64 0] rfl rfl 47 #[slice none 0 0,slice none 0 0,slice none 0 0,int i64 0] ?rr1 Ri rfl al ?_;(case rr1=>exact HA1 _))
  |(refine awx rfl 54 _ _ rfl (W0.heap.size+1+1) #[int i64 0,slice none 0 0,int i64 0,int i64 0] rfl rfl 54 #[int i64 0,slice none 0 0,int i64 0,int i64 0] ?rr2 Kc.xB rfl al ?_;(case rr2=>exact HA2 _ _)))
 refine awt (v:=tuple #[agg #[slice none 0 0,slice none 0 0,slice none 0 0,int i64 0],agg #[int i64 0,slice none 0 0,int i64 0,int i64 0],int i64 E]) (nN results12 _ _ (W0.heap.size+1) (W0.heap.size+1+1) 47 54 #[slice none 0 0,slice none 0 0,slice none 0 0,int i64 0] #[int i64 0,slice none 0 0,int i64 0,int i64 0] (0,0) (0,0) _ _ _ rfl rfl rfl ((awI _ _ _ _ ab).trans (awJ _ _ _ _ _ (0,0) (HA1 _))) (awJ _ _ _ _ _ (0,0) (HA2 _ _)) underlying47 rfl Ri underlying54 rfl Kc.xB) rfl ⟨rfl,?_⟩;exact ag (ag (aU.alloc _) ab _) ab _
theorem Xx (mc hc pc){hs}(mn)(room)(M:Mem w ma mn m)(hcap:ma=none->mc=0)(H:Hs w ha hn hs)(P:Ps w pa pn ps)(hy:wrong m hs ps=0)(hr:room<0\/¬room<0/\64<room)(Xy:Hc.mb<=w.heap.size):acD w ma ha pa mn mc hn hc pn pc room 3:=by
 intro W0 G0;obtain⟨b1,b2,b4,_,b3,_⟩:=lT hy;have nC:=M.len;have ZF:=H.len;have hpl:=P.len;have HN:Hid (∀W:World,Gr W0 W->Calls prog 22 #[agg #[slice ma mn mc,slice ha hn hc],slice pa pn pc] W fun e w'=>∃a c gh hc,e=returned (tuple #[agg #[slice a mn c,slice (some ⟨gh,0,none⟩) hn hc,slice none 0 0,int i64 0],int i64 0])/\Own w' Hc.mb (slice a mn c) m/\W.heap.size<=gh/\(bY w' gh hs/\Zh w' gh hc)/\Gr W w'):=fun W G=>mE mc hc pc mn (M.of (G0.trans G)) hcap (H.of (G0.trans G)) (P.of (G0.trans G)) ab hy ab ab ab (arF Xy (arF G0.size G.size))
 have uR:Hid (∀W:World,Calls prog 24 #[int i64 room] W fun e w'=>e=returned (tuple #[agg #[int i64 0,slice none 0 0,int i64 0,int i64 0],int i64 3])/\Gr W w'):=fun W=>Kc.Ja W room 0 3 (by rcases hr with h|⟨h1,h2⟩;exact .inl ⟨h,rfl,rfl⟩;exact .inr (.inl ⟨h1,h2,rfl,rfl⟩))
 refine axj (R:=fun e w'=>e=returned (tuple #[agg #[slice none 0 0,slice none 0 0,slice none 0 0,int i64 0],agg #[int i64 0,slice none 0 0,int i64 0,int i64 0],int i64 3])/\Gr W0 w') ?_ (fun e w' h=>⟨_,none,0,h.1,D7 _,h.2⟩);go_enter func12,ntmps12;go_wp2_with fail;refine(HN _ ((br.alloc _).alloc _)).mono ?_;rintro e w1 ⟨a1,c1,gh,hc1,rfl,_,_,_,G1⟩;obtain⟨_,u1,u2⟩:=wL G1;have uj:=kH u1;have uF:=kH u2;have aU:=kH (((br.alloc _).alloc _).trans G1);go_wp2_with fail;refine(uR _).mono ?_;rintro e w2 ⟨rfl,G2⟩;have HG2:=kH (((Gr.refl w1).alloc _).trans G2);have HA1:Hid (∀Y:Array Value,(w2.alloc (cells Y 54)).heap[W0.heap.size+1]?=some (cells #[slice none 0 0,slice none 0 0,slice none 0 0,int i64 0] 47 (0,0))):=fun Y=>Kc.bB (HG2.alloc _) uj
 have HA2:Hid (∀Y Z:Array Value,((w2.alloc (cells Y 54)).setRow (W0.heap.size+1) Z).heap[W0.heap.size+1+1]?=some (cells #[int i64 0,slice none 0 0,int i64 0,int i64 0] 54 (0,0))):=fun Y Z=>(awI _ _ _ _ ab).trans (Kc.bB (HG2.alloc _) uF)
 go_wp2_with (first
  |(refine awx rfl 47 _ _ rfl (W0.heap.size+1) #[slice none 0 0,slice none 0 0,slice none 0 0,int i64 0] rfl rfl 47 #[slice none 0 0,slice none 0 0,slice none 0 0,int i64 0] ?rr1 Ri rfl al ?_;(case rr1=>exact HA1 _))
  |(refine awx rfl 54 _ _ rfl (W0.heap.size+1+1) #[int i64 0,slice none 0 0,int i64 0,int i64 0] rfl rfl 54 #[int i64 0,slice none 0 0,int i64 0,int i64 0] ?rr2 Kc.xB rfl al ?_;(case rr2=>exact HA2 _ _)))
 refine awt (v:=tuple #[agg #[slice none 0 0,slice none 0 0,slice none 0 0,int i64 0],agg #[int i64 0,slice none 0 0,int i64 0,int i64 0],int i64 3]) (nN results12 _ _ (W0.heap.size+1) (W0.heap.size+1+1) 47 54 #[slice none 0 0,slice none 0 0,slice none 0 0,int i64 0] #[int i64 0,slice none 0 0,int i64 0,int i64 0] (0,0) (0,0) _ _ _ rfl rfl rfl ((awI _ _ _ _ ab).trans (awJ _ _ _ _ _ (0,0) (HA1 _))) (awJ _ _ _ _ _ (0,0) (HA2 _ _)) underlying47 rfl Ri underlying54 rfl Kc.xB) rfl ⟨rfl,?_⟩;exact ag (ag ((aU.trans HG2).alloc _) ab _) ab _
structure Rj (m:List UInt8) (hs:List Hv) (ps:List (Int×Int)) (room:Int) (j:Nat) (L:List Kc.Bv) (pu sl:Int) (jq:Nat):Prop where
 ek:Ek room (aP ⟨hs,m,[],0⟩ ((nums ps).take j)).m L pu sl jq
 hi:jq<=(aP ⟨hs,m,[],0⟩ ((nums ps).take j)).steps
 few:Few (aP ⟨hs,m,[],0⟩ ((nums ps).take j)) (400*j)
 none:j=0->L=[]/\jq=0
 did:0<j->Wz m hs ps->0<jq
theorem Rj.on {hs}{room}{L L'}{mK sl'}{m2}(R:Rj m hs ps room j L pu sl jq)(F:Fit (aP ⟨hs,m,[],0⟩ ((nums ps).take j)) hn mn)(hk:k<hn)(hn4:n≤400)(hp:ps[j]?=some ((k:Int),(n:Int)))(K:Ek room (runs (aP ⟨hs,m,[],0⟩ ((nums ps).take j)) k n).m L' mK sl' m2)(h1:jq<=m2/\m2<=(runs (aP ⟨hs,m,[],0⟩ ((nums ps).take j)) k n).steps)(h2:L=[]->0<n->(at' (aP ⟨hs,m,[],0⟩ ((nums ps).take j)) k).state=0->0<(Bk.blk (aP ⟨hs,m,[],0⟩ ((nums ps).take j)).m (at' (aP ⟨hs,m,[],0⟩ ((nums ps).take j)) k).pc 16 0).length->jq<m2):aP ⟨hs,m,[],0⟩ ((nums ps).take (j+1))=runs (aP ⟨hs,m,[],0⟩ ((nums ps).take j)) k n/\Rj m hs ps room (j+1) L' mK sl' m2:=by
 have e:aP ⟨hs,m,[],0⟩ ((nums ps).take (j+1))=runs (aP ⟨hs,m,[],0⟩ ((nums ps).take j)) k n:=by
  rw[DZ hp,vL,jM];simp only[arS];rfl
 refine⟨e,by rw[e];exact K,by rw[e];exact h1.2,?_,fun h=>absurd h ab,fun _ D=>?_⟩
 ·rw[e,qR (by rw[F.len];exact hk) n,show 400*(j+1)=400*j+400 by omega];have:=Jm n (qV F hk);have e0:(w0 (aP ⟨hs,m,[],0⟩ ((nums ps).take j)) k).n=0:=rfl;exact Rb R.few this.1 ab
 ·by_cases hj:j=0
  ·subst hj;obtain⟨hL,hm⟩:=R.none rfl;obtain⟨p,h,d1,d2,d3,d4,d5⟩:=D;rw[hp]at d1;injection d1 with d1;subst d1;simp only[arS]at d3 d2;have ea:at' (aP ⟨hs,m,[],0⟩ ((nums ps).take 0)) k=h:=by
    show hs.getD k hN=h
    simp[List.getD,d3]
   have:=h2 hL ab (by rw[ea];exact d4) (by rw[ea];exact d5);omega
  ·have:=R.did ab D;omega
theorem Rj.kept {hs}{room}{L}(R:Rj m hs ps room j L pu sl jq)(hj:ps.length<=j):Kept room (aP ⟨hs,m,[],0⟩ ((nums ps).take j)).m (Wz m hs ps) L pu sl:=by
 refine⟨R.ek.cok,R.ek.fresh,fun _ D=>?_⟩;have h0:0<j:=by
  obtain⟨p,h,d1,_⟩:=D;have:=(arw.1 d1).1;omega
 have h1:=R.did h0 D;have h2:=R.ek.cnt;have h3:=R.ek.p0;have h4:=R.ek.s0;by_cases hL:L=[]
 ·subst hL;simp at h2;omega
 ·exact .inl hL
theorem Xz (mc hc pc){hs}(mn)(room)(T:oZ w.heap.size w)(M:Mem w ma mn m)(hcap:ma=none->mc=0)(H:Hs w ha hn hs)(P:Ps w pa pn ps)(hy:wrong m hs ps=0)(hr0:0<=room)(hr1:room<=64)(Xy:Hc.mb<=w.heap.size):af8 w ma ha pa mn mc hn hc pn pc room (aP ⟨hs,m,[],0⟩ (nums ps)) (Kept room (aP ⟨hs,m,[],0⟩ (nums ps)).m (Wz m hs ps)):=by
 intro W0 G0;obtain⟨b1,b2,b4,AO,b3,hpk⟩:=lT hy;have nC:=M.len;have ZF:=H.len;have hpl:=P.len;have HN:Hid (∀W:World,Gr W0 W->Calls prog 22 #[.agg #[.slice ma mn mc,.slice ha hn hc],.slice pa pn pc] W fun e w'=>∃a c gh hc,e=.returned (.tuple #[.agg #[.slice a mn c,.slice (some ⟨gh,0,none⟩) hn hc,.slice none 0 0,.int .i64 0],.int .i64 0])/\Own w' Hc.mb (.slice a mn c) m/\W.heap.size<=gh/\(bY w' gh hs/\Zh w' gh hc)/\Gr W w'):=fun W G=>mE mc hc pc mn (M.of (G0.trans G)) hcap (H.of (G0.trans G)) (P.of (G0.trans G)) ab hy ab ab ab (arF Xy (arF G0.size G.size))
 have uR:Hid (∀W:World,_):=fun W=>Kc.Ja W room room 0 (.inr (.inr ⟨ab,ab,rfl,rfl⟩))
 have HF0:Hid (Fit ⟨hs,m,[],0⟩ hn mn):=⟨ZF,nC,fun h hm=>⟨H.ok h hm,AO h hm⟩⟩;have HP:=kH (P.of G0);have zZ:=kH hpl;have HPK:Hid (∀p∈ps,0<=p.1/\p.1<hn/\0<=p.2/\p.2<=400):=by rw[ZF]at hpk;exact hpk
 have wY:=kH ZF;have HT:=kH (T.below G0);have hw0:=G0.size;have ajO:=kH (arF Xy G0.size);have c4:hn<=4:=ab;have m4:mn<=4096:=ab;have p4:pn<=300:=ab;obtain⟨tb,htb⟩:∃tb:Nat,tb=w.heap.size:=⟨_,rfl⟩;rw[<-htb]at HT hw0;have hmm:=@run_makeMap prog;go_enter func12,ntmps12;go_wp2_with fail;refine(HN _ ((br.alloc _).alloc _)).mono ?_;rintro e w1 ⟨a1,c1,gh,hc1,rfl,O1,hgh,R1,G1⟩;obtain⟨_,u1,u2⟩:=wL G1;have uj:=kH u1;have uF:=kH u2;have aU:=kH (((br.alloc _).alloc _).trans G1);have WN:=kH O1;have HR1:=kH R1.1;have HZ1:=kH R1.2;have XA:W0.heap.size+3<=gh:=by simpa using hgh
 go_wp2_with fail;refine(uR _).mono ?_;rintro e w2 ⟨rfl,G2⟩;have HG2:=kH (((Gr.refl w1).alloc _).trans G2);have HB2:=kH (Kc.bB G2 (awk w1 _));have k0:∀o,(w2.alloc o).cell? ⟨w1.heap.size,0,none⟩=some (.slice a1 mn c1):=fun o=>awl _ _ _ _ _ _ (Kc.bB br HB2)
 have k1:∀o,(w2.alloc o).cell? ⟨w1.heap.size,1,none⟩=some (.slice (some ⟨gh,0,none⟩) hn hc1):=fun o=>awl _ _ _ _ _ _ (Kc.bB br HB2)
 have k2:∀o,(w2.alloc o).cell? ⟨w1.heap.size,2,none⟩=some (.slice none 0 0):=fun o=>awl _ _ _ _ _ _ (Kc.bB br HB2)
 have k3:∀o,(w2.alloc o).cell? ⟨w1.heap.size,3,none⟩=some (.int .i64 0):=fun o=>awl _ _ _ _ _ _ (Kc.bB br HB2)
 go_wp2_with fail;obtain⟨g,hg⟩:∃g:Nat,g=w2.heap.size+1+1:=⟨_,rfl⟩;obtain⟨mb,hmb⟩:∃mb:Nat,mb=w2.heap.size+1:=⟨_,rfl⟩;refine Kc.Dn (fun W=>Ew 0 W (W0.heap.size+3) g room (.slice a1 mn c1) gh hc1 (.slice none 0 0) none 0 0 mb 0 (.map []) ⟨hs,m,[],0⟩ [] 0 0/\W.heap[W0.heap.size+1]?=some (.cells #[.slice none 0 0,.slice none 0 0,.slice none 0 0,.int .i64 0] 47 (0,0))/\W.heap[W0.heap.size+1+1]?=some (.cells #[.int .i64 0,.slice none 0 0,.int .i64 0,.int .i64 0] 54 (0,0))/\Gr W0 W) ?_ ?_
 ·have hs1:W0.heap.size+2<w1.heap.size:=by have:=(arz.1 uF).1;omega
  have hs2:=HG2.size;have e1:(w2.alloc (.cells #[.int .i64 room,.slice none 0 0,.int .i64 0,.int .i64 0] 54)).heap.size=w2.heap.size+1:=aq;have e2:((w2.alloc (.cells #[.int .i64 room,.slice none 0 0,.int .i64 0,.int .i64 0] 54)).alloc (.map #[] 0)).heap.size=w2.heap.size+1+1:=aq;have GA:∀o1 o2 o3:Obj,Gr w1 (((w2.alloc o1).alloc o2).alloc o3):=fun o1 o2 o3=>((HG2.alloc _).alloc _).alloc _
  have hblk:=awk ((w2.alloc (.cells #[.int .i64 room,.slice none 0 0,.int .i64 0,.int .i64 0] 54)).alloc (.map #[] 0)) (.cells #[.slice a1 mn c1,.slice (some ⟨gh,0,none⟩) hn hc1,.slice none 0 0,.int .i64 0,.int .i64 room,.slice none 0 0,.int .i64 0,.int .i64 0,.map (some (w2.heap.size+1))] 94);have hmap:=(World.ownsMap_made (w2.alloc (.cells #[.int .i64 room,.slice none 0 0,.int .i64 0,.int .i64 0] 54)) prog 37 Rh).alloc (.cells #[.slice a1 mn c1,.slice (some ⟨gh,0,none⟩) hn hc1,.slice none 0 0,.int .i64 0,.int .i64 room,.slice none 0 0,.int .i64 0,.int .i64 0,.map (some (w2.heap.size+1))] 94);rw[e2]at hblk;rw[e1]at hmap;refine⟨⟨⟨an,an,an,ab,?_,iO WN (GA _ _ _),XA,HR1.of (GA _ _ _),awG _ _ _ _,⟨HZ1.of (GA _ _ _),by have:=ajO;omega⟩⟩,Kc.Qs _ _ _,arA _,ab,?_,fun b hb=>(by cases hb)⟩,Kc.bB (GA _ _ _) uj,Kc.bB (GA _ _ _) uF,aU.trans (GA _ _ _)⟩
  ·rw[hg,hmb];show _=some (Obj.cells #[.slice a1 mn c1,.slice (some ⟨gh,0,none⟩) hs.length hc1,.slice none 0 0,.int .i64 ((0:Nat):Int),.int .i64 room,.slice none 0 0,.int .i64 0,.int .i64 0,.map (some (w2.heap.size+1))] 94 (0,0))
   rw[wY.out];exact hblk
  ·rw[hmb];exact hmap
 rw[<-hg,<-hmb];clear hg hmb k0 k1 k2 k3 HB2 HG2 uj uF aU WN HR1 XA hmm;rintro W3 ⟨E3,u1,u2,G3⟩;have uj:=kH u1;have uF:=kH u2;have eO:=kH G3;have UD:Hid (Ev 0 W3 (W0.heap.size+3) g room ⟨hs,m,[],0⟩ [] 0 0 0):=⟨_,_,_,_,_,_,_,_,_,E3⟩;have hb3:W0.heap.size+3<=W3.heap.size:=E3.az;have HR0:Hid (Rj m hs ps room 0 [] 0 0 0):=⟨Ek.nil hr0 _,arQ _,⟨arA _,arA _⟩,fun _=>⟨rfl,rfl⟩,fun h=>absurd h ab⟩;have HGx:Hid (∀V:World,Below (W0.heap.size+3) W3 V->Gr W0 V/\V.heap[W0.heap.size+1]?=some (.cells #[.slice none 0 0,.slice none 0 0,.slice none 0 0,.int .i64 0] 47 (0,0))/\V.heap[W0.heap.size+1+1]?=some (.cells #[.int .i64 0,.slice none 0 0,.int .i64 0,.int .i64 0] 54 (0,0))):=fun V B=>⟨yP eO B ab,(B.block _ ab).trans uj,(B.block _ ab).trans uF⟩
 have EP:Hid (∀j,Fit (aP ⟨hs,m,[],0⟩ ((nums ps).take j)) hn mn):=fun j=>qQ _ (fun q hq=>by
  obtain⟨r,hr,rfl⟩:=arY.1 (asP hq);have:=HPK r hr;show r.1.toNat<hn
  omega) HF0
 clear u1 u2 G3 E3 uj uF eO HF0 wY;go_loopw [42] (fun i wr=>∃j:Nat,j<=pn/\i=.int .i64 j/\(∃L pu sl jq,Ev 0 wr (W0.heap.size+3) g room (aP ⟨hs,m,[],0⟩ ((nums ps).take j)) L pu sl jq/\Rj m hs ps room j L pu sl jq)/\Below (W0.heap.size+3) W3 wr) (fun i _=>pn-(intOf i).toNat)
 case atStart=>exact⟨0,arQ _,rfl,⟨[],0,0,0,UD,HR0⟩,awX _ _⟩
 case round=>
  obtain⟨j,hj,rfl,⟨L,pu,sl,jq,E4,R4⟩,B4⟩:=hrel;have UE:=kH E4;have HR4:=kH R4;have uC:=kH B4;have fM:=kH ((HGx _ B4).1);have hb4:=arF hb3 B4.size;by_cases hlt:j<pn
  ·obtain⟨p,hp⟩:∃p,ps[j]?=some p:=⟨_,arq (by rw[zZ.out];exact hlt)⟩;obtain⟨z0,z1,z2,z3⟩:=HPK p (arE hp);obtain⟨b',o',rfl,hb',hcell'⟩:=HP.spot ab;have q0:=(fM.cell _ (by exact hb')).trans (hcell' j p hp).1;have q1:=(fM.cell _ (by exact hb')).trans (hcell' j p hp).2;clear hcell';obtain⟨p1,p2⟩:=p;simp only at *
   obtain⟨k,rfl⟩:=arI z0;obtain⟨n,rfl⟩:=arI z2;have hk:k<hn:=ab;have hn4:n<=400:=ab;have HTu:Hid (∀V:World,Gr wr V->Calls prog 25 #[.pointer (some ⟨g,0,none⟩),.agg #[.int .i64 k,.int .i64 n]] V fun e w'=>e=.returned (.tuple #[])/\(∃L' mK sl' m2,Ev 0 w' (W0.heap.size+3) g room (aP ⟨hs,m,[],0⟩ ((nums ps).take (j+1))) L' mK sl' m2/\Rj m hs ps room (j+1) L' mK sl' m2)/\Below (W0.heap.size+3) V w'):=fun V G=>by
    have f1:=HR4.few.1;have f2:=HR4.few.2;refine(wK (UE.of G) HR4.ek (HT.below (awH (fM.trans G) hw0)) ab (EP j) m4 c4 hr0 hr1 HR4.hi f1 ab hk hn4).mono ?_;rintro e w' ⟨rfl,⟨L',mK,sl',m2,E',K',h1,h2⟩,B'⟩;obtain⟨x1,x2⟩:=HR4.on (EP j) hk hn4 hp K' h1 h2;exact⟨rfl,⟨L',mK,sl',m2,by rw[x1];exact E',x2⟩,B'⟩
   clear z0 z1 z2 z3 hp UE HR4;go_wp2_with fail;refine(HTu _ br).mono ?_;rintro e w5 ⟨rfl,V5,B5⟩;have HV5:=kH V5;have NI:=kH (uC.trans ((awH ((Gr.refl wr).alloc _) hb4).trans B5));go_wp2_with fail;go_roundw
   case rel=>exact⟨j+1,ab,by go_num,HV5,NI⟩
   case measure=>simp[intOf];omega
  ·have ej:ps.length<=j:=by rw[zZ.out];omega
   have HE:Hid ((nums ps).take j=nums ps):=by unfold Hid;rw[ar5 (by unfold nums;rw[asf];exact ej)]
   have Zp:Hid (Kept room (aP ⟨hs,m,[],0⟩ (nums ps)).m (Wz m hs ps) L pu sl):=by have:=HR4.kept ej;rw[HE.out]at this;exact this
   have HFs:Hid (Fit (aP ⟨hs,m,[],0⟩ (nums ps)) hn mn):=by have:=EP j;rw[HE.out]at this;exact this
   obtain⟨Mv,gh,hc1,Ov,a,n,cap,mb',D,E5⟩:=UE;rw[HE.out]at E5;generalize hS:aP ⟨hs,m,[],0⟩ (nums ps)=s at *
   have HSS:=kH hS;obtain⟨va,vc,rfl, -⟩:=E5.bw.mem.mem;obtain⟨oa,oc,rfl⟩:=(au E5.bw.out).2.2;have Jj:=kH E5;have Xw:=kH HFs.mem;have HHs:=kH HFs.len;obtain⟨ol,hol⟩:∃ol:Nat,ol=s.out.length:=⟨_,rfl⟩;obtain⟨st,hst⟩:∃st:Int,st=s.steps:=⟨_,rfl⟩;have HOS:Hid (ol=s.out.length/\st=s.steps):=⟨hol,hst⟩;have HS:Hid ((fun W=>W.cell? ⟨g,0,none⟩=some (.slice va mn vc)/\W.cell? ⟨g,1,none⟩=some (.slice (some ⟨gh,0,none⟩) hn hc1)/\W.cell? ⟨g,2,none⟩=some (.slice oa ol oc)/\W.cell? ⟨g,3,none⟩=some (.int .i64 st)/\W.cell? ⟨g,4,none⟩=some (.int .i64 room)/\W.cell? ⟨g,5,none⟩=some (.slice a n cap)/\W.cell? ⟨g,6,none⟩=some (.int .i64 pu)/\W.cell? ⟨g,7,none⟩=some (.int .i64 sl)) wr):=by
    have x0:=E5.bw.c0;have x1:=E5.bw.c1;have x2:=E5.bw.c2;have x3:=E5.bw.c3;rw[Xw.out]at x0;rw[HHs.out]at x1;rw[<-hol]at x2;rw[<-hst]at x3;exact⟨x0,x1,x2,x3,E5.c4,E5.c5,E5.c6,E5.c7⟩
   obtain⟨GW,U1,U2⟩:=HGx _ uC;have BU:=kH GW;have uj:=kH U1;have uF:=kH U2;have hgb:=E5.bw.bg;have gH:Hid (∀(V:World),(∀i:Nat,V.cell? ⟨g,i,none⟩=wr.cell? ⟨g,i,none⟩)->(fun W=>W.cell? ⟨g,0,none⟩=some (.slice va mn vc)/\W.cell? ⟨g,1,none⟩=some (.slice (some ⟨gh,0,none⟩) hn hc1)/\W.cell? ⟨g,2,none⟩=some (.slice oa ol oc)/\W.cell? ⟨g,3,none⟩=some (.int .i64 st)/\W.cell? ⟨g,4,none⟩=some (.int .i64 room)/\W.cell? ⟨g,5,none⟩=some (.slice a n cap)/\W.cell? ⟨g,6,none⟩=some (.int .i64 pu)/\W.cell? ⟨g,7,none⟩=some (.int .i64 sl)) V):=fun V h=>by
    obtain⟨y0,y1,y2,y3,y4,y5,y6,y7⟩:=HS;exact⟨(h 0).trans y0,(h 1).trans y1,(h 2).trans y2,(h 3).trans y3,(h 4).trans y4,(h 5).trans y5,(h 6).trans y6,(h 7).trans y7⟩
   go_wp2_with fail;refine awN (S:=fun W=>W.cell? ⟨g,0,none⟩=some (.slice va mn vc)/\W.cell? ⟨g,1,none⟩=some (.slice (some ⟨gh,0,none⟩) hn hc1)/\W.cell? ⟨g,2,none⟩=some (.slice oa ol oc)/\W.cell? ⟨g,3,none⟩=some (.int .i64 st)/\W.cell? ⟨g,4,none⟩=some (.int .i64 room)/\W.cell? ⟨g,5,none⟩=some (.slice a n cap)/\W.cell? ⟨g,6,none⟩=some (.int .i64 pu)/\W.cell? ⟨g,7,none⟩=some (.int .i64 sl)) al ?_ (fun hHeld=>?_)
   ·exact gH _ (fun i=>rfl)
   have bA:=kH hHeld;refine tK 0 (.pointer (some ⟨g,0,none⟩)) bA ?_;refine tK 1 (.pointer (some ⟨g,0,none⟩)) bA ?_;refine tK 2 (.agg #[.slice va mn vc,.slice (some ⟨gh,0,none⟩) hn hc1,.slice oa ol oc,.int .i64 st]) bA ?_;refine tK 3 (.pointer (some ⟨g,4,none⟩)) bA ?_;refine tK 4 (.agg #[.int .i64 room,.slice a n cap,.int .i64 pu,.int .i64 sl]) bA ?_;have jw:Hid (∀i:Nat,(wr.drew.setRow (W0.heap.size+1) #[.slice va mn vc,.slice (some ⟨gh,0,none⟩) hn hc1,.slice oa ol oc,.int .i64 st]).cell? ⟨g,i,none⟩=wr.cell? ⟨g,i,none⟩):=fun i=>awv (awI _ _ _ _ (by show g≠W0.heap.size+1;omega))
   have mh:Hid (∀i:Nat,((wr.drew.setRow (W0.heap.size+1) #[.slice va mn vc,.slice (some ⟨gh,0,none⟩) hn hc1,.slice oa ol oc,.int .i64 st]).setRow (W0.heap.size+1+1) #[.int .i64 room,.slice a n cap,.int .i64 pu,.int .i64 sl]).cell? ⟨g,i,none⟩=wr.cell? ⟨g,i,none⟩):=fun i=>(awv (awI _ _ _ _ (by show g≠W0.heap.size+1+1;omega))).trans (jw i)
   have HV2:Hid ((wr.drew.setRow (W0.heap.size+1) #[.slice va mn vc,.slice (some ⟨gh,0,none⟩) hn hc1,.slice oa ol oc,.int .i64 st]).heap[W0.heap.size+1+1]?=some (.cells #[.int .i64 0,.slice none 0 0,.int .i64 0,.int .i64 0] 54 (0,0))):=(awI _ _ _ _ ab).trans uF;refine Hc.bD (i:=5) al rfl rfl 47 (.tmp 6) (.tmp 51) rfl (W0.heap.size+1) #[.slice va mn vc,.slice (some ⟨gh,0,none⟩) hn hc1,.slice oa ol oc,.int .i64 st] aw aw 47 #[.slice none 0 0,.slice none 0 0,.slice none 0 0,.int .i64 0] uj Ri rfl (FR _ _ _ _ _ _ _ _ _ _) ?_ ?_
   ·exact gH _ jw
   refine Hc.bD (i:=6) al rfl rfl 54 (.tmp 7) (.tmp 53) rfl (W0.heap.size+1+1) #[.int .i64 room,.slice a n cap,.int .i64 pu,.int .i64 sl] ar ar 54 #[.int .i64 0,.slice none 0 0,.int .i64 0,.int .i64 0] HV2 Kc.xB rfl (Ga _ _ _ _ _ _) ?_ ?_
   ·exact gH _ mh
   refine tK 7 (.int .i64 0) (gH _ mh) ?_;refine awT al ?_ _;go_wp2_with fail;have W6:∀(k:Nat) (o:Array Value) (t:Nat) (f:Nat×Nat),t≠47->t≠54->wr.heap[k]?=some (.cells o t f)->((wr.drew.setRow (W0.heap.size+1) #[.slice va mn vc,.slice (some ⟨gh,0,none⟩) hn hc1,.slice oa ol oc,.int .i64 st]).setRow (W0.heap.size+1+1) #[.int .i64 room,.slice a n cap,.int .i64 pu,.int .i64 sl]).heap[k]?=wr.heap[k]?:=fun k o t f t1 t2 hk=>by
    rw[awI _ _ _ _ (aa hk uF.out t2),awI _ _ _ _ (aa hk uj.out t1)];rfl
   refine awt (v:=.tuple #[.agg #[.slice va mn vc,.slice (some ⟨gh,0,none⟩) hn hc1,.slice oa ol oc,.int .i64 st],.agg #[.int .i64 room,.slice a n cap,.int .i64 pu,.int .i64 sl],.int .i64 0]) (nN results12 _ _ (W0.heap.size+1) (W0.heap.size+1+1) 47 54 #[.slice va mn vc,.slice (some ⟨gh,0,none⟩) hn hc1,.slice oa ol oc,.int .i64 st] #[.int .i64 room,.slice a n cap,.int .i64 pu,.int .i64 sl] (0,0) (0,0) _ _ _ rfl rfl rfl ((awI _ _ _ _ ab).trans (awJ _ _ _ _ _ (0,0) uj)) (awJ _ _ _ _ _ (0,0) HV2) underlying47 rfl Ri underlying54 rfl Kc.xB) rfl ?_;have GF:Gr W0 ((wr.drew.setRow (W0.heap.size+1) #[.slice va mn vc,.slice (some ⟨gh,0,none⟩) hn hc1,.slice oa ol oc,.int .i64 st]).setRow (W0.heap.size+1+1) #[.int .i64 room,.slice a n cap,.int .i64 pu,.int .i64 sl]):=ag (ag BU.drew ab _) ab _;obtain⟨rfl,rfl⟩:=HOS;refine⟨_,a,n,cap,pu,sl,L,rfl,?_,⟨?_,Jj.cap,?_⟩,GF⟩
   ·rw[HSS.out];refine Jn (base:=W0.heap.size+3) ?_ Xw (Jj.bw.row.to fun k o f hk=>W6 k o _ f an an hk) ⟨Jj.bw.hz.1.to fun k o f hk=>W6 k o _ f an an hk,arF Jj.bw.hz.2 Jj.bw.bh⟩ HHs (aj Jj.bw.out fun k o f hk=>W6 k o _ f an an hk);have:=Jj.bw.mem.to fun k o f hk=>W6 k o _ f an an hk
    rw[Xw.out]at this;exact this
   ·exact(Jj.bt.to fun k o t f _ ht hk=>W6 k o t f (by rcases ht with rfl|rfl<;>decide) (by rcases ht with rfl|rfl<;>decide) hk).bs
   ·rw[HSS.out];exact Zp
end En
namespace Bk
variable[Inhabited Hc.bH]
open Mm Hh Hc
end Bk
namespace Ts
variable[Inhabited Hc.bH]
open Mm Hc Mi Bk
open Hh hiding Rn
theorem FW : prog.globalNamed "ferrybridge/trans.operations" = some 6 := by kernel_rfl
theorem FX:(prog.globals[6]?).map (·.type)=some 258:=al
theorem Gy:(List.range 28).map (Dw.look prog 3 258 (Rows.laid_ferrybridge_trans_operations (H:=Unit)))=mF.map fun n=>some (int i64 n):=al
end Ts
namespace Mc
open Mm Hh
variable{a:Addr}
end Mc
namespace Mc
open Mm Hh
end Mc
namespace En
variable[Inhabited Hc.bH]
open Mm Hh Hc Mc
theorem agh : prog.globalNamed "ferrybridge/micro.rows" = some 7 := by kernel_rfl
theorem agi:(prog.globals[7]?).map (·.type)=some 262:=al
theorem Rl:(List.range 33).map (Dw.look prog 5 262 (Rows.laid_ferrybridge_micro_rows (H:=Unit)))=Mp.rf.map fun n=>some (int i64 n):=al
theorem AX {W }(h : laidMetH prog [("ferrybridge/decode.shapes", Rows.laid_ferrybridge_decode_shapes), ("ferrybridge/decode.uppers", Rows.laid_ferrybridge_decode_uppers), ("ferrybridge/trans.operations", Rows.laid_ferrybridge_trans_operations), ("ferrybridge/hart.sizes", Rows.laid_ferrybridge_hart_sizes), ("ferrybridge/hart.operations", Rows.laid_ferrybridge_hart_operations), ("ferrybridge/micro.rows", Rows.laid_ferrybridge_micro_rows)] W) : oZ W.heap.size W := by
 rw[axi _ _ _ al]at h;obtain⟨ps,⟨g0,t0,cs0,f0,p0,q0,hg0,ht0,hv0,hd0,⟨g1,t1,cs1,f1,p1,q1,hg1,ht1,hv1,hd1,⟨g2,t2,cs2,f2,p2,q2,hg2,ht2,hv2,hd2,⟨g3,t3,cs3,f3,p3,q3,hg3,ht3,hv3,hd3,⟨g4,t4,cs4,f4,p4,q4,hg4,ht4,hv4,hd4,⟨g5,t5,cs5,f5,p5,q5,hg5,ht5,hv5,hd5,_,_⟩,_⟩,_⟩,_⟩,_⟩,_⟩,_,_⟩:=h;obtain rfl:=aws (Dw.Im.symm.trans hg0);obtain rfl:=aws (Dw.Ip.symm.trans hg1);obtain rfl:=aws (Ts.FW.symm.trans hg2);obtain rfl:=aws (Hc.aby.symm.trans hg3);obtain rfl:=aws (Hc.FW.symm.trans hg4);obtain rfl:=aws (agh.symm.trans hg5);obtain rfl:=aws (Dw.Iq.symm.trans ht0);obtain rfl:=aws (Dw.Ir.symm.trans ht1);obtain rfl:=aws (Ts.FX.symm.trans ht2);obtain rfl:=aws (Hc.abz.symm.trans ht3);obtain rfl:=aws (Hc.FX.symm.trans ht4);obtain rfl:=aws (agi.symm.trans ht5);have T:Dw.oV W:=by
  refine⟨fun i v hi=>?_,fun i n hi=>?_⟩
  ·have:=Dw.dV 5 hd0 (Dw.kD Dw.uZ hi);rw[aw3 hg0 hv0 i];simpa using this
  ·have:=Dw.dV 3 hd1 (Dw.kD (l:=Dc.uppers.map fun n=>int .u32 n) (i:=i) (v:=int .u32 n) (by rw[Dw.u6];simp[axh]) (by simp[hi]));rw[aw3 hg1 hv1 i];simpa using this
 have Q:∀i n,Ts.mF[i]?=some n->W.cell? ⟨6,i,none⟩=some (int i64 n):=fun i n hi=>by
  have:=Dw.dV 3 hd2 (Dw.kD (l:=Ts.mF.map fun n=>int i64 n) (i:=i) (v:=int i64 n) (by rw[Ts.Gy];simp[axh]) (by simp[hi]));rw[aw3 hg2 hv2 i];simpa using this
 have S:∀i n,Hc.FV[i]?=some n->W.cell? ⟨13,i,none⟩=some (int .u32 n):=fun i n hi=>by
  have:=Dw.dV 3 hd3 (Dw.kD (l:=Hc.FV.map fun n=>int .u32 n) (i:=i) (v:=int .u32 n) (by rw[Hc.LA];simp[axh]) (by simp[hi]));rw[aw3 hg3 hv3 i];simpa using this
 have O:∀i n,Hc.mF[i]?=some n->W.cell? ⟨10,i,none⟩=some (int i64 n):=fun i n hi=>by
  have:=Dw.dV 3 hd4 (Dw.kD (l:=Hc.mF.map fun n=>int i64 n) (i:=i) (v:=int i64 n) (by rw[Hc.LB];simp[axh]) (by simp[hi]));rw[aw3 hg4 hv4 i];simpa using this
 have R:∀i n,Mp.rf[i]?=some n->W.cell? ⟨7,i,none⟩=some (int i64 n):=fun i n hi=>by
  have:=Dw.dV 5 hd5 (Dw.kD (l:=Mp.rf.map fun n=>int i64 n) (i:=i) (v:=int i64 n) (by rw[Rl];simp[axh]) (by simp[hi]));rw[aw3 hg5 hv5 i];simpa using this
 have hs:=Dw.lt_of_cell (S 0 _ rfl);have hr:=Dw.lt_of_cell (R 0 _ rfl);exact⟨⟨T,⟨S,O,hs,Dw.lt_of_cell (O 0 _ rfl)⟩,Dw.lt_of_cell (T.shapes 0 _ rfl),Dw.lt_of_cell (T.uppers 0 _ rfl)⟩,⟨R,hr⟩,hr,⟨S,hs⟩,Q,Dw.lt_of_cell (Q 0 _ rfl)⟩
end En
namespace Ud
open Mm Hh Wd Mc
variable{s:Sh}
structure Uv where
 k:Int
 was:Hv
 fr:Int
 bs:List UInt8
 lost:List (Int×Int)
def lay (m:List UInt8) (f:Nat) (bs:List UInt8):List UInt8:=m.take f++bs++m.drop (f+bs.length)
def gives (hs:List Hv) (ls:List (Int×Int)):List Hv:=ls.foldl (fun hs l=>hs.set l.1.toNat ((hs.getD l.1.toNat hN).hold true l.2)) hs
def cZ (s:List Hv×List UInt8) (u:Uv):List Hv×List UInt8:=(gives (s.1.set u.k.toNat u.was) u.lost,lay s.2 u.fr.toNat u.bs)
def bI (s:List Hv×List UInt8) (l:List Uv):List Hv×List UInt8:=l.foldr (fun u s=>cZ s u) s
def iw (l:List (Nat×Int)):List (Int×Int):=l.map fun q=>((q.1:Int),q.2)
def qh (s:Sh) (k:Nat):List (Int×Int)→Uv
 | []=>⟨k,at' s k,0,[],[]⟩
 |p::_=>⟨k,at' s k,p.1,(s.m.drop p.1.toNat).take p.2.toNat,iw (aX k p s.hs s.hs.length)⟩
def fe (s:Sh) (k:Nat):Uv:=qh s k (eF (at' s k) s.m).ax
def fP (s:Sh) (t:List Nat):Sh:=t.foldl cO s
def xJ (s:Sh) (k:Nat):Nat→List Nat
 |0=>[]
 |n+1=>if(at' s k).state=0 then k::xJ (cO s k) k n else[]
def ko (s:Sh):List (Nat×Nat)→List Nat
 | []=>[]
 |p::r=>xJ s p.1 p.2++ko (runs s p.1 p.2) r
def gM (s:Sh):List Nat→List Uv
 | []=>[]
 |k::t=>fe s k::gM (cO s k) t
theorem Jo (s)(a b):fP s (a++b)=fP (fP s a) b:=asJ
theorem AY:∀(a:List Nat) (s:Sh) (b:List Nat),gM s (a++b)=gM s a++gM (fP s a) b
 | [],s,b=>rfl
 |k::t,s,b=>by
  show fe s k::gM (cO s k) (t++b)=_
  rw[AY t];rfl
theorem oL:∀(t:List Nat) (s:Sh),(gM s t).length=t.length
 | [],s=>rfl
 |k::t,s=>by simp[gM,oL t]
theorem yQ:∀(t:List Nat) (s:Sh),(fP s t).steps=s.steps+t.length
 | [],s=>rfl
 |k::t,s=>by
  show(fP (cO s k) t).steps=_
  rw[yQ t];show s.steps+1+t.length=s.steps+(t.length+1)
  omega
theorem wM (k:Nat):∀(n:Nat) (s:Sh),runs s k n=fP s (xJ s k n)
 |0,s=>rfl
 |n+1,s=>by
  unfold runs xJ;split
  ·rw[wM k n];rfl
  ·rfl
theorem nO:∀(sc:List (Nat×Nat)) (s:Sh),aP s sc=fP s (ko s sc)
 | [],s=>rfl
 |p::r,s=>by rw[jM,nO r,ko,Jo,<-wM]
theorem Jp (k:Nat):∀(n:Nat) (s:Sh),(xJ s k n).length≤n
 |0,s=>arA _
 |n+1,s=>by
  unfold xJ;split
  ·have:=Jp k n (cO s k);simp;omega
  ·simp
theorem Jq:∀(a:List (Nat×Nat)) (s:Sh) (b:List (Nat×Nat)),ko s (a++b)=ko s a++ko (aP s a) b
 | [],s,b=>rfl
 |p::r,s,b=>by
  show xJ s p.1 p.2++ko (runs s p.1 p.2) (r++b)=_
  rw[Jq r,<-asq,jM];rfl
def Live:Sh→List Nat→Prop
 |_,[]=>True
 |s,k::t=>k<s.hs.length/\(at' s k).state=0/\Live (cO s k) t
theorem D8 (s)(k):(cO s k).hs.length=s.hs.length:=by simp[cO,eX]
theorem D9 (k:Nat):∀(n:Nat) (s:Sh),(runs s k n).hs.length=s.hs.length
 |0,s=>rfl
 |n+1,s=>by
  unfold runs;split
  ·rw[D9 k n,D8]
  ·rfl
theorem Ea {k:Nat}:∀(n:Nat) (s:Sh),k<s.hs.length→Live s (xJ s k n)
 |0,s,_=>trivial
 |n+1,s,h=>by
  unfold xJ;split
  ·exact⟨h,bo,Ea n _ (by rw[D8];exact h)⟩
  ·trivial
theorem Ec:∀{a:List Nat} {s:Sh} {b:List Nat},Live s a→Live (fP s a) b→Live s (a++b)
 | [],s,b,_,h=>h
 |k::t,s,b,h,g=>⟨h.1,h.2.1,Ec h.2.2 g⟩
theorem Ee:∀{a:List Nat} {s:Sh} {b:List Nat},Live s (a++b)→Live (fP s a) b
 | [],s,b,h=>h
 |k::t,s,b,h=>Ee (a:=t) (s:=cO s k) h.2.2
theorem wN:∀(sc:List (Nat×Nat)) (s:Sh),(∀p∈sc,p.1<s.hs.length)→Live s (ko s sc)
 | [],s,_=>trivial
 |p::r,s,h=>by
  refine Ec (Ea _ _ (h p aq)) ?_;rw[<-wM];exact wN r _ (fun q hq=>by rw[D9];exact h q (by simp[hq]))
theorem yR {a b}(h:Live s (a++b)):Live s a:=by
 induction a generalizing s with
 |nil=>trivial
 |cons k t ih=>exact⟨h.1,h.2.1,ih h.2.2⟩
theorem AZ {c n:Nat}:∀{t:List Nat} {s:Sh},Live s t→Fit s c n→Fit (fP s t) c n
 | [],s,_,f=>f
 |k::t,s,h,f=>AZ (t:=t) h.2.2 (lG f (by rw[<-f.len];exact h.1) h.2.1)
theorem Jr (l:List UInt8)(a:Nat)(w:Int):∀(n i:Nat),i<a∨a+n≤i→(put l a w n)[i]?=l[i]?
 |0,i,_=>rfl
 |n+1,i,h=>by
  unfold put;rw[atu ab,Jr l a w n i ab]
def Off (l m':List UInt8) (ax:List (Int×Int)):Prop:=(ax=[]/\m'=l)\/∃p,ax=[p]/\m'.length=l.length/\∀i:Nat,i<p.1.toNat\/p.1.toNat+p.2.toNat<=i->m'[i]?=l[i]?
theorem Gz {l}{op a b}(h:eP l op a=true):Off l (jb l op a b) [(a,(iD op:Nat))]:=by
 refine .inr ⟨_,rfl,?_,fun i hi=>?_⟩
 ·unfold jb;rw[awn h,jD]
 ·unfold jb;rw[awn h,Jr _ _ _ _ _ (by simpa using hi)]
theorem XB (h)(l)(op a b n):Off l (gN h l op a b n).m (gN h l op a b n).ax:=by
 have z:∀{m:List UInt8},m=l->Off l m []:=fun e=>.inl ⟨rfl,e⟩
 unfold gN;split
 ·exact z rfl
 split
 ·exact z rfl
 split
 ·exact z rfl
 split
 ·unfold bJ;split<;>exact z rfl
 split
 ·unfold aI;split
  ·exact Gz bo
  ·exact z rfl
 split
 ·exact z rfl
 split
 ·exact z rfl
 split
 ·unfold aN;split
  ·unfold ik;split<;>exact z rfl
  ·split
   ·unfold fC;split
    ·split
     ·exact Gz (op:=18) (bK bo)
     ·exact z rfl
    ·exact z rfl
   ·unfold jv;split
    ·exact Gz (op:=18) (bK bo)
    ·exact z rfl
 split
 ·unfold bE;split
  ·exact z rfl
  ·split<;>exact z rfl
 split<;>exact z rfl
theorem Js (h)(l):Off l (eF h l).m (eF h l).ax:=by
 unfold eF qz ins;split
 ·split
  ·exact .inl ⟨rfl,rfl⟩
  ·exact XB _ _ _ _ _ _
 ·exact .inl ⟨rfl,rfl⟩
theorem XC (m):lay m 0 []=m:=by simp[lay]
theorem Rm {l m'}{f}(hl:m'.length=l.length)(hf:f+n<=l.length)(h:∀i,i<f\/f+n<=i->m'[i]?=l[i]?):lay m' f ((l.drop f).take n)=l:=by
 have e1:m'.take f=l.take f:=by
  apply asC;intro i;rw[ar9,ar9];split
  ·exact h i (.inl bo)
  ·rfl
 have e2:((l.drop f).take n).length=n:=by simp;omega
 have e3:m'.drop (f+n)=l.drop (f+n):=by
  apply asC;intro i;rw[asc,asc];exact h _ (.inr ab)
 unfold lay;rw[e1,e2,e3,asq,<-asT,asr,asr]
theorem yS (hs)(a b):gives hs (a++b)=gives (gives hs a) b:=asJ
theorem oM:∀(ls:List (Int×Int)) (hs:List Hv),(gives hs ls).length=hs.length
 | [],hs=>rfl
 |l::r,hs=>by
  show(gives (hs.set l.1.toNat _) r).length=_
  rw[oM r];simp
theorem Ms {h:Hv}(e:h.held=true):(h.hold false 0).hold true h.aW=h:=by cases h;simp only at e;subst e;rfl
theorem wO (k:Nat)(p:Int×Int)(hs:List Hv):∀j,j≤hs.length→∀i,(gives (dL k [p] hs) (iw (aX k p hs j)))[i]?=if i<j then hs[i]? else (dL k [p] hs)[i]?
 |0,_,i=>by simp[aX,iw,gives]
 |j+1,hj,i=>by
  have ih:=wO k p hs j ab;have hjl:j<hs.length:=ab;have eg:hs[j]?=some (hs.getD j hN):=by rw[arq hjl];simp[List.getD,hjl]
  have el:(dL k [p] hs)[j]?=some (if loses k p j (hs.getD j hN)=true then(hs.getD j hN).hold false 0 else hs.getD j hN):=by
   rw[dU,eg,ar6];congr 1;generalize hs.getD j hN=h;unfold lF loses qO;by_cases e:j=k
   ·simp[e]
   ·simp[e]
  have ej:(gives (dL k [p] hs) (iw (aX k p hs j))).getD j hN=(if loses k p j (hs.getD j hN)=true then(hs.getD j hN).hold false 0 else hs.getD j hN):=by
   simp only[List.getD];rw[ih j,ak,el];rfl
  have ea:iw (aX k p hs (j+1))=iw (aX k p hs j)++(if loses k p j (hs.getD j hN)=true then[((j:Int),(hs.getD j hN).aW)]else[]):=by
   rw[aX];unfold iw;rw[asl];split<;>rfl
  rw[ea,yS];by_cases hl:loses k p j (hs.getD j hN)=true
  ·have hh:(hs.getD j hN).held=true:=by
    unfold loses at hl;simp only[arR]at hl;exact hl.2.1
   rw[awn hl]at el ej ⊢;show((gives (dL k [p] hs) (iw (aX k p hs j))).set (j:Int).toNat (((gives (dL k [p] hs) (iw (aX k p hs j))).getD (j:Int).toNat hN).hold true (hs.getD j hN).aW))[i]?=_
   rw[arS,ej,Ms hh,asg];by_cases e:j=i
   ·subst e;rw[awn rfl,awn (by rw[oM,eX];exact hjl),eB,eg]
   ·rw[awm e,ih i];by_cases h2:i<j
    ·rw[awn h2,eB]
    ·rw[awm h2,ak]
  ·rw[awm hl]at el ej ⊢;show(gives (dL k [p] hs) (iw (aX k p hs j)))[i]?=_
   rw[ih i];by_cases e:i=j
   ·subst e;rw[ak,eB,el,eg]
   ·by_cases h2:i<j
    ·rw[awn h2,eB]
    ·rw[awm h2,ak]
theorem Mt (k)(p)(hs):gives (dL k [p] hs) (iw (aX k p hs hs.length))=hs:=by
 apply asC;intro i;rw[wO k p hs _ (arA _) i];split
 ·rfl
 ·rename_i h;rw[asw (by rw[eX];omega),asw ab]
theorem Ef (s)(k)(hk:k<s.hs.length)(ss)(h'):(dL k ss (s.hs.set k h')).set k (at' s k)=dL k ss s.hs:=by
 apply asC;intro i;rw[asg,dU,dU,eX,asg];by_cases e:k=i
 ·subst e;simp only[if_true,asn,hk];unfold at';simp[List.getD,hk]
 ·simp only[e,axF]
theorem MC (F:Fit s c n)(hk:k<c):cZ ((cO s k).hs,(cO s k).m) (fe s k)=(s.hs,s.m):=by
 have hl:k<s.hs.length:=by rw[F.len];exact hk
 have eh:s.hs[k]?=some (at' s k):=by unfold at';rw[arq hl];simp[List.getD,hl]
 have ok:=(F.ok _ (dO eh)).1;have O:=Js (at' s k) s.m;have S:=(zM ok s.m).1;unfold fe cO;generalize eF (at' s k) s.m=x at *
 obtain⟨xh,xm,xo,xs⟩:=x;simp only at *
 rcases O with⟨rfl,rfl⟩|⟨p,rfl,hm,ho⟩
 ·unfold cZ qh;have z:=Ef s k hl [] xh;rw[mZ,mZ]at z;simp only[arS,mZ,XC,Int.toNat_zero];rw[z];rfl
 ·obtain⟨p0,p1,p2⟩:=S p aq;unfold cZ qh;simp only[arS,Ef s k hl];rw[Mt,Rm hm ab ho]
theorem yT {c n:Nat}:∀(t:List Nat) (s:Sh),Fit s c n→Live s t→bI ((fP s t).hs,(fP s t).m) (gM s t)=(s.hs,s.m)
 | [],s,_,_=>rfl
 |k::t,s,F,L=>by
  have hk:k<c:=by rw[<-F.len];exact L.1
  have ih:=yT t (cO s k) (lG F hk L.2.1) L.2.2;show cZ (bI ((fP (cO s k) t).hs,(fP (cO s k) t).m) (gM (cO s k) t)) (fe s k)=_
  rw[ih,MC F hk]
theorem MF (F:Fit s c n)(L:Live s t)(j)(hj:j<=t.length):bI ((fP s t).hs,(fP s t).m) ((gM s t).drop j)=((fP s (t.take j)).hs,(fP s (t.take j)).m):=by
 have e:=(asr j t).symm;have e1:fP s t=fP (fP s (t.take j)) (t.drop j):=by rw[<-Jo,asr]
 have e2:(gM s t).drop j=gM (fP s (t.take j)) (t.drop j):=by
  have:=AY (t.take j) s (t.drop j);rw[asr]at this;rw[this,as5 (by rw[oL];simp;omega),List.drop_of_length_le (by rw[oL];simp;omega),arT]
 rw[e]at L;rw[e1,e2];exact yT _ _ (AZ (yR L) F) (Ee L)
def fT (c mn:Nat) (u:Uv):Bool:=decide (0<=u.k/\u.k<c) && (may u.was && (decide (u.fr+u.bs.length<=mn) && u.lost.all fun q=>decide (0<=q.1/\q.1<c)))
structure Uv.Ok (u:Uv):Prop where
 was:u.was.Ok
 f0:0<=u.fr
 f1:u.fr<4294967296
 lost:∀q∈u.lost,0<=q.2/\q.2<4294967296
theorem yU (k:Nat)(p:Int×Int)(hs:List Hv):∀j,∀q∈aX k p hs j,q.1<j∧q.2=(hs.getD q.1 hN).aW
 |0,q,h=>by simp[aX]at h
 |j+1,q,h=>by
  unfold aX at h;rcases ar7.1 h with h|h
  ·have:=yU k p hs j q h;exact⟨ab,this.2⟩
  ·split at h
   ·simp at h;subst h;exact⟨aq,rfl⟩
   ·simp at h
theorem Ro (F:Fit s c n)(hk:k<c)(hn:n<=4096):fT c n (fe s k)=true/\(fe s k).Ok/\(fe s k).bs.length<=4096/\(fe s k).lost.length<=c:=by
 have hl:k<s.hs.length:=by rw[F.len];exact hk
 have eh:s.hs[k]?=some (at' s k):=by unfold at';rw[arq hl];simp[List.getD,hl]
 obtain⟨ok,my⟩:=F.ok _ (dO eh);have O:=Js (at' s k) s.m;have S:=(zM ok s.m).1;unfold fe;generalize(eF (at' s k) s.m).m=x1 at *
 generalize(eF (at' s k) s.m).ax=x2 at *
 rcases O with⟨rfl,_⟩|⟨p,rfl,_,_⟩
 ·unfold qh fT;refine⟨by simp[my];omega,⟨ok,aq,aq,fun q hq=>by simp at hq⟩,aq,aq⟩
 ·obtain⟨p0,p1,p2⟩:=S p aq;have hm:=F.mem;have hb:((s.m.drop p.1.toNat).take p.2.toNat).length=p.2.toNat:=by simp;omega
  have hu:=yU k p s.hs s.hs.length;have hul:=oD k p s.hs s.hs.length;have hc:=F.len;unfold qh fT;refine⟨?_,⟨ok,p0,by show p.1<_;omega,fun q hq=>?_⟩,by show((s.m.drop p.1.toNat).take p.2.toNat).length<=_;rw[hb];omega,by show(iw _).length<=_;unfold iw;rw[asf];omega⟩
  ·simp only[my,atE,arR,awD,ar0,hb];refine⟨ab,ab,fun q hq=>?_⟩;obtain⟨r,hr,rfl⟩:=arY.1 hq;have:=(hu r hr).1;simp only;omega
  ·obtain⟨r,hr,rfl⟩:=arY.1 hq;have h1:=hu r hr;have h2:s.hs[r.1]?=some (s.hs.getD r.1 hN):=by rw[arq h1.1];simp[List.getD,h1.1]
   have o2:=(F.ok _ (dO h2)).1;simp only;rw[h1.2];exact⟨o2.zy,o2.BO⟩
theorem A7 {c n:Nat}(hn:n≤4096):∀(t:List Nat) (s:Sh),Fit s c n→Live s t→∀u∈gM s t,fT c n u=true∧u.Ok∧u.bs.length≤4096∧u.lost.length≤c
 | [],s,_,_,u,h=>by simp[gM]at h
 |k::t,s,F,L,u,h=>by
  have hk:k<c:=by rw[<-F.len];exact L.1
  rcases arG.1 h with rfl|h
  ·exact Ro F hk hn
  ·exact A7 hn t _ (lG F hk L.2.1) L.2.2 u h
end Ud
namespace Vp
variable[Inhabited Hc.bH]
open Hh Mc Ud As
def splitN (c:Nat):List Nat→List (List Nat)
 | []=>[[]]
 |d::t=>if d=c then[]::splitN c t else(d::(splitN c t).headD [])::(splitN c t).tail
theorem nP (c)(l):splitN c l≠[]:=by
 cases l with
 |nil=>simp[splitN]
 |cons d t=>unfold splitN;split<;>simp
theorem ji (c)(l):splitN c l=(splitN c l).headD []::(splitN c l).tail:=by
 cases h:splitN c l with
 |nil=>exact absurd h (nP c l)
 |cons x r=>rfl
theorem yV (c:Nat):∀a b:List Nat,splitN c (a++c::b)=splitN c a++splitN c b
 | [],b=>by simp[splitN]
 |d::t,b=>by
  have ih:=yV c t b;show splitN c (d::(t++c::b))=_
  by_cases h:d=c
  ·simp only[splitN,awn h];rw[ih];rfl
  ·simp only[splitN,awm h];rw[ih];have e:=ji c t;rw[e];rfl
def gB (s:List Nat):Option Nat:=if s.length<1\/10<s.length\/(s.head?=some 48/\1<s.length)then none else if s.all (fun d=>decide (48<=d/\d<=57))=true then(if vl s<4294967296 then some (vl s)else none)else none
def aS:List (List Nat)→Option (List Nat)
 | []=>some []
 |s::r=>match gB s with
  |none=>none
  |some n=>match aS r with
   |none=>none
   |some l=>some (n::l)
def aB (w:List Nat) (l:List Nat):List Nat:=l.foldl (fun t n=>t++32::dg n) w
theorem sS (w l)(n):aB w (l++[n])=aB w l++32::dg n:=by simp[aB]
structure Pl where
 m:List UInt8
 hs:List Hv
 ps:List (Int×Int)
 us:List Uv
 fr:Bool
def XD:Pl:=⟨[],[],[],[],false⟩
def gX:List Nat:=[119,111,114,100,115]
def jY:List Nat:=[104,97,114,116]
def nQ:List Nat:=[115,101,116]
def jB:List Nat:=[112,105,99,107]
def uG:List Nat:=[114,117,110]
def lU:List Nat:=[102,97,115,116]
def qi:List Nat:=[104,97,114,116,63]
def jZ:List Nat:=[119,104,97,116]
def j3:List Nat:=[115,104,111,119]
def jk:List Nat:=[98,97,99,107]
def iP:List Nat:=[98,108,111,99,107]
def sU:List Nat:=[111,107]
def ZG:List Nat:=[110,111]
def XE:List Nat:=[105,115]
def qj:List Nat:=[98,97,100]
def lV:List Nat:=[114,97,110]
def aQ:List Nat:=[63]
def w4 (n:Nat):List UInt8:=[UInt8.ofNat (n%256),UInt8.ofNat (n/256%256),UInt8.ofNat (n/65536%256),UInt8.ofNat (n/16777216%256)]
def fJ (pc:Nat):Hv:=⟨List.replicate 32 0,pc,false,0,0,0⟩
def hAt (p:Pl) (k:Nat):Hv:=p.hs.getD k (fJ 0)
def XF (s:Sh):List Nat:=aB lV (s.steps::s.out.map Int.toNat)
def gJ (p:Pl):Sh:=⟨p.hs,p.m,[],0⟩
def uH (w:Int):List Nat:=xR (Dc.aO w) (Dc.jd (Dc.aM (Dc.aO w)) w) (Dc.dh (Dc.aM (Dc.aO w)) w) (Dc.cz (Dc.aM (Dc.aO w)) w) (Dc.bU (Dc.aM (Dc.aO w)) w)
def dN (p:Pl) (l:List Nat):Pl×List Nat:=if 4096<p.m.length+4*l.length then({ p with fr:=false },aQ)else({ p with m:=p.m++l.flatMap w4,fr:=false },aB sU [p.m.length+4*l.length])
def lW (p:Pl):List Nat→Pl×List Nat
 | [pc]=>if p.hs.length<4 then({ p with hs:=p.hs++[fJ pc],fr:=false },aB sU [p.hs.length+1])else(p,aQ)
 |_=>(p,aQ)
def o5 (p:Pl):List Nat→Pl×List Nat
 | [k,r,x]=>if k<p.hs.length/\1<=r/\r<=31 then({ p with hs:=p.hs.set k { hAt p k with regs:=(hAt p k).regs.set r x },fr:=false },sU)else({ p with fr:=false },aQ)
 |_=>(p,aQ)
def lX (p:Pl):List Nat→Pl×List Nat
 | [k,n]=>if p.ps.length<300 then({ p with ps:=p.ps++[((k:Int),(n:Int))] },aB sU [p.ps.length+1])else(p,aQ)
 |_=>(p,aQ)
def lY (p:Pl) (us:List Uv) (fr:Bool):Pl×List Nat:=if wrong p.m p.hs p.ps=0 then(⟨(aP (gJ p) (nums p.ps)).m,(aP (gJ p) (nums p.ps)).hs,[],us,fr⟩,XF (aP (gJ p) (nums p.ps)))else(p,aB qj [(wrong p.m p.hs p.ps).toNat])
def MG (p:Pl):List Nat→Pl×List Nat
 | []=>lY p (gM (gJ p) (ko (gJ p) (nums p.ps))) true
 |_=>(p,aQ)
def lZ (p:Pl):List Nat→Pl×List Nat
 | [room]=>if wrong p.m p.hs p.ps=0/\64<room then({ p with fr:=false },aB qj [3])else lY { p with fr:=false } p.us false
 |_=>(p,aQ)
def rz (p:Pl):List Nat→List Nat
 | [k]=>if k<p.hs.length then aB (dg (hAt p k).state.toNat) ((hAt p k).cause.toNat::(hAt p k).pc.toNat::(hAt p k).regs.map Int.toNat)else aQ
 |_=>aQ
def iy:List Nat→List Nat
 | [w]=>if Dc.aO w=0 then ZG else aB XE [(Dc.aO w).toNat,(Dc.jd (Dc.aM (Dc.aO w)) w).toNat,(Dc.dh (Dc.aM (Dc.aO w)) w).toNat,(Dc.cz (Dc.aM (Dc.aO w)) w).toNat,(Dc.bU (Dc.aM (Dc.aO w)) w%4294967296).toNat]
 |_=>aQ
def gY (p:Pl):List Nat→List Nat
 | [pc]=>match Bk.blk p.m pc 16 0 with
  | []=>ZG
  |w::_=>uH w
 |_=>aQ
def sV (p:Pl):List Nat→List Nat
 | [pc]=>dg (Bk.blk p.m pc 16 0).length
 |_=>aQ
def gm (p:Pl):List Nat→Pl×List Nat
 | [n]=>if p.fr=true/\n<=p.us.length then({ p with hs:=(bI (p.hs,p.m) (p.us.drop (p.us.length-n))).1,m:=(bI (p.hs,p.m) (p.us.drop (p.us.length-n))).2,fr:=false },sU)else(p,aQ)
 |_=>(p,aQ)
def GG (p:Pl) (w:List Nat) (l:List Nat):Pl×List Nat:=
 if w=gX then dN p l else if w=jY then lW p l else if w=nQ then o5 p l else if w=jB then lX p l else if w=uG then MG p l else if w=lU then lZ p l
 else if w=qi then(p,rz p l)else if w=jZ then(p,iy l)else if w=j3 then(p,gY p l)else if w=jk then gm p l else if w=iP then(p,sV p l)else(p,aQ)
def pq (p:Pl) (s:List Nat):Pl×List Nat:=
 match aS (splitN 32 s).tail with
 |none=>(p,aQ)
 |some l=>GG p ((splitN 32 s).headD []) l
def ans (p:Pl):List (List Nat)→List Nat
 | []=>[]
 |s::r=>(pq p s).2++10::ans (pq p s).1 r
def fU (s:List Nat):List (List Nat):=if(splitN 10 s).getLast?=some []then(splitN 10 s).dropLast else splitN 10 s
def rA (s:List Nat):List Nat:=ans XD ((fU s).take 40)
end Vp
namespace Vp
variable[Inhabited Hc.bH]
open Hh Mc Ud As
variable{p:Pl}
theorem acF (h:gB s=some n):n<4294967296:=by
 unfold gB at h;split at h
 ·cases h
 ·split at h
  ·split at h
   ·injection h with h;omega
   ·cases h
  ·cases h
theorem bX:∀{ws:List (List Nat)} {l:List Nat},aS ws=some l→∀n∈l,n<4294967296
 | [],l,h,n,hn=>by
  simp only[aS,awz]at h;subst h;cases hn
 |s::r,l,h,n,hn=>by
  unfold aS at h;cases h1:gB s with
  |none=>rw[h1]at h;cases h
  |some x=>
   rw[h1]at h;cases h2:aS r with
   |none=>rw[h2]at h;cases h
   |some t=>
    rw[h2]at h;simp only[awz]at h;subst h;rcases arG.1 hn with rfl|hn
    ·exact acF h1
    ·exact bX h2 n hn
structure mM (p:Pl):Prop where
 m4:p.m.length<=4096
 h4:p.hs.length<=4
 hok:∀h∈p.hs,h.Ok/\may h=true
 p3:p.ps.length<=300
 pk:∀q∈p.ps,0<=q.1/\q.1<4294967296/\0<=q.2/\q.2<4294967296
 un:p.fr=true->∃s t,Fit s p.hs.length p.m.length/\Live s t/\p.us=gM s t/\p.hs=(fP s t).hs/\p.m=(fP s t).m
 ne:p.fr=true->1<=p.hs.length/\p.us.length<=200000
theorem Rp:∀(sc:List (Nat×Nat)) (s:Sh),(∀p∈sc,p.2≤400)→(ko s sc).length≤400*sc.length
 | [],s,_=>arA _
 |p::r,s,h=>by
  have h1:=Jp p.1 p.2 s;have h2:=h p aq;have h3:=Rp r (runs s p.1 p.2) (fun q hq=>h q (by simp[hq]));show(xJ s p.1 p.2++ko (runs s p.1 p.2) r).length<=_
  rw[ary,arM];omega
theorem Rq:mM XD:=⟨by simp[XD],by simp[XD],fun h hm=>(by cases hm),by simp[XD],fun q hq=>(by cases hq),fun h=>(by cases h),fun h=>(by cases h)⟩
theorem mM.old (o:mM p):mM { p with fr:=false }:=⟨o.m4,o.h4,o.hok,o.p3,o.pk,fun h=>(by cases h),fun h=>(by cases h)⟩
theorem Rt (i):((List.replicate 32 (0:Int)).getD i 0)=0:=by rw[ar2,as0];split<;>rfl
theorem Jt (h:pc<4294967296):(fJ pc).Ok/\may (fJ pc)=true:=by
 refine⟨⟨by simp[fJ],fun i=>?_,by simp[fJ],by simp[fJ];omega,by simp[fJ],by simp[fJ]⟩,?_⟩
 ·have:Hh.rg (fJ pc) i=0:=Rt i;rw[this];omega
 ·have h0:Hh.rg (fJ pc) 0=0:=Rt 0;unfold may;rw[h0];simp[fJ]
theorem Ju {h}(o:h.Ok)(m:may h=true){r x:Nat}(h1:1<=r)(h2:r<=31)(hx:x<4294967296):({ h with regs:=h.regs.set r x }:Hv).Ok/\may { h with regs:=h.regs.set r x }=true:=by
 have e:∀i,Hh.rg ({ h with regs:=h.regs.set r x }:Hv) i=if i=r then(x:Int)else Hh.rg h i:=fun i=>by
  unfold Hh.rg;rw[ar2,ar2,asg];have:=o.len;by_cases hi:i=r
  ·subst hi;rw[awn rfl,awn rfl,eB];rfl
  ·rw[awm (Ne.symm hi),awm hi]
 refine⟨⟨by simp[o.len],fun i=>?_,o.oW,o.gP,o.zy,o.BO⟩,?_⟩
 ·rw[e];split
  ·omega
  ·exact o.reg i
 ·have e0:=e 0;rw[ak]at e0;unfold may at m ⊢;rw[e0];exact m
theorem Jv:∀l:List Nat,(l.flatMap w4).length=4*l.length
 | []=>rfl
 |n::r=>by simp only[arZ,ary,Jv r,arM,w4,ar8];omega
theorem rC (h:k<p.hs.length):hAt p k∈p.hs:=by unfold hAt;rw[ar2,arq h];exact as8 h
theorem Jw (o:mM p)(hw:wrong p.m p.hs p.ps=0):Fit (gJ p) p.hs.length p.m.length/\Live (gJ p) (ko (gJ p) (nums p.ps))/\Fit (aP (gJ p) (nums p.ps)) p.hs.length p.m.length:=by
 obtain⟨_,_,_,_,_,hp⟩:=lT hw;have F:Fit (gJ p) p.hs.length p.m.length:=⟨rfl,rfl,o.hok⟩;have hn:∀q∈nums p.ps,q.1<p.hs.length:=fun q hq=>by
  obtain⟨r,hr,rfl⟩:=arY.1 hq;have:=hp r hr;show r.1.toNat<p.hs.length
  omega
 exact⟨F,wN _ _ hn,qQ _ hn F⟩
theorem acG (o:mM p){us}(h:wrong p.m p.hs p.ps=0->fr=true->us=gM (gJ p) (ko (gJ p) (nums p.ps))):mM (lY p us fr).1:=by
 unfold lY;split
 ·rename_i hw;obtain⟨F,L,G⟩:=Jw o hw;have e1:=G.len;have e2:=G.mem;obtain⟨_,w1,_,_,w3,wp⟩:=lT hw;refine⟨by show(aP _ _).m.length<=_;rw[e2];exact o.m4,by show(aP _ _).hs.length<=_;rw[e1];exact o.h4,G.ok,aq,fun q hq=>(by cases hq),fun hf=>?_,fun hf=>⟨by show 1<=(aP _ _).hs.length;rw[e1];exact w1,by
   show us.length<=200000
   have h1:=Rp (nums p.ps) (gJ p) (fun q hq=>by
    obtain⟨r,hr,rfl⟩:=arY.1 hq;have:=wp r hr;show r.2.toNat<=400
    omega)
   have h2:(nums p.ps).length=p.ps.length:=by unfold nums;rw[asf]
   rw[h hw hf,oL];omega⟩⟩
  refine⟨gJ p,ko (gJ p) (nums p.ps),?_,L,h hw hf,?_,?_⟩
  ·show Fit (gJ p) (aP _ _).hs.length (aP _ _).m.length
   rw[e1,e2];exact F
  ·show(aP _ _).hs=_
   rw[nO]
  ·show(aP _ _).m=_
   rw[nO]
 ·exact o
theorem A8 (o:mM p)(hf:p.fr=true)(hn:n<=p.us.length):p.us.all (fT p.hs.length p.m.length)=true/\(∀u∈p.us,u.Ok/\u.bs.length<=4096/\u.lost.length<=p.hs.length)/\(∀h∈(bI (p.hs,p.m) (p.us.drop (p.us.length-n))).1,h.Ok/\may h=true)/\(bI (p.hs,p.m) (p.us.drop (p.us.length-n))).1.length=p.hs.length/\(bI (p.hs,p.m) (p.us.drop (p.us.length-n))).2.length=p.m.length:=by obtain⟨s,t,F,L,e1,e2,e3⟩:=o.un hf;have U:=A7 o.m4 t s F L;have hl:=oL t s;rw[<-e1]at U hl;have B:=MF F L (p.us.length-n) ab;rw[<-e1,<-e2,<-e3]at B;have L2:=yR (b:=t.drop (p.us.length-n)) (by rw[asr];exact L);have F2:=AZ L2 F;rw[B];exact⟨ar0.2 fun u hu=>(U u hu).1,fun u hu=>(U u hu).2,F2.ok,F2.len,F2.mem⟩
end Vp
namespace Vp
variable[Inhabited Hc.bH]
open Go.Sort Mm As
theorem agj:prog.arrayLen 225=24:=al
theorem acH (h1:n<18446744073709551616)(T:ig w):Calls prog 106 #[int .u64 n,int i64 10] w fun e w'=>e=returned (str (dg n))/\Gr w w':=by
 have hd:(⟨(Lib.decDigits n).toArray⟩:ByteArray)=bs (dg n):=by rw[EZ];rfl
 by_cases hs:n<100
 ·have H:Hid (Calls prog 130 #[int i64 n] w fun e w'=>e=returned (str (dg n))/\w=w'):=(Tryz.internal_strconv_small n hs w).mono fun e w' ⟨he,hw⟩=>⟨by rw[he,hd];rfl,hw.symm⟩
  go_enter func106,ntmps106;go_wp2_with fail;refine H.mono ?_;rintro e w1 ⟨rfl,rfl⟩;go_wp2_with fail;go_ret;exact⟨rfl,Gr.refl _⟩
 ·have hu1:1<=n:=ab;have hnd20:Lib.nDigits n<=20:=by have:=Lib.numDigits_eq n hu1 h1;split at this<;>omega
  have htab:=T.pw;have hH0:=Lib.holds_zero0 w 225 (Lib.nDigits n) ab;have hfmt:=Tryz.internal_strconv_formatBase10 w.heap.size 0 24 n (Array.replicate (Lib.nDigits n) 0) (w.alloc (cells Lib.zeros24 225)) hH0 (by rw[as9];exact Lib.lt_pow_nDigits n) h1 (by rw[as9];omega);rw[as9]at hfmt;have HF:=kH hfmt;have HN:Hid (Calls prog 131 #[int .u64 n] (w.alloc (cells Lib.zeros24 225)) fun e w'=>e=returned (int i64 (Lib.nDigits n))/\(w.alloc (cells Lib.zeros24 225))=w'):=(Tryz.internal_strconv_numDigits n hu1 h1 _ (Lib.tabIs_alloc htab _)).mono fun e w' ⟨he,hw⟩=>⟨he,hw.symm⟩
  have HH0:=kH hH0;have HD:=kH hd;have hdl:=kH (Lib.decDigits_length n);have HRN:Hid (∀(v':Nat) (dk:Array UInt8),Lib.FmtInv (Lib.nDigits n) n 0 v' dk->∀j (hj:j<(Lib.decDigits n).length),_):=fun v' dk h j hj=>Lib.row_is_numeral h j hj
  have hsl:∀W,(Instr.sliceAt 225 (pointer (some ⟨w.heap.size,0,none⟩)) none (some (int i64 (Lib.nDigits n:Int))) none).run prog W=.ok (slice (some ⟨w.heap.size,0,none⟩) (Lib.nDigits n) 24) W:=fun W=>by
   rw[run_sliceAt_array_h W 225 ⟨w.heap.size,0,none⟩ (by simp[Program.arrayLen,Program.elem,underlying225]) i64 (Lib.nDigits n:Int) ab (by rw[agj];omega)];rw[agj];go_simp
  generalize Lib.nDigits n=nd at *
  go_enter func106,ntmps106;go_wp2_with fail;refine HN.mono ?_;rintro e _ ⟨rfl,rfl⟩;go_wp2_with fail;refine HF.mono ?_;rintro e w' ⟨rfl,k,v',dk,rfl,hF⟩;have hcv:(convert 25 9 (slice (some ⟨w.heap.size,0,none⟩) nd 24)).run prog ((putRow (fun(b:UInt8)=>Value.int .u8 (b.toNat:Int)) (w.alloc (cells Lib.zeros24 225)) w.heap.size 0 dk).drewN k)=.ok (str (dg n)) ((putRow (fun(b:UInt8)=>Value.int .u8 (b.toNat:Int)) (w.alloc (cells Lib.zeros24 225)) w.heap.size 0 dk).drewN k):=by
   have h:=run_convert_bytes_back (P:=prog) ((putRow (fun(b:UInt8)=>Value.int .u8 (b.toNat:Int)) (w.alloc (cells Lib.zeros24 225)) w.heap.size 0 dk).drewN k) 25 9 5 ⟨w.heap.size,0,none⟩ 24 (Lib.decDigits n) underlying25 underlying5 underlying9 (fun j hj=>by
    rw[HRN.out v' dk hF j hj,Lib.add_plain,World.cell?_drewN];exact cell?_putRow (fun(b:UInt8)=>Value.int .u8 (b.toNat:Int)) _ w.heap.size 0 _ dk HH0 (by rw[hF.size,as9]) j (by rw[hF.size];rw[hdl.out]at hj;exact hj))
   rw[hdl.out,HD.out]at h;exact h
  go_wp2_with fail;go_ret;obtain⟨os,eo⟩:=Lib.fin_at w (cells Lib.zeros24 225) dk k 0;exact⟨rfl,eo ▸ Lib.below_grow _ w (arA _) k os⟩
theorem A9 (h1:n<18446744073709551616)(T:ig w):Calls prog 82 #[int .u64 n,int i64 10] w fun e w'=>e=returned (str (dg n))/\Gr w w':=by
 have H:=kH (acH h1 T);generalize str (dg n)=V at *
 go_enter func82,ntmps82;go_wp2_with fail;refine H.mono ?_;rintro e w1 ⟨rfl,G⟩;go_wp2_with fail;go_ret;exact⟨rfl,G⟩
theorem Jy {c:Nat}(hc:c<128):∀(L:List Nat),(∀d∈L,d<256)→c∈L→∃A B,L=A++c::B∧Lib.indexByte (L.map UInt8.ofNat) (UInt8.ofNat c)=(A.length:Int)∧splitN c L=A::splitN c B
 |d::L,hl,h=>by
  by_cases hd:d=c
  ·subst hd;exact⟨[],L,rfl,by simp[Lib.indexByte],by simp[splitN]⟩
  ·have hb:(UInt8.ofNat d ==UInt8.ofNat c)=false:=by
    rw[awr];intro e;have e:=congrArg UInt8.toNat e;have:=hl d aq;rw[awY,awY]at e;omega
   obtain⟨A,B,e1,e2,e3⟩:=Jy hc L (fun x hx=>hl x (by simp[hx])) (by simpa[Ne.symm hd]using h);refine⟨d::A,B,by rw[e1];rfl,?_,?_⟩
   ·unfold Lib.indexByte;simp only[asD,hb,Bool.false_eq_true,axF];rw[e2,awm aq];simp only[arM];omega
   ·simp only[splitN,awm hd];rw[e3];rfl
theorem Bg {c:Nat}(hc:c<128):∀(L:List Nat),(∀d∈L,d<256)→c ∉ L→Lib.indexByte (L.map UInt8.ofNat) (UInt8.ofNat c) = -1∧splitN c L=[L]
 | [],_,_=>⟨rfl,rfl⟩
 |d::L,hl,h=>by
  have hd:d≠c:=fun e=>h (by simp[e])
  have hb:(UInt8.ofNat d ==UInt8.ofNat c)=false:=by
   rw[awr];intro e;have e:=congrArg UInt8.toNat e;have:=hl d aq;rw[awY,awY]at e;omega
  have ih:=Bg hc L (fun x hx=>hl x (by simp[hx])) (fun e=>h (by simp[e]));refine⟨?_,?_⟩
  ·unfold Lib.indexByte;simp only[asD,hb,Bool.false_eq_true,axF];rw[ih.1];rfl
  ·simp only[splitN,awm hd];rw[ih.2];rfl
def bT (c:Nat) (L:List Nat):List Nat×List Nat×Bool:=match splitN c L with
 | []=>(L,[],false)
 | [a]=>(a,[],false)
 |a::_=>(a,L.drop (a.length+1),true)
theorem Jz (hco:c=32\/c=10)(hl:∀d∈L,d<256)(hs:L.length<=140737488355328)(w):Calls prog 18 #[string (bs L),string ⟨#[UInt8.ofNat c]⟩] w fun e w'=>e=returned (tuple #[str (bT c L).1,str (bT c L).2.1,.bool (bT c L).2.2])/\Gr w w':=by
 have hc:c<128:=ab;have HX:Hid (Calls prog 40 #[string (bs L),string ⟨#[UInt8.ofNat c]⟩] w fun e w'=>e=returned (tuple #[str (bT c L).1,str (bT c L).2.1,.bool (bT c L).2.2])/\Gr w w'):=by
  have H:Hid (Calls prog 73 #[string (bs L),string ⟨#[UInt8.ofNat c]⟩] w fun e w'=>e=returned (int i64 (Lib.indexByte (bs L).data.toList (UInt8.ofNat c)))/\w=w'):=(Tryz.stringslite_Index_one (bs L) (UInt8.ofNat c) w).mono fun e w' ⟨he,hw⟩=>⟨he,hw.symm⟩
  have hz:=df L;rw[bV]at H;by_cases h:c∈L
  ·obtain⟨A,B,e0,e1,e2⟩:=Jy hc L hl h;rw[e1]at H;have ec:bT c L=(A,B,true):=by
    unfold bT;rw[e2,ji c B];simp only;rw[e0,show A.length+1=(A++[c]).length by simp,show A++c::B=(A++[c])++B by simp,List.drop_left]
   rw[ec];have e3:(bs L).extract 0 A.length=bs A:=by rw[UN,e0,ath]
   have e4:(bs L).extract (A.length+1) (bs L).size=bs B:=by
    rw[UM,e0,show A.length+1=(A++[c]).length by simp,show A++c::B=(A++[c])++B by simp,List.drop_left]
   have hle:A.length+1<=L.length:=by rw[e0];simp
   rw[show str A=string (bs A)from rfl,show str B=string (bs B)from rfl,<-e3,<-e4];clear e1 e2 e0 e3 e4 h hl ec;generalize A.length=i at *
   generalize bs L=s at *
   have h0:(0:Int)<=(i:Int):=ab;have h1:(i:Int)<=(s.size:Int):=ab;have h2:(i:Int)+1<=(s.size:Int):=ab;have h3:(i:Int)+1<9223372036854775808:=ab;clear hz hle hs;rcases hco with rfl|rfl
   all_goals
    clear hc;go_enter func40,ntmps40;go_wp2_with fail;refine H.mono ?_;rintro e _ ⟨rfl,rfl⟩;go_wp2_with fail;go_quiet (fail);go_wp2_with fail;go_ret3;exact⟨rfl,(Gr.refl _).drewN _⟩
  ·obtain⟨e1,e2⟩:=Bg hc L hl h;rw[e1]at H;have ec:bT c L=(L,[],false):=by unfold bT;rw[e2]
   rw[ec];rw[show str L=string (bs L)from rfl];generalize(⟨#[UInt8.ofNat c]⟩:ByteArray)=cb at *
   go_enter func40,ntmps40;go_wp2_with fail;refine H.mono ?_;rintro e _ ⟨rfl,rfl⟩;go_wp2_with fail;go_ret3;exact⟨rfl,Gr.refl _⟩
 generalize(⟨#[UInt8.ofNat c]⟩:ByteArray)=cb at *
 generalize str (bT c L).1=s1 at *
 generalize str (bT c L).2.1=s2 at *
 generalize(bT c L).2.2=t at *
 go_enter func18,ntmps18;go_wp2_with fail;refine HX.mono ?_;rintro e w1 ⟨rfl,G1⟩;go_wp2_with fail;go_ret3;exact⟨rfl,G1⟩
theorem Rv:∀(l:List Nat) (acc:Nat),acc*10 ^ l.length≤vg acc l
 | [],acc=>by simp[vg]
 |d::l,acc=>by
  have:=Rv l (10*acc+(d-48));show acc*10 ^ (l.length+1)<=vg (10*acc+(d-48)) l
  have h2:10*acc*10^l.length<=(10*acc+(d-48))*10^l.length:=asN _ ab;rw[atp,show acc*(10^l.length*10)=10*acc*10^l.length by rw[asO 10 acc,Nat.mul_assoc,asO 10]];omega
theorem Eh {M:Nat}:∀(l:List Nat) (acc u:Nat),(∀d∈l,d<256)→acc≤M→Lib.parseUintM M acc (l.map UInt8.ofNat)=.ok u→(∀d∈l,EX d)∧u=vg acc l∧u≤M
 | [],acc,u,_,ha,h=>by
  simp only[atv,Lib.parseUintM,Lib.NumEnd.ok.injEq]at h;exact⟨aq,h.symm,ab⟩
 |d::l,acc,u,hl,ha,h=>by
  have hd:=hl d aq;have e:(UInt8.ofNat d).toNat=d:=by rw[awY];omega
  rw[asD,Lib.parseUintM,e]at h;split at h
  ·rename_i h1;split at h
   ·cases h
   ·split at h
    ·cases h
    ·rename_i h3;rw[show acc*10+(d-48)=10*acc+(d-48)by omega]at h h3;obtain⟨k1,k2,k3⟩:=Eh l _ u (fun x hx=>hl x (by simp[hx])) ab h;refine⟨fun x hx=>?_,k2,k3⟩;rcases arG.1 hx with rfl|hx
     ·exact h1
     ·exact k1 x hx
  ·cases h
theorem ZH (l):vl l=vg 0 l:=rfl
theorem uU:s.all (fun d=>decide (48<=d/\d<=57))=true↔∀d∈s,EX d:=by rw[ar0];exact⟨fun h d hd=>axu (h d hd),fun h d hd=>awC (h d hd)⟩
theorem acI (hl:∀d∈L,d<256)(h:Lib.parseUintB 32 (L.map UInt8.ofNat)=.ok u):L≠[]/\u<4294967296/\gB L=if L.head?=some 48/\1<L.length then none else some u:=by
 unfold Lib.parseUintB at h;split at h
 ·cases h
 rename_i hne;have hne:L≠[]:=fun e=>hne (by rw[e];rfl)
 obtain⟨h1,h2,h3⟩:=Eh L 0 u hl (arQ _) h;refine⟨hne,ab,?_⟩;have hpos:1<=L.length:=by
  rcases L with _|⟨a,t⟩
  ·exact absurd rfl hne
  ·simp
 by_cases hz:L.head?=some 48/\1<L.length
 ·rw[awn hz];unfold gB;rw[awn (.inr (.inr hz))]
 ·rw[awm hz];have hlen:L.length<=10:=by
   rcases Nat.lt_or_ge 10 L.length with hb|hb
   ·exfalso
    match L,hne with
    |a::t,_=>
     have ha:=h1 a aq;unfold EX at ha;have aoA:a≠48:=fun e=>hz ⟨by simp[e],ab⟩
     have hp:=Rv t (10*0+(a-48));have e:vg 0 (a::t)=vg (10*0+(a-48)) t:=rfl;rw[<-e,<-h2]at hp;have ht:10<=t.length:=by simp at hb;omega
     have h10:10^10<=10^t.length:=asI ab ht;have:1*10^t.length<=(10*0+(a-48))*10^t.length:=asN _ ab;omega
   ·exact hb
  unfold gB;rw[awm (by rintro(h|h|h)<;>first|omega|exact hz h),awn (uU.2 h1),ZH,<-h2,eB]
theorem acJ (h:∀u,Lib.parseUintB 32 (L.map UInt8.ofNat)≠.ok u):gB L=none:=by
 unfold gB;split
 ·rfl
 ·rename_i hc;split
  ·rename_i ha;split
   ·rename_i hv;have h1:=uU.1 ha;refine absurd ?_ (h (vg 0 L));unfold Lib.parseUintB;rw[awm (by intro e;apply hc;left;rw[atx.1 e];simp)];rw[ZH]at hv;exact Y6 an L 0 h1 ab
   ·rfl
  ·rfl
theorem Ei {p}(hL:∀x∈L,x<256)(hp:p<L.length)(w):(Instr.index 9 (string (bs L)) (int i64 (p:Int))).run prog w=.ok (int .u8 ((L[p]:Nat):Int)) w:=by
 have hp':p<(bs L).size:=by rw[df];exact hp
 have e0:((bs L)[p]'hp').toNat=L[p]:=by
  have e:(bs L)[p]'hp'=UInt8.ofNat L[p]:=by
   show(bs L).data[p]=_
   simp only[bs,arx,List.getElem_map]
  have:=hL _ (as8 hp);rw[e,awY];omega
 rw[run_index_string (h:=underlying9),dif_pos ⟨ab,ab⟩];simp only[arS,e0]
theorem jr {A B}(ha:∀c∈A,c<256)(hb:∀c∈B,c<256):((bs A).toList ==(bs B).toList)=decide (A=B):=by
 rw[ar1,ar1];by_cases h:A=B
 ·subst h;simp
 ·rw[awq h,awr];exact fun e=>h (EY ha hb (pG e))
def nv (o:Option Nat):Value:=match o with
 |none=>tuple #[int .u32 0,.bool false]
 |some n=>tuple #[int .u32 n,.bool true]
theorem MH (hl:∀d∈L,d<256)(hs:L.length<=140737488355328)(E:Oh w):Calls prog 102 #[string (bs L),int i64 10,int i64 32] w fun e w'=>((∃u:Nat,e=returned (tuple #[int .u64 u,.nilIface])/\Lib.parseUintB 32 (L.map UInt8.ofNat)=.ok u)\/((∃(u:Nat) (a:TypeId) (b:Value),e=returned (tuple #[int .u64 u,.iface a b]))/\∀u,Lib.parseUintB 32 (L.map UInt8.ofNat)≠.ok u))/\Gr w w':=by
 obtain⟨⟨a,b,h1⟩,c,d,h2⟩:=E;have hz:=df L;rcases h:Lib.parseUintB 32 (bs L).data.toList with v|_|_
 ·
  rw[bV]at h;refine(Tryz.strconv_ParseUint_10_at32_ok (bs L) ab v (by rw[bV];exact h) w).mono ?_;rw[h];rintro e w' ⟨rfl,rfl|rfl⟩
  ·exact⟨.inl ⟨v,rfl,rfl⟩,Gr.refl _⟩
  ·exact⟨.inl ⟨v,rfl,rfl⟩,Lib.bytesWorld_below _ _ _⟩
 ·
  refine(Tryz.strconv_ParseUint_10_at32_bad (bs L) ab (fun r e=>by rw[h]at e;subst e;exact⟨fun u e=>(by cases e),fun e=>(by cases e)⟩) _ w h1 (.inr ⟨a,b,rfl⟩)).mono ?_;rw[bV]at h;rintro e w' ⟨N,rfl,_,_,G⟩;exact⟨.inr ⟨⟨0,_,_,rfl⟩,fun u=>by rw[h];exact fun e=>(by cases e)⟩,G⟩
 ·
  refine(Tryz.strconv_ParseUint_10_at32_range (bs L) ab h _ w h2 (.inr ⟨c,d,rfl⟩)).mono ?_;rw[bV]at h;rintro e w' ⟨N,rfl,_,_,G⟩;exact⟨.inr ⟨⟨4294967295,_,_,rfl⟩,fun u=>by rw[h];exact fun e=>(by cases e)⟩,G⟩
theorem XG (hl:∀d∈L,d<256)(hs:L.length<=140737488355328)(E:Oh w):Calls prog 75 #[str L] w fun e w'=>e=returned (nv (gB L))/\Gr w w':=by
 have H:=MH hl hs E;by_cases hp:∃u,Lib.parseUintB 32 (L.map UInt8.ofNat)=.ok u
 ·obtain⟨u,hu⟩:=hp;obtain⟨hne,hb,hn⟩:=acI hl hu;have H1:Hid (Calls prog 102 #[str L,int i64 10,int i64 32] w fun e w'=>e=returned (tuple #[int .u64 u,.nilIface])/\Gr w w'):=H.mono fun e w' ⟨h,G⟩=>⟨by
   rcases h with⟨v,he,hv⟩|⟨_,hv⟩
   ·rw[hu]at hv;injection hv with hv;rw[he,hv]
   ·exact absurd hu (hv u),G⟩
  rw[hn];clear hn H hu E;have hpos:0<L.length:=atd.2 hne;have hix:∀w:World,(Instr.index 9 (string (bs L)) (int i64 0)).run prog w=.ok (int .u8 ((L[0]:Nat):Int)) w:=fun w=>Ei hl hpos w
  have hbq:=jr hl (B:=[48]) aq;have aoB:IntKind.u32.wrap (u:Int)=(u:Int):=by rw[axx];omega
  have h0:L.head?=some L[0]:=by rw[as3];exact arq hpos
  rw[h0];by_cases ha:L[0]=48
  ·have h1:L=[48]\/1<L.length:=by
    rcases L with _|⟨a,_|⟨b,t⟩⟩
    ·simp at hpos
    ·left;simp at ha;rw[ha]
    ·right;simp
   rw[ha]at hix ⊢;have hb:(⟨#[48]⟩:ByteArray)=bs [48]:=rfl;rcases h1 with rfl|h1
   ·rw[awm aq];clear hbq hne hpos h0 ha hl;have hb2:((bs [48]).toList ==[48])=true:=by rw[ar1,bV];rfl
    rw[show str [48]=string (bs [48])from rfl]at *
    generalize bs [48]=B at *
    clear hb;go_enter func75,ntmps75;go_wp2_with fail;refine H1.mono ?_;rintro e w1 ⟨rfl,G⟩;go_wp2_with fail;go_ret2;exact⟨rfl,G⟩
   ·rw[awn ⟨rfl,h1⟩];have hb2:((bs L).toList ==[48])=false:=by
     rw[show([48]:List UInt8)=(bs [48]).toList by rw[ar1,bV];rfl,hbq,decide_eq_false_iff_not];rintro rfl;simp at h1
    clear hbq hne hpos h0 ha hl;rw[show str L=string (bs L)from rfl]at *
    generalize bs L=B at *
    clear hb h1 hs;go_enter func75,ntmps75;go_wp2_with fail;refine H1.mono ?_;rintro e w1 ⟨rfl,G⟩;go_wp2_with fail;go_ret2;exact⟨rfl,G⟩
  ·rw[awm (fun h=>ha (aws h.1))];have ha2:((L[0]:Nat):Int)≠48:=ab;rw[show str L=string (bs L)from rfl]at *
   generalize L[0]=a at *
   generalize bs L=B at *
   go_enter func75,ntmps75;go_wp2_with fail;refine H1.mono ?_;rintro e w1 ⟨rfl,G⟩;go_wp2_with fail;go_ret2;exact⟨rfl,G⟩
 ·have hno:∀u,Lib.parseUintB 32 (L.map UInt8.ofNat)≠.ok u:=fun u hu=>hp ⟨u,hu⟩
  have H1:Hid (Calls prog 102 #[str L,int i64 10,int i64 32] w fun e w'=>(∃(u:Nat) (a:TypeId) (b:Value),e=returned (tuple #[int .u64 u,.iface a b]))/\Gr w w'):=H.mono fun e w' ⟨h,G⟩=>⟨by
   rcases h with⟨v,he,hv⟩|⟨h,_⟩
   ·exact absurd hv (hno v)
   ·exact h,G⟩
  rw[acJ hno];generalize str L=V at *
  go_enter func75,ntmps75;go_wp2_with fail;refine H1.mono ?_;rintro e w1 ⟨⟨u,a,b,rfl⟩,G⟩;go_wp2_with fail;go_ret2;exact⟨rfl,G⟩
end Vp
namespace Vp
variable[Inhabited Hc.bH]
open Mm Hh Hc Mc Ud As
variable{ao:Option Addr}
variable{L:List (List Nat)}
structure Ns (K:IntKind) (w:World) (ao:Option Addr) (n:Nat) (l:List Nat):Prop where
 len:l.length=n
 spot:0<n->∃b o,ao=some ⟨b,o,none⟩/\b<w.heap.size/\∀(t x:Nat),l[t]?=some x->w.cell? ⟨b,o+t,none⟩=some (int K x)
theorem Ns.of {K}(h:Ns K w ao n l)(G:Gr w w'):Ns K w' ao n l:=
 ⟨h.len,fun hn=>by
  obtain⟨b,o,e,hb,hc⟩:=h.spot hn;exact⟨b,o,e,arD hb G.size,fun t x hx=>(G.cell _ (by exact hb)).trans (hc t x hx)⟩⟩
structure Ts (w:World) (ao:Option Addr) (n:Nat) (L:List (List Nat)):Prop where
 len:L.length=n
 spot:0<n->∃b o,ao=some ⟨b,o,none⟩/\b<w.heap.size/\∀(t:Nat) (x:List Nat),L[t]?=some x->w.cell? ⟨b,o+t,none⟩=some (str x)
theorem Ts.of (h:Ts w ao n L)(G:Gr w w'):Ts w' ao n L:=
 ⟨h.len,fun hn=>by
  obtain⟨b,o,e,hb,hc⟩:=h.spot hn;exact⟨b,o,e,arD hb G.size,fun t x hx=>(G.cell _ (by exact hb)).trans (hc t x hx)⟩⟩
theorem yX:(prog.info? 9).map (fun i=>(i.zero,i.size,i.bytes))=some (some (string ⟨#[]⟩),1,16):=al
theorem XH (L:List (List Nat)):∀u∈L.map str,u.oneCell'=true:=by intro u hu;obtain⟨x,_,rfl⟩:=arY.1 hu;rfl
theorem kM {t:Nat}(h:w.heap[b]?=some (cells #[v] t f)):∀j u,([v]:List Value)[j]?=some u->w.cell? ((⟨b,0,none⟩:Addr).add j)=some u:=by intro j u hj;rw[cK,arH,cr h];simpa using hj
theorem Ts.own (h:w.ownsRow base 9 1 (slice ao n c) n (L.map str)):Ts w ao n L:=by
 obtain⟨hl,h⟩:=h;simp only[asf,Nat.mul_one]at hl;refine⟨hl,fun hn=>?_⟩;rcases h with⟨h0,h1⟩|⟨g,cap,cur,hv,_,hg,_,_,_,ht⟩
 ·omega
 ·injection hv with hv;refine⟨g,0,hv,(gs hg).1,fun t x hx=>?_⟩;have e:=congrArg (fun l=>l[t]?) ht;simp only[ar3,hx,ar6]at e;rw[arH,cr hg];rw[ar9]at e;split at e
  ·simpa using e
  ·cases e
theorem acK (h:Ts w ao n L)(hc:ao=none->c=0):Src w (slice ao n c) n 1 (L.map str):=by
 by_cases hn:0<n
 ·obtain⟨b,o,rfl,hb,hc⟩:=h.spot hn;refine .inr ⟨_,c,rfl,by simp[h.len],fun j u hj=>?_⟩;rw[ar3]at hj;obtain⟨x,hx,rfl⟩:=asM.1 hj;rw[cK];exact hc j x hx
 ·have h0:n=0:=ab;subst h0;have hL:=asa h.len;subst hL;cases ao with
  |none=>rw[hc rfl];exact .inl ⟨rfl,rfl,rfl⟩
  |some ad=>exact .inr ⟨ad,c,rfl,rfl,fun j u hj=>by simp at hj⟩
theorem Rx (N:Ns i64 w ao n l)(hl:∀x∈l,x<9223372036854775808)(hn:n<=1000000)(T:ig w):Calls prog 52 #[slice ao n c] w fun e w'=>∃a k,e=returned (slice a n k)/\w'.ownsRow w.heap.size 9 1 (slice a n k) n ((l.map dg).map str)/\Gr w w':=by
 obtain⟨i0,hi,hz0,hz1,hz2⟩:=awS yX;have HN:=kH N;have HL:=kH hl;have HT:=kH T;go_enter func52,ntmps52;go_wp2_with fail;go_loopw [3,8] (fun s i wr=>∃k:Nat,k<=n/\i=int i64 k/\(∃a c,s=slice a k c)/\wr.ownsRow w.heap.size 9 1 s k (((l.take k).map dg).map str)/\Gr w wr) (fun _ i _=>n-(intOf i).toNat)
 case atStart=>exact⟨0,arQ _,rfl,⟨none,0,rfl⟩,awG _ _ _ _,Gr.refl _⟩
 case round=>
  obtain⟨k,hk,rfl,⟨a1,c1,rfl⟩,O,G⟩:=hrel;have HG:=kH G;by_cases hlt:k<n
  ·obtain⟨b,o,rfl,hb,hc⟩:=HN.spot ab;obtain⟨x,hx⟩:∃x,l[k]?=some x:=⟨_,arq (by rw[HN.out.len];exact hlt)⟩;have hx1:=HL x (arE hx);have k1:=(G.cell _ (by exact hb)).trans (hc k x hx);have hwr:IntKind.u64.wrap (x:Int)=(x:Int):=by rw[axw];omega
   have HF:Hid (∀W:World,ig W->Calls prog 82 #[int .u64 x,int i64 10] W fun e w'=>e=returned (str (dg x))/\Gr W w'):=fun W T=>A9 ab T
   have HE:Hid (((l.take (k+1)).map dg).map str=((l.take k).map dg).map str++[str (dg x)]):=by
    unfold Hid;rw[arW,hx];simp
   have HO:=kH O;generalize((l.take k).map dg).map str=old at *
   have Rz:Hid (∀u∈[str (dg x)],u.oneCell'=true):=fun u hu=>by rw[arL.1 hu];rfl
   rw[show str (dg x)=string (bs (dg x))from rfl]at *
   generalize bs (dg x)=V at *
   go_wp2_with fail;refine(HF _ (HT.of HG)).mono ?_;rintro e w1 ⟨rfl,G1⟩;have aU:=kH G1;go_wp2_with (at_builtin;refine awW _ rfl (tmp 12) (tmp 16) 22 rfl w.heap.size 9 i0 (string ⟨#[]⟩) 1 16 underlying22 hi hz0 hz1 hz2 rfl an (slice a1 k c1) k old rfl (aD HO (aU.alloc _)) ⟨w1.heap.size,0,none⟩ 1 1 [string V] rfl rfl (kM (awk w1 _)) ?one bj ab (by have:=HG.size;have:=aU.size;simp;omega) ?_;(case one=>exact Rz);intro v' w2 hown hgrow _;obtain⟨_,_,a2,c2,rfl⟩:=au hown);have kT:=kH hown;have HG2:=kH ((HG.trans (aU.alloc _)).grown hgrow (fun b hb=>(HO.lt b hb).1));go_wp2_with fail;go_roundw
   case rel=>exact⟨k+1,ab,by go_num,⟨a2,c2,rfl⟩,by rw[HE.out];exact kT,HG2⟩
   case measure=>simp[intOf];omega
  ·have e0:k=n:=ab;have HO:Hid (wr.ownsRow w.heap.size 9 1 (slice a1 n c1) n ((l.map dg).map str)):=by
    unfold Hid;rw[e0,ar5 (by rw[HN.out.len];omega)]at O;exact O
   subst e0;go_wp2_with fail;go_ret;exact⟨a1,c1,rfl,HO,HG⟩
theorem acL (N:Ns .u32 w ao n l)(hl:∀x∈l,x<4294967296)(hn:n<=1000000)(T:ig w):Calls prog 79 #[slice ao n c] w fun e w'=>∃a k,e=returned (slice a n k)/\w'.ownsRow w.heap.size 9 1 (slice a n k) n ((l.map dg).map str)/\Gr w w':=by
 obtain⟨i0,hi,hz0,hz1,hz2⟩:=awS yX;have HN:=kH N;have HL:=kH hl;have HT:=kH T;go_enter func79,ntmps79;go_wp2_with fail;go_loopw [3,8] (fun s i wr=>∃k:Nat,k<=n/\i=int i64 k/\(∃a c,s=slice a k c)/\wr.ownsRow w.heap.size 9 1 s k (((l.take k).map dg).map str)/\Gr w wr) (fun _ i _=>n-(intOf i).toNat)
 case atStart=>exact⟨0,arQ _,rfl,⟨none,0,rfl⟩,awG _ _ _ _,Gr.refl _⟩
 case round=>
  obtain⟨k,hk,rfl,⟨a1,c1,rfl⟩,O,G⟩:=hrel;have HG:=kH G;by_cases hlt:k<n
  ·obtain⟨b,o,rfl,hb,hc⟩:=HN.spot ab;obtain⟨x,hx⟩:∃x,l[k]?=some x:=⟨_,arq (by rw[HN.out.len];exact hlt)⟩;have hx1:=HL x (arE hx);have k1:=(G.cell _ (by exact hb)).trans (hc k x hx);have hwr:IntKind.u64.wrap (x:Int)=(x:Int):=by rw[axw];omega
   have HF:Hid (∀W:World,ig W->Calls prog 82 #[int .u64 x,int i64 10] W fun e w'=>e=returned (str (dg x))/\Gr W w'):=fun W T=>A9 ab T
   have HE:Hid (((l.take (k+1)).map dg).map str=((l.take k).map dg).map str++[str (dg x)]):=by
    unfold Hid;rw[arW,hx];simp
   have HO:=kH O;generalize((l.take k).map dg).map str=old at *
   have Rz:Hid (∀u∈[str (dg x)],u.oneCell'=true):=fun u hu=>by rw[arL.1 hu];rfl
   rw[show str (dg x)=string (bs (dg x))from rfl]at *
   generalize bs (dg x)=V at *
   go_wp2_with fail;refine(HF _ (HT.of HG)).mono ?_;rintro e w1 ⟨rfl,G1⟩;have aU:=kH G1;go_wp2_with (at_builtin;refine awW _ rfl (tmp 12) (tmp 16) 22 rfl w.heap.size 9 i0 (string ⟨#[]⟩) 1 16 underlying22 hi hz0 hz1 hz2 rfl an (slice a1 k c1) k old rfl (aD HO (aU.alloc _)) ⟨w1.heap.size,0,none⟩ 1 1 [string V] rfl rfl (kM (awk w1 _)) ?one bj ab (by have:=HG.size;have:=aU.size;simp;omega) ?_;(case one=>exact Rz);intro v' w2 hown hgrow _;obtain⟨_,_,a2,c2,rfl⟩:=au hown);have kT:=kH hown;have HG2:=kH ((HG.trans (aU.alloc _)).grown hgrow (fun b hb=>(HO.lt b hb).1));go_wp2_with fail;go_roundw
   case rel=>exact⟨k+1,ab,by go_num,⟨a2,c2,rfl⟩,by rw[HE.out];exact kT,HG2⟩
   case measure=>simp[intOf];omega
  ·have e0:k=n:=ab;have HO:Hid (wr.ownsRow w.heap.size 9 1 (slice a1 n c1) n ((l.map dg).map str)):=by
    unfold Hid;rw[e0,ar5 (by rw[HN.out.len];omega)]at O;exact O
   subst e0;go_wp2_with fail;go_ret;exact⟨a1,c1,rfl,HO,HG⟩
theorem acM (N:Ns i64 w ao n l)(hl:∀x∈l,x<9223372036854775808)(hn:n<=1000000)(T:ig w):Calls prog 128 #[slice ao n c] w fun e w'=>∃a k,e=returned (slice a n k)/\w'.ownsRow w.heap.size 9 1 (slice a n k) n ((l.map dg).map str)/\Gr w w':=by
 obtain⟨i0,hi,hz0,hz1,hz2⟩:=awS yX;have HN:=kH N;have HL:=kH hl;have HT:=kH T;go_enter func128,ntmps128;go_wp2_with fail;go_loopw [3,8] (fun s i wr=>∃k:Nat,k<=n/\i=int i64 k/\(∃a c,s=slice a k c)/\wr.ownsRow w.heap.size 9 1 s k (((l.take k).map dg).map str)/\Gr w wr) (fun _ i _=>n-(intOf i).toNat)
 case atStart=>exact⟨0,arQ _,rfl,⟨none,0,rfl⟩,awG _ _ _ _,Gr.refl _⟩
 case round=>
  obtain⟨k,hk,rfl,⟨a1,c1,rfl⟩,O,G⟩:=hrel;have HG:=kH G;by_cases hlt:k<n
  ·obtain⟨b,o,rfl,hb,hc⟩:=HN.spot ab;obtain⟨x,hx⟩:∃x,l[k]?=some x:=⟨_,arq (by rw[HN.out.len];exact hlt)⟩;have hx1:=HL x (arE hx);have k1:=(G.cell _ (by exact hb)).trans (hc k x hx);have hwr:IntKind.u64.wrap (x:Int)=(x:Int):=by rw[axw];omega
   have HF:Hid (∀W:World,ig W->Calls prog 82 #[int .u64 x,int i64 10] W fun e w'=>e=returned (str (dg x))/\Gr W w'):=fun W T=>A9 ab T
   have HE:Hid (((l.take (k+1)).map dg).map str=((l.take k).map dg).map str++[str (dg x)]):=by
    unfold Hid;rw[arW,hx];simp
   have HO:=kH O;generalize((l.take k).map dg).map str=old at *
   have Rz:Hid (∀u∈[str (dg x)],u.oneCell'=true):=fun u hu=>by rw[arL.1 hu];rfl
   rw[show str (dg x)=string (bs (dg x))from rfl]at *
   generalize bs (dg x)=V at *
   go_wp2_with fail;refine(HF _ (HT.of HG)).mono ?_;rintro e w1 ⟨rfl,G1⟩;have aU:=kH G1;go_wp2_with (at_builtin;refine awW _ rfl (tmp 12) (tmp 16) 22 rfl w.heap.size 9 i0 (string ⟨#[]⟩) 1 16 underlying22 hi hz0 hz1 hz2 rfl an (slice a1 k c1) k old rfl (aD HO (aU.alloc _)) ⟨w1.heap.size,0,none⟩ 1 1 [string V] rfl rfl (kM (awk w1 _)) ?one bj ab (by have:=HG.size;have:=aU.size;simp;omega) ?_;(case one=>exact Rz);intro v' w2 hown hgrow _;obtain⟨_,_,a2,c2,rfl⟩:=au hown);have kT:=kH hown;have HG2:=kH ((HG.trans (aU.alloc _)).grown hgrow (fun b hb=>(HO.lt b hb).1));go_wp2_with fail;go_roundw
   case rel=>exact⟨k+1,ab,by go_num,⟨a2,c2,rfl⟩,by rw[HE.out];exact kT,HG2⟩
   case measure=>simp[intOf];omega
  ·have e0:k=n:=ab;have HO:Hid (wr.ownsRow w.heap.size 9 1 (slice a1 n c1) n ((l.map dg).map str)):=by
    unfold Hid;rw[e0,ar5 (by rw[HN.out.len];omega)]at O;exact O
   subst e0;go_wp2_with fail;go_ret;exact⟨a1,c1,rfl,HO,HG⟩
end Vp
namespace Vp
variable[Inhabited Hc.bH]
open Mm Hh Hc Mc Ud As
theorem nR {c}(hc:c<128)(hl:∀d∈L,d<256):(bT c L).1=(splitN c L).headD []/\(∀d∈(bT c L).1,d<256)/\(∀d∈(bT c L).2.1,d<256)/\(bT c L).1.length<=L.length/\ ((bT c L).2.2=true->splitN c (bT c L).2.1=(splitN c L).tail/\(bT c L).2.1.length<L.length)/\((bT c L).2.2=false->(splitN c L).tail=[]/\(bT c L).2.1=[]):=by
 by_cases h:c∈L
 ·obtain⟨A,B,e0,_,e2⟩:=Jy hc L hl h;have ec:bT c L=(A,B,true):=by
   unfold bT;rw[e2,ji c B];simp only;rw[e0,show A.length+1=(A++[c]).length by simp,show A++c::B=(A++[c])++B by simp,List.drop_left]
  rw[ec,e2];refine⟨rfl,fun d hd=>hl d (by rw[e0];simp[hd]),fun d hd=>hl d (by rw[e0];simp[hd]),by rw[e0];simp,fun _=>⟨rfl,by rw[e0];simp;omega⟩,fun h=>by cases h⟩
 ·obtain⟨_,e2⟩:=Bg hc L hl h;have ec:bT c L=(L,[],false):=by unfold bT;rw[e2]
  rw[ec,e2];exact⟨rfl,hl,fun d hd=>(by cases hd),arA _,fun h=>(by cases h),fun _=>⟨rfl,rfl⟩⟩
theorem XI (h:gB s=some n):1<=s.length:=by
 unfold gB at h;split at h
 ·cases h
 ·omega
theorem sW (s:List Nat)(r:List (List Nat)):aS (s::r)=match gB s with
  |none=>none
  |some n=>(aS r).map (n::·):=by
 rw[aS];cases gB s with
 |none=>rfl
 |some n=>cases aS r<;>rfl
def rdQ (dn R:List Nat) (mo:Bool):Option (List Nat):=if mo=true then(aS (splitN 32 R)).map (dn++·)else some dn
def RdA (N:Nat) (w:World) (L:List Nat) (e:Ending):Prop:=match aS (splitN 32 L).tail with
 |none=>e=returned (tuple #[string ⟨#[]⟩,slice none 0 0,.bool false])
 |some l=>∃a c,e=returned (tuple #[str ((splitN 32 L).headD []),slice a l.length c,.bool true])/\Ns .u32 w a l.length l/\∀b o,a=some ⟨b,o,none⟩->N<=b
def szV (v:Value):Nat:=match v with
 | string s=>s.size
 |_=>0
def msR (r m:Value):Nat:=match m with
 | .bool true=>szV r+1
 |_=>0
theorem vo:(prog.info? 37).map (fun i=>(i.zero,i.size,i.bytes))=some (some (Value.int .u32 0),1,4):=al
theorem Ns.own (h:w.ownsRow base 37 1 (slice a l.length c) l.length (l.map fun x:Nat=>Value.int .u32 (x:Int))):Ns .u32 w a l.length l:=by
 obtain⟨_,h⟩:=h;refine⟨rfl,fun hn=>?_⟩;rcases h with⟨h0,h1⟩|⟨g,cap,cur,hv,_,hg,_,_,_,ht⟩
 ·omega
 ·injection hv with hv;refine⟨g,0,hv,(gs hg).1,fun t x hx=>?_⟩;have e:=congrArg (fun l=>l[t]?) ht;simp only[ar3,hx,ar6]at e;rw[arH,cr hg];rw[ar9]at e;split at e
  ·rw[asV]at e;exact e
  ·cases e
theorem vI (hl:∀d∈L,d<256)(hs:L.length<=4000000)(E:Oh w):Calls prog 42 #[str L] w fun e w'=>RdA w.heap.size w' L e/\Gr w w':=by
 obtain⟨i0,hi,hz0,hz1,hz2⟩:=awS vo;have HC:Hid (∀(M:List Nat),(∀d∈M,d<256)->M.length<=4000000->∀W:World,_):=fun M h1 h2 W=>Jz (.inl rfl) h1 ab W
 have HN:Hid (∀(M:List Nat),(∀d∈M,d<256)->M.length<=4000000->∀W:World,Gr w W->_):=fun M h1 h2 W G=>XG h1 ab (E.of G)
 obtain⟨s1,s2,s3,s4,s5,s6⟩:=nR (c:=32) ab hl;have qY:=kH hl;have HS:=kH hs;have HQ0:Hid (rdQ [] (bT 32 L).2.1 (bT 32 L).2.2=aS (splitN 32 L).tail):=by
  unfold Hid rdQ;cases ht:(bT 32 L).2.2 with
  |true=>
   rw[awn rfl,(s5 ht).1];cases aS (splitN 32 L).tail<;>rfl
  |false=>rw[awm aq,(s6 ht).1];rfl
 have HR0:Hid ((∀d∈(bT 32 L).2.1,d<256)/\(bT 32 L).2.1.length<=L.length):=⟨s3,by
  cases ht:(bT 32 L).2.2 with
  |true=>have:=(s5 ht).2;omega
  |false=>rw[(s6 ht).2];simp⟩
 have HH:Hid (str (bT 32 L).1=str ((splitN 32 L).headD [])):=by unfold Hid;rw[s1]
 have hcut:=HC L hl hs w;rw[show str L=string (bs L)from rfl];have HC0:=kH hcut;clear hcut s1 s2 s3 s4 s5 s6 hl hs E;generalize bs L=B at *
 generalize str (bT 32 L).1=V1 at *
 obtain⟨R0,hR0⟩:∃R0,R0=(bT 32 L).2.1:=⟨_,rfl⟩;obtain⟨t0,ht0⟩:∃t0,t0=(bT 32 L).2.2:=⟨_,rfl⟩;rw[<-hR0,<-ht0]at HC0 HQ0;rw[<-hR0]at HR0;clear hR0 ht0;go_enter func42,ntmps42;go_wp2_with fail;refine HC0.mono ?_;rintro e w1 ⟨rfl,G1⟩;have aU:Hid (Gr w w1):=G1;clear G1 HC0;go_wp2_with fail;go_loopw [6,7,8] (fun r m s wr=>∃(dn R:List Nat) (mo:Bool) (a:Option Addr) (c:Nat),r=str R/\m=.bool mo/\s=slice a dn.length c/\wr.ownsRow w.heap.size 37 1 s dn.length (dn.map fun x:Nat=>Value.int .u32 (x:Int))/\Gr w wr/\(∀d∈R,d<256)/\dn.length+R.length<=L.length/\rdQ dn R mo=aS (splitN 32 L).tail) (fun r m _ _=>msR r m)
 case atStart=>exact⟨[],R0,t0,none,0,rfl,rfl,rfl,awG _ _ _ _,aU,HR0.1,by have:=HR0.2;simp;omega,HQ0⟩
 case round=>
  obtain⟨dn,R,mo,a1,c1,rfl,rfl,rfl,O,G,hR,hlen,hq⟩:=hrel;have HG:=kH G;have HO:=kH O;have HQ:=kH hq;have HRR:=kH hR;have BV:=kH hlen;cases mo with
  |false=>
   go_wp2_with fail;go_ret3;refine⟨?_,HG⟩;unfold RdA;rw[<-HQ.out];unfold rdQ;rw[awm aq];exact⟨a1,c1,congrArg (fun v=>Ending.returned (tuple #[v,slice a1 dn.length c1,.bool true])) HH,Ns.own HO,fun b o hb=>by subst hb;exact(HO.lt b rfl).1⟩
  |true=>
   obtain⟨s1,s2,s3,s4,s5,s6⟩:=nR (c:=32) ab HRR;have gH:=kH s1;have HS3:=kH s3;have uh:=kH s5;have HS6:=kH s6;have EL:=kH s4;have jw:Hid (∀W:World,_):=fun W=>HC.out R HRR.out (by have:=HS.out;have:=BV.out;omega) W
   have HN1:Hid (∀W:World,Gr w W->_):=fun W G=>HN.out _ s2 (by have:=HS.out;have:=BV.out;omega) W G
   have HD:Hid (rdQ dn R true=(match gB (bT 32 R).1 with
    |none=>none
    |some n=>(aS (splitN 32 R).tail).map ((dn++[n])++·))):=by
    unfold Hid rdQ;have e:=sW ((splitN 32 R).headD []) (splitN 32 R).tail;rw[<-ji 32 R]at e;rw[awn rfl,e,s1];cases gB ((splitN 32 R).headD [])with
    |none=>rfl
    |some n=>
     simp only[Option.map_map];congr 1;funext l;simp
   rw[show str R=string (bs R)from rfl];have HBR:=kH (df R);generalize bs R=BR at *
   generalize(bT 32 R).1=P1 at *
   generalize(bT 32 R).2.1=R1 at *
   generalize(bT 32 R).2.2=t1 at *
   generalize str P1=VP at *
   go_wp2_with fail;refine(jw _).mono ?_;rintro e w2 ⟨rfl,G2⟩;have HG2:=kH G2;go_wp2_with fail;refine(HN1 _ (HG.trans HG2)).mono ?_;rintro e w3 ⟨rfl,G3⟩;have eO:=kH (HG2.trans G3);cases hn:gB P1 with
   |none=>
    rw[show nv none=tuple #[int .u32 0,.bool false]from rfl];go_wp2_with fail;go_ret3;refine⟨?_,HG.trans eO⟩;unfold RdA;rw[<-HQ.out,HD.out,hn];exact rfl
   |some n=>
    rw[show nv (some n)=tuple #[int .u32 n,.bool true]from rfl];have HNN:=kH hn;have hd:dn.length<=4000000:=by have:=HS.out;have:=BV.out;omega
    have HDL:Hid (dn.length=dn.length):=rfl;generalize hdl:dn.length=q at *
    have HDQ:=kH hdl;go_wp2_with (at_builtin;refine awW _ rfl (tmp 32) (tmp 34) 36 rfl w.heap.size 37 i0 (int .u32 0) 1 4 underlying36 hi hz0 hz1 hz2 rfl an (slice a1 q c1) q (dn.map fun x:Nat=>Value.int .u32 (x:Int)) rfl (aD HO (eO.alloc _)) ⟨w3.heap.size,0,none⟩ 1 1 [int .u32 (n:Int)] rfl rfl (kM (awk w3 _)) (fun u hu=>by rw[arL.1 hu];rfl) bj ab (by have:=HG.size;have:=eO.size;simp;omega) ?_;intro v' w4 hown hgrow _;obtain⟨_,_,a2,c2,rfl⟩:=au hown);have kT:=kH hown;have fM:=kH ((HG.trans (eO.alloc _)).grown hgrow (fun b hb=>(HO.lt b hb).1));go_wp2_with fail;go_roundw
    case rel=>
     have e1:(dn++[n]).length=q+1:=by rw[ary,HDQ.out];rfl
     refine⟨dn++[n],R1,t1,a2,c2,rfl,rfl,by rw[e1],by rw[e1,asl];exact kT,fM,HS3,?_,?_⟩
     ·rw[e1];have:=BV;cases t1 with
      |true=>have:=(uh rfl).2;omega
      |false=>
       rw[(HS6.out rfl).2];have h1:=EL;have h2:=XI HNN;have h3:=HDQ;simp only[ar8];omega
     ·rw[<-HQ.out,HD.out,HNN.out];simp only;unfold rdQ;cases t1 with
      |true=>rw[awn rfl,(uh.out rfl).1]
      |false=>rw[awm aq,(HS6.out rfl).1];simp[aS]
    case measure=>
     cases t1 with
     |true=>
      have h1:=(uh rfl).2;have h2:=HBR.out;have h3:=df R1;show(bs R1).size+1<BR.size+1
      omega
     |false=>exact Nat.succ_pos _
end Vp
namespace Ud
variable[Inhabited Hc.bH]
open Mm Hh Hc Mc
variable{w w':World}{u:Uv}{b l:Value}{ao:Option Addr}{n:Nat}
def uL (u:Uv) (b l:Value):List Value:=int i64 u.k::(hL u.was++[int .u32 u.fr,b,l])
theorem ql (o:u.was.Ok):(uL u b l).length=41:=by simp[uL,aF o]
theorem sZ (o:u.was.Ok)(hj:j<37):(uL u b l)[1+j]?=(hL u.was)[j]?:=by have:=aF o;unfold uL;rw[Nat.add_comm,arJ,arO ab]
theorem fo (o:u.was.Ok)(j):(uL u b l)[38+j]?=[Value.int .u32 u.fr,b,l][j]?:=by have h:=aF o;unfold uL;rw[show 38+j=37+j+1 by omega,arJ,arK ab,h,asZ]
theorem acO (h):∀v∈hL h,v.oneCell'=true:=fun v hv=>by simp only[hL,ar7,arY,arG,arN,awQ]at hv;rcases hv with⟨n,_,rfl⟩|rfl|rfl|rfl|rfl|rfl<;>rfl
theorem RA (h1:b.oneCell'=true)(h2:l.oneCell'=true):∀v∈uL u b l,v.oneCell'=true:=fun v hv=>by
 simp only[uL,arG,ar7,arN,awQ]at hv;rcases hv with rfl|h|rfl|rfl|rfl
 ·rfl
 ·exact acO _ v h
 ·rfl
 ·exact h1
 ·exact h2
theorem RB (h1:b.oneCell'=true)(h2:l.oneCell'=true):(uL u b l).toArray.all (·.oneCell')=true:=aw0 (RA h1 h2)
theorem iU:(prog.info? 121).map (·.size)=some 41:=al
def h00:Uv:=⟨0,h0,0,[],[]⟩
theorem zU:(prog.info? 121).bind (·.zero)=some (agg (uL h00 ay ay).toArray):=al
theorem vo:(prog.info? 121).map (fun i=>(i.zero,i.size,i.bytes))=some (some (agg (uL h00 ay ay).toArray),41,224):=al
theorem qm {b o}(h:w.rangeAt b o cs)(hb:b<w.heap.size)(G:Gr w w'):w'.rangeAt b o cs:=fun j v hv=>(G.cell _ (by exact hb)).trans (h j v hv)
def lsI (ls:List (Int×Int)):List Value:=ls.flatMap fun q=>[int i64 q.1,int .u32 q.2]
theorem MI (ls):lsI (iw ls)=Dk ls:=by
 induction ls with
 |nil=>rfl
 |cons q r ih=>simp only[lsI,iw,Dk,asD,arZ]at ih ⊢;rw[ih]
theorem JA:∀(ls:List (Int×Int)) (i:Nat) (q:Int×Int),ls[i]?=some q→(lsI ls)[i*2]?=some (int i64 q.1)∧(lsI ls)[i*2+1]?=some (int .u32 q.2)
 | [],i,q,h=>by simp at h
 |p::r,0,q,h=>by simp at h;subst h;exact⟨rfl,rfl⟩
 |p::r,i+1,q,h=>by
  have ih:=JA r i q (by simpa using h);have e:lsI (p::r)=[int i64 p.1,int .u32 p.2]++lsI r:=rfl;rw[e,arK aE,arK aE];simp only[arM,ar8];rw[show(i+1)*2-(0+1+1)=i*2 by omega,show(i+1)*2+1-(0+1+1)=i*2+1 by omega];exact ih
structure Ls (w:World) (ao:Option Addr) (n:Nat) (ls:List (Int×Int)):Prop where
 len:ls.length=n
 spot:0<n->∃b o,ao=some ⟨b,o,none⟩/\b<w.heap.size/\∀i p,ls[i]?=some p->w.cell? ⟨b,o+i*2,none⟩=some (int i64 p.1)/\w.cell? ⟨b,o+i*2+1,none⟩=some (int .u32 p.2)
theorem Ls.of (h:Ls w ao n ls)(g:Gr w w'):Ls w' ao n ls:=
 ⟨h.len,fun hn=>by
  obtain⟨b,o,e,hb,hc⟩:=h.spot hn;exact⟨b,o,e,arD hb g.size,fun i q hq=>⟨(g.cell _ (by exact hb)).trans (hc i q hq).1,(g.cell _ (by exact hb)).trans (hc i q hq).2⟩⟩⟩
def Uc (w:World) (u:Uv) (x:List Value):Prop:=∃ba bn bc la ln lc,x=uL u (slice ba bn bc) (slice la ln lc)/\u.Ok/\(-9223372036854775808<=u.k/\u.k<=9223372036854775807)/\(∀q∈u.lost, -9223372036854775808<=q.1/\q.1<=9223372036854775807)/\Mem w ba bn u.bs/\Ls w la ln u.lost/\bn<=140737488351232/\ln<=8796093022208
theorem Uc.of {x}(h:Uc w u x)(G:Gr w w'):Uc w' u x:=by obtain⟨ba,bn,bc,la,ln,lc,e,o,k1,k2,M,L,b1,b2⟩:=h;exact⟨ba,bn,bc,la,ln,lc,e,o,k1,k2,M.of G,L.of G,b1,b2⟩
theorem Uc.len (h:Uc w u x):x.length=41:=by obtain⟨ba,bn,bc,la,ln,lc,rfl,o,_⟩:=h;exact ql o.was
theorem Uc.one (h:Uc w u x):x.toArray.all (·.oneCell')=true:=by obtain⟨ba,bn,bc,la,ln,lc,rfl,o,_⟩:=h;exact RB rfl rfl
structure Us (w:World) (ao:Option Addr) (n:Nat) (us:List Uv):Prop where
 len:us.length=n
 spot:0<n->∃b o,ao=some ⟨b,o,none⟩/\b<w.heap.size/\∀j u,us[j]?=some u->∃x,Uc w u x/\w.rangeAt b (o+j*41) x
theorem Us.of {us}(h:Us w ao n us)(G:Gr w w'):Us w' ao n us:=
 ⟨h.len,fun hn=>by
  obtain⟨b,o,e,hb,hc⟩:=h.spot hn;refine⟨b,o,e,arD hb G.size,fun j u hj=>?_⟩;obtain⟨x,h1,h2⟩:=hc j u hj;exact⟨x,h1.of G,qm h2 hb G⟩⟩
def Uo (w:World) (u:Uv) (x:List Value):Prop:=∃M L,x=uL u M L/\Hc.Own w Hc.mb M u.bs/\w.ownsRow Hc.mb 159 2 L u.lost.length (lsI u.lost)
def Ky (w w':World):Prop:=∀(k:Nat) (o:Array Value) (t:Nat) (f:Nat×Nat),(t=5\/t=159)->w.heap[k]?=some (cells o t f)->w'.heap[k]?=w.heap[k]?
theorem Ky.aJ (G:Gr w w'):Ky w w':=fun k o t f _ h=>G.block _ (gs h).1
theorem Uo.to {x}(h:Uo w u x)(q:Ky w w'):Uo w' u x:=by obtain⟨M,L,e,h1,h2⟩:=h;exact⟨M,L,e,h1.to fun k o f hk=>q k o _ f (.inl rfl) hk,aj h2 fun k o f hk=>q k o _ f (.inr rfl) hk⟩
theorem Uo.one (h:Uo w u x):∀v∈x,v.oneCell'=true:=by obtain⟨M,L,rfl,h1,h2⟩:=h;obtain⟨a,c,rfl,_⟩:=h1.mem;exact RA rfl (au h2).2.1
structure Ux (w:World) (us:List Uv) (xs:List Value):Prop where
 len:xs.length=us.length*41
 at_:∀(j:Nat) (u:Uv),us[j]?=some u->∃x,Uo w u x/\x.length=41/\∀i v,x[i]?=some v->xs[j*41+i]?=some v
theorem Ux.nil (w):Ux w [] []:=⟨rfl,fun j u h=>by simp at h⟩
theorem Ux.to {us}{xs}(h:Ux w us xs)(q:Ky w w'):Ux w' us xs:=
 ⟨h.len,fun j u hj=>by
  obtain⟨x,h1,h2⟩:=h.at_ j u hj;exact⟨x,h1.to q,h2⟩⟩
theorem Ux.snoc {us}(h:Ux w us xs)(k:Uo w u x)(hx:x.length=41):Ux w (us++[u]) (xs++x):=by
 have hl:=h.len;refine⟨by rw[ary,ary,hl,hx];simp;omega,fun j c hc=>?_⟩;by_cases hj:j<us.length
 ·rw[arO hj]at hc;obtain⟨y,h1,h2,h3⟩:=h.at_ j c hc;refine⟨y,h1,h2,fun i v hi=>?_⟩;have:i<41:=by have:=(arw.1 hi).1;omega
  rw[arO ab];exact h3 i v hi
 ·rw[arK ab]at hc;have hj2:j=us.length:=by
   have:=(arw.1 hc).1;simp at this;omega
  subst hj2;simp at hc;subst hc;refine⟨x,k,hx,fun i v hi=>?_⟩;rw[arK ab,hl,asZ];exact hi
theorem oN (h:w.ownsRow base e sz (slice a n c) n xs)(hn:0<n):∃g,a=some ⟨g,0,none⟩/\g<w.heap.size/\∀j v,xs[j]?=some v->w.cell? ⟨g,j,none⟩=some v:=by
 rcases h.2 with⟨e0,hz⟩|⟨g,cap,cur,e1,_,hg,_,_,_,ht⟩
 ·omega
 ·injection e1 with e1 _ _;refine⟨g,e1,(gs hg).1,fun j v hj=>?_⟩;rw[cr hg];rw[<-ht,ar9]at hj;split at hj
  ·simpa using hj
  ·cases hj
theorem Uo.uc (h:Uo w u x)(o:u.Ok)(k1 : -9223372036854775808<=u.k/\u.k<=9223372036854775807)(k2:∀q∈u.lost, -9223372036854775808<=q.1/\q.1<=9223372036854775807)(b1:u.bs.length<=4096)(b2:u.lost.length<=4096):Uc w u x:=by obtain⟨M,L,rfl,h1,h2⟩:=h;obtain⟨ba,bc,rfl,M1⟩:=h1.mem;obtain⟨_,_,la,lc,rfl⟩:=au h2;refine⟨ba,_,bc,la,_,lc,rfl,o,k1,k2,M1,⟨rfl,fun hn=>?_⟩,ab,ab⟩;obtain⟨g,rfl,hg,hr⟩:=oN h2 hn;refine⟨g,0,rfl,hg,fun i p hp=>?_⟩;have:=JA _ _ _ hp;rw[arH];exact⟨hr _ _ this.1,hr _ _ this.2⟩
theorem Ux.us {us}{xs}{base c}{a}(h:Ux w us xs)(r:w.ownsRow base 121 41 (slice a n c) n xs)(hl:us.length=n)(ok:∀u∈us,u.Ok/\(-9223372036854775808<=u.k/\u.k<=9223372036854775807)/\(∀q∈u.lost, -9223372036854775808<=q.1/\q.1<=9223372036854775807)/\u.bs.length<=4096/\u.lost.length<=4096):Us w a n us:=
 ⟨hl,fun hn=>by
  obtain⟨g,e,hg,hr⟩:=oN r hn;refine⟨g,0,e,hg,fun j u hj=>?_⟩;obtain⟨x,h1,h2,h3⟩:=h.at_ j u hj;obtain⟨o,k1,k2,b1,b2⟩:=ok u (arE hj);exact⟨x,h1.uc o k1 k2 b1 b2,fun i v hi=>by rw[arH];exact hr _ _ (h3 i v hi)⟩⟩
def UsL (w:World) (lo:Nat) (ao:Option Addr) (n:Nat):Prop:=∀b o,ao=some ⟨b,o,none⟩->∀j,j<n->lo<=b/\(∀ba bn bc,w.cell? ⟨b,o+j*41+39,none⟩=some (slice ba bn bc)->∀ad,ba=some ad->lo<=ad.block)/\(∀la ln lc,w.cell? ⟨b,o+j*41+40,none⟩=some (slice la ln lc)->∀ad,la=some ad->lo<=ad.block)
theorem JB {m lo}(h:w.ownsRow base e sz (slice a n c) m xs)(hl:lo<=base):∀ad,a=some ad->lo<=ad.block:=by
 intro ad e;rcases h.2 with⟨q,_⟩|⟨g,cap,cur,q,hb,_⟩
 ·injection q with q;rw[e]at q;cases q
 ·injection q with q;rw[e]at q;injection q with q;subst q;exact arF hl hb
theorem Ux.usl {us}(h:Ux w us xs)(r:w.ownsRow base 121 41 (slice a n c) n xs)(hl:us.length=n)(ok:∀u∈us,u.was.Ok)(hb:Hc.mb<=base):UsL w Hc.mb a n:=by
 intro b o e j hj;obtain⟨g,e2,_,hr⟩:=oN r ab;have hlo:=JB r hb _ e;rw[e]at e2;injection e2 with e2;injection e2 with e3 e4;subst e3 e4;have hu:us[j]?=some us[j]:=arq ab;obtain⟨x,⟨M,L,rfl,h1,hL⟩,h2,h3⟩:=h.at_ j _ hu;have h4:=hr _ _ (h3 39 M (by have:=fo (u:=us[j]) (b:=M) (l:=L) (ok _ (arE hu)) 1;simpa using this));have h5:=hr _ _ (h3 40 L (by have:=fo (u:=us[j]) (b:=M) (l:=L) (ok _ (arE hu)) 2;simpa using this));rw[arH];refine⟨hlo,fun ba bn bc hc ad hb=>?_,fun la ln lc hc ad hb=>?_⟩
 ·rw[h4]at hc;injection hc with hc;subst hc hb;rcases h1 with⟨h1,_⟩|⟨k,cap,h1,⟨h6,_⟩,_⟩
  ·injection h1 with h1;cases h1
  ·injection h1 with h1;injection h1 with h1;subst h1;exact h6
 ·rw[h5]at hc;injection hc with hc;subst hc;exact JB hL (arA _) ad hb
end Ud
namespace Ud
variable[Inhabited Hc.bH]
open Mm Hh Hc Mc
variable{a:Act}{u:Uv}
theorem GH {h}(o:h.Ok)(k):prog.built 121 [(0,.int .i64 k),(1,.agg (hL h).toArray)]=some (uL ⟨k,h,0,[],[]⟩ ay ay).toArray:=by
 obtain⟨it,hi,hz⟩:=lJ zU;have hp:∀fs,prog.underlying 121=some (.struct fs)->fs.toList.mapM (fun f=>(prog.info? f.type).map fun i=>(f.offset,i.size))=some [(0,1),(1,37),(38,1),(39,1),(40,1)]:=fun fs e=>by
  rw[underlying121]at e;injection e with e;injection e with e;subst e
  kernel_rfl
 have ls:=aF o;have z1:(uL h00 ay ay).toArray.size=41:=by simp[ql (u:=h00) jA]
 unfold Program.built;simp only[hi,underlying121,hz,hp _ underlying121];unfold Instr.fill;simp only[arB,arC];have e0:(Value.int .i64 k).cells=#[.int .i64 k]:=rfl;have e1:(Value.agg (hL h).toArray).cells=(hL h).toArray:=rfl;have e2:(Value.agg (uL h00 ay ay).toArray).cells=(uL h00 ay ay).toArray:=rfl;rw[e0,e2,awm (by simp[ql (u:=h00) jA]),nA];unfold Instr.fill;simp only[arB,arJ,arC];rw[e1,awm (by simp[ls,ql (u:=h00) jA])];unfold Instr.fill;refine congrArg some ?_;apply asU;intro i;have a1:=jg 1 (hL h).toArray ((uL h00 ay ay).toArray.setIfInBounds 0 (.int .i64 k));rw[a1.2 i];simp only[asj,z1,asb,ls];by_cases hi2:1<=i/\i<38
 ·rw[eB];obtain⟨j,rfl⟩:∃j,i=1+j:=⟨i-1,ab⟩;rw[arB,arB,sZ (u:=⟨k,h,0,[],[]⟩) o ab,asZ]
 ·rw[ak,atz];by_cases h0':i=0
  ·subst h0';rw[awn rfl,awn (by rw[z1];omega)];rfl
  ·rw[awm (fun e=>h0' e.symm)];obtain⟨j,rfl⟩:∃j,i=38+j:=⟨i-38,ab⟩;rw[arB,arB,fo (u:=h00) jA,fo (u:=⟨k,h,0,[],[]⟩) o];rfl
theorem RD {A Z}(hA:A.size=n)(hZ:Z.size=n):Instr.fill (fun i=>some (i*n,n)) Z [(0,agg A)]=some A:=by
 unfold Instr.fill;simp only[asY];have e1:(Value.agg A).cells=A:=rfl;rw[e1,awm (by simp[hA,hZ])];unfold Instr.fill;refine congrArg some ?_;apply asU;intro i;have a1:=jg 0 A Z;rw[a1.2 i];by_cases hi:i<n
 ·rw[eB];simp
 ·rw[ak,Array.getElem?_eq_none ab,Array.getElem?_eq_none ab]
theorem bN {ops}{Q}{E:Prop}(hg:o.guard=none)(t e)(x)(ho:o.op=.buildSlice t 1 #[(0,x)])(A)(n)(hx:a.eval x=.agg A)(hA:A.size=n)(hu:P.underlying t=some (.slice e))(hi:(P.info? e).map (fun i=>(i.zero.isSome,i.size))=some (true,n))(h0:0<n)(hn:n<=1000)(h:K (a.put o.dst (.slice (some ⟨w.heap.size,0,none⟩) 1 1)) (w.alloc (.cells A e))):if Region.wanted o (yielded ops a.tmps)=true then Oper.wp P o a w K Q else E:=by
 rw[awn (by simp[Region.wanted,hg])];cases hie:P.info? e with
 |none=>simp[hie]at hi
 |some ie=>
  simp only[hie,ar6,awz,axg]at hi;obtain⟨hz,hs⟩:=hi;obtain⟨z,hzz⟩:=Option.isSome_iff_exists.1 hz;refine wp_buildSlice t e 1 _ ho A ie z hu hie hzz (by rw[hs];omega) (by rw[hs];omega) ?_ h;simp only[List.map_toArray,asD,atv,hx,hs,Nat.one_mul];exact RD hA aq
theorem xK {Q}(hg:o.guard=none)(t e)(x)(ho:o.op=.buildSlice t 1 #[(0,x)])(A)(n)(hx:a.eval x=.agg A)(hA:A.size=n)(hu:P.underlying t=some (.slice e))(hi:(P.info? e).map (fun i=>(i.zero.isSome,i.size))=some (true,n))(h0:0<n)(hn:n<=1000)(h:wpList P ops Q rest (a.put o.dst (.slice (some ⟨w.heap.size,0,none⟩) 1 1)) (w.alloc (.cells A e))):wpList P ops Q (o::rest) a w:=
 axo hg fun K hK=>by
  have:=bN (ops:=#[]) (E:=True) (Q:=Q) hg t e x ho A n hx hA hu hi h0 hn (hK _ _ h);rwa[awn (by simp[Region.wanted,hg])]at this
theorem iUz:(prog.info? 121).map (fun i=>(i.zero.isSome,i.size))=some (true,41):=al
theorem RF {u}{b l}(o:u.was.Ok)(f):(uL u b l).toArray.setIfInBounds 38 (int .u32 f)=(uL { u with fr:=f } b l).toArray:=by have:=aF o;unfold uL;rw[arp,ars,arX _ _ ab,this];rfl
theorem RH {u}{b l b'}(o:u.was.Ok):(uL u b l).toArray.setIfInBounds 39 b'=(uL u b' l).toArray:=by have:=aF o;unfold uL;rw[arp,ars,arX _ _ ab,this];rfl
theorem RI {u}{b l l'}(o:u.was.Ok):(uL u b l).toArray.setIfInBounds 40 l'=(uL u b l').toArray:=by have:=aF o;unfold uL;rw[arp,ars,arX _ _ ab,this];rfl
structure Rw (w:World) (base g:Nat) (M:Value) (gh hc:Nat) (O U:Value) (xs:List Value) (s:Sh) (us:List Uv):Prop where
 bw:Bw 88 [U] w base g M gh hc O s
 row:w.ownsRow base 121 41 U us.length xs
 ux:Ux w us xs
def Rc (w:World) (base g:Nat) (s:Sh) (us:List Uv):Prop:=∃M gh hc O U xs,Rw w base g M gh hc O U xs s us
structure Fk (base:Nat) (w w':World):Prop where
 below:Below base w w'
 keep:∀(k:Nat) (q:Array Value) (t:Nat) (f:Nat×Nat),w.heap[k]?=some (cells q t f)->t≠88->t≠43->t≠37->t≠121->w'.heap[k]?=w.heap[k]?
section
variable{w w' a b c:World}{base g gh hc:Nat}{M O U:Value}{xs:List Value}{s:Sh}{us:List Uv}
theorem Fk.trans (h:Fk base a b)(k:Fk base b c):Fk base a c:=⟨h.below.trans k.below,fun i q t f e t1 t2 t3 t4=>(k.keep i q t f ((h.keep i q t f e t1 t2 t3 t4).trans e) t1 t2 t3 t4).trans (h.keep i q t f e t1 t2 t3 t4)⟩
theorem Fk.aJ (G:Gr w w')(hb:base<=w.heap.size):Fk base w w':=⟨awH G hb,fun i q t f e _ _ _ _=>G.block i (gs e).1⟩
theorem Fk.ajR (F:Fe 88 base w w'):Fk base w w':=⟨F.below,fun i q t f e t1 t2 t3 _=>F.cells e t1 t2 t3⟩
theorem Fk.set (h:Fk base a w)(hy:w.heap[g]?=some (cells Y ty f))(ht:ty=88\/ty=121)(hg:base<=g)(i)(v):Fk base a (w.setCell ⟨g,i,none⟩ v):=⟨axc h.below (by exact hg) _,fun k q t f' e t1 t2 t3 t4=>by
 have e1:=h.keep k q t f' e t1 t2 t3 t4;rw[hso (by exact aa (e1.trans e) hy (by rcases ht with rfl|rfl<;>assumption))];exact e1⟩
theorem Fk.row {k:Nat}{q}{t:Nat}{f}(h:Fk base w w')(e:w.heap[k]?=some (cells q t f))(t1:t≠88)(t2:t≠43)(t3:t≠37)(t4:t≠121):w'.heap[k]?=some (cells q t f):=(h.keep k q t f e t1 t2 t3 t4).trans e
theorem Fk.grown {n}(hO:w.ownsRow base 121 41 U n xs)(q:w.grownBy w' U.ownBlock)(hb:base<=w.heap.size):Fk base w w':=⟨(awX base w).grown q hb fun k e=>(hO.lt k e).1,fun k o t f e _ _ _ t4=>eY hO q t4 e⟩
theorem Rw.of (R:Rw w base g M gh hc O U xs s us)(G:Gr w w'):Rw w' base g M gh hc O U xs s us:=⟨R.bw.of G,aD R.row G,R.ux.to (Ky.aJ G)⟩
theorem Rc.of (R:Rc w base g s us)(G:Gr w w'):Rc w' base g s us:=by obtain⟨M,gh,hc,O,U,xs,R⟩:=R;exact⟨M,gh,hc,O,U,xs,R.of G⟩
theorem acQ (B:Bw 88 rs w base g M gh hc O s)(q:∀(k:Nat) (o) (t:Nat) (f),t≠121->w.heap[k]?=some (cells o t f)->w'.heap[k]?=w.heap[k]?):Bw 88 rs w' base g M gh hc O s:=⟨B.t1,B.t2,B.t3,B.bg,(q _ _ _ _ an B.blk).trans B.blk,B.mem.to fun k o f e=>q k o _ f an e,B.bh,B.row.to fun k o f e=>q k o _ f an e,aj B.out fun k o f e=>q k o _ f an e,⟨B.hz.1.to fun k o f e=>q k o _ f an e,B.hz.2⟩⟩
theorem Rw.take (R:Rw w base g M gh hc O U xs s us){s'}(B:Bd 88 [U] w' base g s')(F:Fe 88 base w w'):∃M' gh' hc' O',Rw w' base g M' gh' hc' O' U xs s' us:=by obtain⟨M',gh',hc',O',B⟩:=B;exact⟨M',gh',hc',O',B,aj R.row fun k o f e=>F.cells e an an an,R.ux.to fun k o t f ht e=>F.cells e (by rcases ht with rfl|rfl<;>decide) (by rcases ht with rfl|rfl<;>decide) (by rcases ht with rfl|rfl<;>decide)⟩
theorem Rw.put (R:Rw w base g M gh hc O U xs s us)(hu:Uo w u x)(hx:x.length=41)(hn:n=us.length+1)(hown:w'.ownsRow base 121 41 v n (xs++x))(q:w.grownBy w' U.ownBlock):w'.cell? ⟨g,4,none⟩=some U/\w'.frozen? ⟨g,4,none⟩=false/\Rc (w'.setCell ⟨g,4,none⟩ v) base g s (us++[u])/\Fk base w (w'.setCell ⟨g,4,none⟩ v):=by
 have st:∀(k:Nat) (o:Array Value) (t:Nat) (f:Nat×Nat),t≠121->w.heap[k]?=some (cells o t f)->w'.heap[k]?=w.heap[k]?:=fun k o t f ht e=>eY R.row q ht e
 have B1:=acQ R.bw st;have B2:=B1.vW 0 v;have nx:∀(k:Nat) (o:Array Value) (t:Nat) (f:Nat×Nat),t≠88->w'.heap[k]?=some (cells o t f)->(w'.setCell ⟨g,4,none⟩ v).heap[k]?=w'.heap[k]?:=fun k o t f ht e=>hso (by exact aa e B1.blk ht)
 have ky:Ky w (w'.setCell ⟨g,4,none⟩ v):=fun k o t f ht e=>by
  have e1:=st k o t f (by rcases ht with rfl|rfl<;>decide) e;exact(nx k o t f (by rcases ht with rfl|rfl<;>decide) (e1.trans e)).trans e1
 refine⟨B1.rest 0,B1.fz 4,⟨M,gh,hc,O,v,xs++x,B2,?_,(R.ux.to ky).snoc (hu.to ky) hx⟩,(Fk.grown R.row q R.bw.az).set B1.blk (.inl rfl) R.bw.bg 4 v⟩;have:=aj hown fun k o f e=>nx k o _ f an e
 rw[ary,ar4,<-hn];exact this
end
theorem JC {x}(F:World->Prop)(hF:F x)(h:∀y,F y->p y):p x:=h x hF
theorem szC (w:World)(p)(v):(w.setCell p v).heap.size=w.heap.size:=aq
structure One (P:Prop):Prop where
 out:P
theorem RJ {P Q:Prop}(h:One P->Q)(p:P):Q:=h ⟨p⟩
theorem ZI (T:TT w b)(h:b<=n):TT w n:=⟨T.tab,⟨T.tb.sizes,T.tb.opers,arD T.tb.b1 h,arD T.tb.b2 h⟩,arD T.b1 h,arD T.b2 h⟩
theorem wR (T:TT w b)(h:Below b w w'):TT w' b:=⟨⟨fun i n e=>(aw4 h (by exact T.b1)).trans (T.tab.shapes i n e),fun i n e=>(aw4 h (by exact T.b2)).trans (T.tab.uppers i n e)⟩,⟨fun i n e=>(aw4 h (by exact T.tb.b1)).trans (T.tb.sizes i n e),fun i n e=>(aw4 h (by exact T.tb.b2)).trans (T.tb.opers i n e),T.tb.b1,T.tb.b2⟩,T.b1,T.b2⟩
end Ud
namespace Ud
variable[Inhabited Hc.bH]
open Mm Hh Hc Mc
variable{s:Sh}
theorem acR (h:(at' s k).state=0):wk (w0 s k) 1=IV (w0 s k):=vM (x:=w0 s k) h 0
theorem acS (hk:k<s.hs.length)(h:(at' s k).state=0):tk s k (wk (w0 s k) 1)=cO s k:=by rw[<-qR hk 1];unfold runs;rw[awn h];rfl
theorem acT (h:(at' s k).state=0):(wk (w0 s k) 1).ax=(eF (at' s k) s.m).ax:=by rw[acR h];rfl
def Done (w:World) (ub:Nat) (u:Uv):Prop:=∃x:List Value,x.length=41/\w.heap[ub]?=some (cells x.toArray 121 (0,0))/\Uo w u x
def Nu (w w':World):Prop:=w.heap.size<=w'.heap.size/\∀(k:Nat) (o:Array Value) (t:Nat) (f:Nat×Nat),t≠121->w.heap[k]?=some (cells o t f)->w'.heap[k]?=w.heap[k]?
theorem Nu.refl (w):Nu w w:=⟨arA _,fun _ _ _ _ _ _=>rfl⟩
theorem Nu.trans {a b c}(h:Nu a b)(k:Nu b c):Nu a c:=⟨arF h.1 k.1,fun i o t f ht e=>(k.2 i o t f ht ((h.2 i o t f ht e).trans e)).trans (h.2 i o t f ht e)⟩
theorem Nu.gr {a b}(G:Gr a b):Nu a b:=⟨G.size,fun k o t f _ e=>G.block _ (gs e).1⟩
theorem Nu.row {a b}(h:Nu a b){k:Nat}{o}{t:Nat}{f}(e:a.heap[k]?=some (cells o t f))(ht:t≠121):b.heap[k]?=some (cells o t f):=(h.2 k o t f ht e).trans e
theorem Nu.set {a b}(h:Nu a b)(hy:b.heap[ub]?=some (cells Y 121 f))(i)(v):Nu a (b.setCell ⟨ub,i,none⟩ v):=⟨by simpa using h.1,fun k o t f' ht e=>by
 have e1:=h.2 k o t f' ht e;rw[hso (by exact aa (e1.trans e) hy ht)];exact e1⟩
theorem Dq.nu {a b}{d}{x}(D:Dq a n d x)(h:Nu a b):Dq b n d x:=⟨D.hh,D.n,D.mem.to fun k o f e=>h.2 k o _ f an e,aj D.out fun k o f e=>h.2 k o _ f an e,aj D.ax fun k o f e=>h.2 k o _ f an e⟩
theorem XJ {o f c}{l}(M:Mem w (some ⟨b,o,none⟩) n l)(h:f+c<=n):Mem w (some ⟨b,o+f,none⟩) c ((l.drop f).take c):=by
 have hl:=M.len;refine Mem.at aE fun t ht=>?_
 have:=M.cell _ rfl (f+t) ab;rw[cK]at this;rw[atb,this];unfold bv;simp only[List.getD,ar9,asc,ht,if_true]
theorem vY {b'}(h:w.ownsRow b e sz v n xs)(hb:b'<=b):w.ownsRow b' e sz v n xs:=by
 obtain⟨h1,h2⟩:=h;refine⟨h1,?_⟩;rcases h2 with h2|⟨g,cp,cur,e1,e2,e3⟩
 ·exact .inl h2
 ·exact .inr ⟨g,cp,cur,e1,ab,e3⟩
theorem RL {us}(R:Rc w base g s us)(T:TT w base)(F:Fit s c mn)(ni:mn<=4096)(hk:k<c)(hc4:c<=4)(hst:(at' s k).state=0)(hus:us.length<=200000)(hout:s.out.length<=200000)(hstp:s.steps<=200000):Calls prog 56 #[pointer (some ⟨g,0,none⟩),int i64 k] w fun e w'=>e=returned (tuple #[])/\Rc w' base g (cO s k) (us++[fe s k])/\Fk base w w':=by
 obtain⟨M,gh,hc,O,U,xs,R⟩:=R;have hl:k<s.hs.length:=by rw[F.len];exact hk
 have eh:s.hs[k]?=some (at' s k):=by unfold at';rw[arq hl];simp[List.getD,hl]
 have kS:=(F.ok _ (dO eh)).1;have hbb:=R.bw.az;have HR:=kH R;have HTT:=kH (ZI T hbb);have RG:=kH (R.bw.row.range eh);have k1:w.cell? ⟨g,1,none⟩=some (slice (some ⟨gh,0,none⟩) c hc):=by have:=R.bw.c1;rw[F.len]at this;exact this
 have qY:=kH (aF kS);have yA:Hid (at' s k).Ok:=kS;have PZ:=kH (GH kS k);have agm:Hid ((uL ⟨k,at' s k,0,[],[]⟩ ay ay).length=41):=ql (u:=⟨k,at' s k,0,[],[]⟩) kS;have agn:Hid ((uL ⟨k,at' s k,0,[],[]⟩ ay ay).toArray.all (·.oneCell')=true):=RB rfl rfl;have HWk:Hid (∀W:World,Gr w W->_):=fun W G=>Qk (R.bw.of G) F ni (HTT.grow G) hk hc4 (n:=1) ab
 have HF:=kH F;have HST:=kH hst;have hgl:=R.bw.lt;have hgh:gh<w.heap.size:=by obtain⟨_,e⟩:=R.bw.row.row;exact(gs e).1
 clear R T F eh kS hl hst;generalize hHh:at' s k=hv at *
 have HH:=kH hHh;clear hHh;generalize hX0:uL ⟨k,hv,0,[],[]⟩ ay ay=X0 at *
 have HX0:=kH hX0;clear hX0;go_enter func56,ntmps56;have rO:Hid (X0.toArray.size=41):=by unfold Hid;simp[agm.out]
 go_wp2_with (first
  |(refine awU rfl 43 _ rfl gh (k*37) rfl (hL hv) _ ?r1 underlying43 rfl (by rw[qY.out];exact iH) ?_;(case r1=>exact RG))
  |(refine axt rfl 121 _ rfl _ rfl X0.toArray (by have:=PZ;simp[Act.eval,Act.put];exact this) ?_)
  |(refine awx rfl 121 _ _ rfl w.heap.size X0.toArray rfl rfl 121 _ (awk w _) (by rw[rO.out];exact iU) (by rw[rO.out];rfl) agn ?_))
 refine(HWk _ (ag br (arA _) _)).mono ?_;rintro e w2 ⟨d,rfl,od,D,G2⟩;have HG2:=kH ((ag br (arA _) _).trans G2);have uF:=kH (Hr.ae G2 (awJ _ _ _ _ _ (0,0) (awk w _)));have HXs:=kH (acT (by rw[HH.out];exact HST));have HXo:Hid (CX (wk (w0 s k) 1) mn/\(wk (w0 s k) 1).n<=1):=by have:=Jm 1 (qV HF hk);have e:(w0 s k).n=0:=rfl;exact⟨this.1,ab⟩
 have HTk:=kH (acS (by rw[HF.out.len];exact hk) (by rw[HH.out];exact HST));have HD:=kH D;have HOd:=kH od;obtain⟨sa,sc,wJ⟩:=(au D.ax).2.2;have g40:(qA d)[40]?=some (slice sa (wk (w0 s k) 1).ax.length sc):=by rw[jT od 3];simp[wJ]
 have HSo:=kH wJ;have rP:=kH (gq od);have EO:=kH (ny D.mem.cells.2 (au D.out).2.1 (au D.ax).2.1);clear G2 D wJ od HWk PZ agn RG k1;generalize hXX:wk (w0 s k) 1=X at *
 clear hXX;have hsl:X.ax.length<=1:=by have:=HXo.1.ax;have:=HXo.2;omega
 have HX3:Hid (∀Y:Array Value,Gr w2 ((w2.alloc (cells Y 142)).setRow w2.heap.size (qA d))):=fun Y=>ag br (arA _) _
 have I5:Hid (∀Y:Array Value,((w2.alloc (cells Y 142)).setRow w2.heap.size (qA d)).heap[w2.heap.size]?=some (cells (qA d) 142 (0,0))):=fun Y=>awJ _ _ _ _ _ (0,0) (awk w2 _)
 have k40:∀Y:Array Value,((w2.alloc (cells Y 142)).setRow w2.heap.size (qA d)).cell? ⟨w2.heap.size,40,none⟩=some (slice sa X.ax.length sc):=fun Y=>(cr (I5 Y)).trans g40
 generalize hsn:X.ax.length=sn at *
 have Xd:=kH hsn;clear hsn;go_wp2_with (refine awx rfl 142 _ _ rfl w2.heap.size (qA d) rfl rfl 142 _ (awk w2 _) (by rw[rP.out];exact iQ) (by rw[rP.out];rfl) EO ?_);refine JC (fun W=>W.heap[w2.heap.size]?=some (cells (qA d) 142 (0,0))/\Gr w2 W) ⟨I5 _,HX3 _⟩ ?_;rintro W3 ⟨KO,G3⟩;obtain⟨o,ho⟩:∃o:Nat,o=w2.heap.size:=⟨_,rfl⟩;obtain⟨ub,hub⟩:∃ub:Nat,ub=w.heap.size:=⟨_,rfl⟩;rw[<-ho]at KO ⊢;rw[<-hub]at uF ⊢;have zS:=kH KO;have HU3:=kH (Hr.ae G3 uF);have eO:=kH (HG2.trans G3);have HD3:Hid (∃b,Dq W3 b d X):=⟨_,HD.gr G3⟩;have hol:w.heap.size<o:=by have:=(gs uF).1;omega
 have huo:ub<o:=by have:=(gs uF).1;omega
 have hbu:base<=ub:=ab;have HUB:=kH hub;have hgu:g<ub:=ab;clear KO G3 HX3 I5 uF HG2 HD k40 g40 ho hub;clear w2;have HUN:Hid (∀W:World,Nu W3 W->X.ax.length=0->W.heap[ub]?=some (cells X0.toArray 121 (0,0))->Done W ub (fe s k)):=fun W N h0 hb=>by
  have e0:(eF (at' s k) s.m).ax=[]:=by rw[<-HXs.out];exact asa h0
  refine⟨X0,agm,hb,ay,ay,?_,.inl ⟨rfl,?_⟩,?_⟩
  ·unfold fe;rw[e0,<-HX0.out];unfold qh;rw[HH.out]
  ·unfold fe;rw[e0];rfl
  ·unfold fe;rw[e0];exact awG _ _ _ _
 go_loopw [29] (fun i wr=>∃j:Nat,j<=sn/\i=int i64 j/\Gr w wr/\Nu W3 wr/\(j<sn->wr.heap[ub]?=some (cells X0.toArray 121 (0,0)))/\(j=sn->Done wr ub (fe s k))) (fun i _=>sn-(intOf i).toNat)
 case atStart=>exact⟨0,arQ _,rfl,eO,Nu.refl _,fun _=>HU3,fun h=>HUN _ (Nu.refl _) (by rw[Xd.out,<-h]) HU3⟩
 case round=>
  obtain⟨j,hj,rfl,G,N,hA,hB⟩:=hrel;have MJ:=kH G;have HNr:=kH N;have HOr:=kH (N.row zS an);by_cases hlt:j<sn
  ·have UF:=kH (hA hlt);clear hA hB G N;obtain rfl:j=0:=ab;have gH:Hid (sn=1):=by unfold Hid;omega
   obtain⟨p,hp⟩:∃p,X.ax=[p]:=List.length_eq_one_iff.1 (Xd.trans gH);have aoJ:(0:Int)<(sn:Int):=ab;have HP:=kH hp;obtain⟨p0,p1,p2⟩:=HXo.1.bd p (by rw[hp];simp);have hlo:Wd.lo (p.1+p.2)=p.1+p.2:=by unfold Wd.lo;omega
   obtain⟨b3,D3⟩:=HD3;have acV:=(Dq.nu D3 HNr).ax;rw[HSo.out,Xd.out,hp]at acV;obtain⟨gs',hgs',aoK,hcs'⟩:=oN acV hlt;subst hgs';have c0:=hcs' 0 _ rfl;have c1:wr.cell? ⟨gs',1,none⟩=some (int .u32 (p.1+p.2)):=by rw[<-hlo];exact hcs' 1 _ rfl
   have x38:wr.cell? ⟨ub,38,none⟩=some (int .u32 0):=(cr UF).trans (by rw[<-HX0.out,arB];exact fo (u:=⟨k,hv,0,[],[]⟩) yA 0);have f38:wr.frozen? ⟨ub,38,none⟩=false:=iA UF;have ajT:=(gs UF).1;clear hcs' acV D3 hp;obtain⟨pf,pn⟩:=p;simp only at *
   obtain⟨f,rfl⟩:=arI p0;obtain⟨q,rfl⟩:=arI (show 0<=pn by omega);have nC:=HF.mem;rcases HR.bw.mem with⟨_,h2⟩|⟨mk,mc,hMe,⟨ajU,hcap⟩,hrow⟩
   ·rw[h2]at nC;simp at nC;omega
   have Zo:Hid (M=slice (some ⟨mk,0,none⟩) mn mc):=by rw[nC]at hMe;exact hMe
   have Zn:Hid (Hc.mb<=w.heap.size):=by
    obtain⟨_,he⟩:=hrow.row;have:=(gs he).1;unfold Hid;omega
   have hcp:mn<=mc:=ab;have ZC:Hid (Mem w (some ⟨mk,f,none⟩) q ((s.m.drop f).take q)):=by
    have:=XJ (f:=f) (c:=q) (Row.mem hrow.row) ab;rwa[arH]at this
   have UA:Hid (∀W:World,Gr w W->Calls prog 84 #[pointer (some ⟨g,0,none⟩),int i64 k,agg #[int .u32 f,int .u32 ((f:Int)+(q:Int))]] W fun e w'=>∃v,e=returned v/\w'.ownsRow W.heap.size 159 2 v (aX k (f,q) s.hs s.hs.length).length (Dk (aX k (f,q) s.hs s.hs.length))/\Gr W w'):=fun W G=>by
    have:=Dl (HR.bw.of G) (by rw[HF.out.len];exact hc4) k ((f:Int),(q:Int)) p0 p1 bl;simp only[hlo]at this;exact this
   clear hMe hcap hrow nC hlo ajU;have jy:Hid ((uL ⟨k,hv,0,[],[]⟩ ay ay).toArray.setIfInBounds 38 (int .u32 f)=(uL ⟨k,hv,f,[],[]⟩ ay ay).toArray):=RF (u:=⟨k,hv,0,[],[]⟩) yA f;go_wp2_with fail;refine JC (fun W=>W.heap[ub]?=some (cells (uL ⟨k,hv,f,[],[]⟩ ay ay).toArray 121 (0,0))/\W.heap[wr.heap.size]?=some (cells #[int .u32 f,int .u32 ((f:Int)+(q:Int))] 175 (0,0))/\Gr w W/\Nu wr W) ⟨?fa,?fb,?fc,?fd⟩ ?_
   case fa=>refine Hr.ae br ?_;rw[hss UF.out,<-HX0.out,jy.out]
   case fb=>have:=awk (wr.setCell ⟨ub,38,none⟩ (int .u32 f)) (cells #[int .u32 f,int .u32 ((f:Int)+(q:Int))] 175);rwa[szC]at this
   case fc=>exact(MJ.setCell (by have:=HUB;exact atr this.symm) _).alloc _
   case fd=>exact((Nu.refl wr).set UF 38 _).trans (Nu.gr br)
   rintro W5 ⟨KU,KR,G5,N5⟩;obtain⟨rb,hrb⟩:∃rb:Nat,rb=wr.heap.size:=⟨_,rfl⟩;rw[<-hrb]at KR ⊢;have hru:ub≠rb:=ab;have rQ:Hid (W5.heap[ub]?=some (cells (uL ⟨k,hv,f,[],[]⟩ ay ay).toArray 121 (0,0))):=KU;have yY:Hid (W5.heap[rb]?=some (cells #[int .u32 f,int .u32 ((f:Int)+(q:Int))] 175 (0,0))):=KR;have kg:Hid (Gr w W5):=G5;have HN5:Hid (Nu W3 W5):=HNr.trans N5;have m0:W5.cell? ⟨g,0,none⟩=some (slice (some ⟨mk,0,none⟩) mn mc):=by rw[<-Zo.out];exact(HR.bw.of G5).c0
   have r0:=fA KR;have r1:=eH KR;have u39:W5.cell? ⟨ub,39,none⟩=some ay:=(cr KU).trans (by rw[arB];exact fo (u:=⟨k,hv,f,[],[]⟩) yA 1);have g39:W5.frozen? ⟨ub,39,none⟩=false:=iA KU;have acW:ub<W5.heap.size:=(gs KU).1;have HCl:Hid (∀W:World,Gr W5 W->Calls prog 36 #[slice (some ⟨mk,f,none⟩) (((f:Int)+(q:Int)).toNat-f) (mc-f)] W fun e w'=>∃a c',e=returned (slice a q c')/\Hc.Own w' Hc.mb (slice a q c') ((s.m.drop f).take q)/\Gr W w'):=fun W G=>by rw[show((f:Int)+(q:Int)).toNat-f=q by omega];exact yw (ZC.of (kg.trans G)) (fun e=>by cases e) ab (arF Zn (kg.trans G).size)
   have q1:(0:Int)<=(f:Int)+(q:Int):=ab;have q2:(f:Int)+(q:Int)<=(mc:Int):=ab;have q3:(f:Int)<=(f:Int)+(q:Int):=ab;have q4:¬mc=f:=ab;clear KU KR G5 N5 hrb MJ HNr HOr UF c0 c1 x38 f38 jy ajT;go_region_held3 (fun W=>W.cell? ⟨g,0,none⟩=some (slice (some ⟨mk,0,none⟩) mn mc)/\W.cell? ⟨rb,0,none⟩=some (int .u32 f)/\W.cell? ⟨rb,1,none⟩=some (int .u32 ((f:Int)+(q:Int)))) (first|(refine⟨?_,?_,?_⟩<;>assumption)|(exact⟨(awv (hso (by exact Nat.ne_of_lt hgu))).trans y0,(awv (hso (by exact hru.symm))).trans y1,(awv (hso (by exact hru.symm))).trans y2⟩)|(go_keep;done)) (first|(go_at_call 36;refine(HCl W5.drew (Gr.refl W5).drew).mono ?_;rintro e w6 ⟨ba,bc',rfl,O6,G6⟩;have HO6:Hid (Hc.Own w6 Hc.mb (slice ba q bc') ((s.m.drop f).take q)):=O6;have nL:Hid (Gr W5 w6):=(Gr.refl W5).drew.trans G6;have y0:w6.cell? ⟨g,0,none⟩=some (slice (some ⟨mk,0,none⟩) mn mc):=(G6.cell _ (by exact Nat.lt_trans hgu acW)).trans m0;have y1:w6.cell? ⟨rb,0,none⟩=some (int .u32 f):=fA (Hr.ae G6 yY);have y2:w6.cell? ⟨rb,1,none⟩=some (int .u32 ((f:Int)+(q:Int))):=eH (Hr.ae G6 yY);have y3:w6.cell? ⟨ub,39,none⟩=some ay:=(G6.cell _ (by exact acW)).trans u39;have y4:w6.frozen? ⟨ub,39,none⟩=false:=iA (Hr.ae G6 rQ);clear O6 G6));refine JC (fun W=>W.heap[ub]?=some (cells (uL ⟨k,hv,f,[],[]⟩ (slice ba q bc') ay).toArray 121 (0,0))/\W.heap[rb]?=some (cells #[int .u32 f,int .u32 ((f:Int)+(q:Int))] 175 (0,0))/\Gr w W/\Nu W3 W/\Hc.Own W Hc.mb (slice ba q bc') ((s.m.drop f).take q)) ⟨?ga,?gb,?gc,?gd,?ge⟩ ?_
   case ga=>rw[hss (Hr.ae nL.out rQ.out),RH (u:=⟨k,hv,f,[],[]⟩) yA.out]
   case gb=>rw[hso (by exact hru.symm)];exact Hr.ae nL yY
   case gc=>exact(kg.trans nL).setCell (by have:=HUB;exact atr this.symm) _
   case gd=>exact(HN5.trans (Nu.gr nL)).set (Hr.ae nL rQ) 39 _
   case ge=>exact HO6.to fun z ob fz hz=>hso (by exact aa hz (Hr.ae nL rQ) an)
   rintro W7 ⟨KU,KR,G7,N7,O7⟩;have HU7:Hid (W7.heap[ub]?=some (cells (uL ⟨k,hv,f,[],[]⟩ (slice ba q bc') ay).toArray 121 (0,0))):=KU;have HR7:Hid (W7.heap[rb]?=some (cells #[int .u32 f,int .u32 ((f:Int)+(q:Int))] 175 (0,0))):=KR;have Bh:Hid (Gr w W7):=G7;have HN7:Hid (Nu W3 W7):=N7;have HO7:Hid (Hc.Own W7 Hc.mb (slice ba q bc') ((s.m.drop f).take q)):=O7;clear rQ yY kg HN5 m0 r0 r1 u39 g39 HCl HO6 nL y0 y1 y2 y3 y4 acW Zo q4;have r0:=fA KR;have r1:=eH KR;have u40:W7.cell? ⟨ub,40,none⟩=some ay:=(cr KU).trans (by rw[arB];exact fo (u:=⟨k,hv,f,[],[]⟩) yA 2);have g40:W7.frozen? ⟨ub,40,none⟩=false:=iA KU;have ajV:ub<W7.heap.size:=(gs KU).1;clear KU KR G7 N7 O7;go_wp2_with fail;go_region_held3 (fun W=>W.cell? ⟨rb,0,none⟩=some (int .u32 f)/\W.cell? ⟨rb,1,none⟩=some (int .u32 ((f:Int)+(q:Int)))) (first|(refine⟨?_,?_⟩<;>assumption)|(exact⟨(awv (hso (by exact hru.symm))).trans y1,(awv (hso (by exact hru.symm))).trans y2⟩)|(go_keep;done)) (first|(go_at_call 84;refine(UA W7.drew Bh.drew).mono ?_;rintro e w8 ⟨lv,rfl,L8,G8⟩;obtain⟨_,_,la,lc,rfl⟩:=au L8;have HL8:Hid (w8.ownsRow W7.drew.heap.size 159 2 (slice la (aX k (f,q) s.hs s.hs.length).length lc) (aX k (f,q) s.hs s.hs.length).length (Dk (aX k (f,q) s.hs s.hs.length))):=L8;have NK:Hid (Gr W7 w8):=(Gr.refl W7).drew.trans G8;have y1:w8.cell? ⟨rb,0,none⟩=some (int .u32 f):=fA (Hr.ae G8 HR7);have y2:w8.cell? ⟨rb,1,none⟩=some (int .u32 ((f:Int)+(q:Int))):=eH (Hr.ae G8 HR7);have y3:w8.cell? ⟨ub,40,none⟩=some ay:=(G8.cell _ (by exact ajV)).trans u40;have y4:w8.frozen? ⟨ub,40,none⟩=false:=iA (Hr.ae G8 HU7);clear L8 G8));have HFin:Hid (Done (w8.setCell ⟨ub,40,none⟩ (slice la (aX k (f,q) s.hs s.hs.length).length lc)) ub (fe s k)):=by
    have hb:=Hr.ae NK HU7;have eu:fe s k=⟨k,hv,f,(s.m.drop f).take q,iw (aX k (f,q) s.hs s.hs.length)⟩:=by
     unfold fe;rw[<-HXs.out,HP.out];unfold qh;rw[HH.out];simp only[arS]
    have kp:∀(z:Nat) (ob:Array Value) (t:Nat) (fz:Nat×Nat),t≠121->w8.heap[z]?=some (cells ob t fz)->(w8.setCell ⟨ub,40,none⟩ (slice la (aX k (f,q) s.hs s.hs.length).length lc)).heap[z]?=w8.heap[z]?:=fun z ob t fz ht hz=>hso (by exact aa hz hb ht)
    rw[eu];refine⟨uL ⟨k,hv,f,[],[]⟩ (slice ba q bc') (slice la (aX k (f,q) s.hs s.hs.length).length lc),ql (u:=⟨k,hv,f,[],[]⟩) yA,?_,slice ba q bc',slice la (aX k (f,q) s.hs s.hs.length).length lc,rfl,?_,?_⟩
    ·rw[hss hb,RI (u:=⟨k,hv,f,[],[]⟩) yA.out]
    ·exact(iO HO7 NK).to fun z ob fz hz=>kp z ob _ fz an hz
    ·have:=aj (vY HL8 (arF Zn Bh.size)) fun z ob fz hz=>kp z ob _ fz an hz
     simp only[MI];rw[show(iw (aX k (f,q) s.hs s.hs.length)).length=(aX k (f,q) s.hs s.hs.length).length by simp[iw]];exact this
   have HGf:Hid (Gr w (w8.setCell ⟨ub,40,none⟩ (slice la (aX k (f,q) s.hs s.hs.length).length lc))):=(Bh.trans NK).setCell (by have:=HUB;exact atr this.symm) _;have HNf:Hid (Nu W3 (w8.setCell ⟨ub,40,none⟩ (slice la (aX k (f,q) s.hs s.hs.length).length lc))):=(HN7.trans (Nu.gr NK)).set (Hr.ae NK HU7) 40 _;generalize(w8.setCell ⟨ub,40,none⟩ (slice la (aX k (f,q) s.hs s.hs.length).length lc))=W9 at *
   go_wp2_with fail;go_roundw
   case rel=>exact⟨1,ab,by go_num,HGf,HNf,fun h=>absurd h (by have:=gH;omega),fun _=>HFin⟩
   case measure=>simp[intOf];omega
  ·obtain⟨XL,hXl,hXb,hUo⟩:=hB ab;have UF:Hid (wr.heap[ub]?=some (cells XL.toArray 121 (0,0))):=hXb;have HXl:Hid (XL.length=41):=hXl;have HUo:Hid (Uo wr (fe s k) XL):=hUo;have Du:Hid (Rw wr base g M gh hc O U xs s us):=HR.of MJ;obtain⟨QL,Ra⟩:∃QL:List Value,Hid (qA d=QL.toArray):=⟨_,rfl⟩;have HQl:Hid (QL.length=41):=by have:=rP;rw[Ra.out,asb]at this;exact this
   have uk:Hid (∀V:World,V.heap[o]?=some (cells (qA d) 142 (0,0))->V.rangeAt o 0 QL):=fun V e i v hv=>by rw[arH,cr e,Ra.out,arB];exact hv
   have HTa:Hid (∀V:World,Gr wr V->Calls prog 58 #[pointer (some ⟨g,0,none⟩),int i64 k,agg QL.toArray] V fun e w'=>e=returned (tuple #[])/\Bd 88 [U] w' base g (cO s k)/\Fe 88 base V w'):=fun V G=>by
    rw[<-Ra.out,<-HTk.out];obtain⟨b3,D3⟩:=HD3;have o1:=HXo.1.out;have o2:=HXo.1.ax;have o3:=HXo.2;exact DT (Du.bw.of G) HF.len hc4 ((Dq.nu D3 HNr).gr G) HOd (fun p hp=>by have:=HXo.1.bd p hp;omega) ab ab ab hk
   have hul:w.heap.size<=ub:=by have:=HUB.out;omega
   clear hXl hXb hUo hA hB G N;go_wp2_with fail;refine awN (S:=fun W=>W.rangeAt o 0 QL) al (uk _ HOr) (fun hHeld=>?_);have bA:Hid _:=hHeld;clear hHeld;refine tK 0 (pointer (some ⟨g,0,none⟩)) bA ?_;refine tK 1 (pointer (some ⟨g,0,none⟩)) bA ?_;refine tK 2 (pointer (some ⟨g,0,none⟩)) bA ?_;refine tK 3 (int i64 k) bA ?_;refine aw1 (i:=4) (v:=agg QL.toArray) rfl al al al (fun _ _ _ h=>h) (aw9 (by rfl) 142 (tmp 5) rfl o 0 aw QL _ (fun W hW=>hW) underlying142 rfl (by rw[HQl.out];exact iQ)) bA ?_;simp only[arx,aru,arv,Act.put,arp,art,ars];refine aww (rs:=[5]) al aq ?_;refine awp rfl (fun K hK=>?_) awu;go_simp;refine(HTa _ (Gr.refl _).drew).mono ?_;rintro e w5 ⟨rfl,B5,F5⟩;have Jb:Hid (Fe 88 base wr w5):=⟨(Below.drew (awX base wr)).trans F5.below,F5.keep⟩;have HO5:Hid (w5.heap[o]?=some (cells (qA d) 142 (0,0))):=(Jb.cells HOr an an an).trans HOr;have rQ:Hid (w5.heap[ub]?=some (cells XL.toArray 121 (0,0))):=(Jb.cells UF an an an).trans UF;have agr:Hid (Uo w5 (fe s k) XL):=HUo.to fun z ob t fz ht hz=>Jb.cells hz (by rcases ht with rfl|rfl<;>decide) (by rcases ht with rfl|rfl<;>decide) (by rcases ht with rfl|rfl<;>decide)
   obtain⟨M5,gh5,hc5,O5,R5⟩:=Du.take B5 Jb;have yY:Hid (Rw w5 base g M5 gh5 hc5 O5 U xs (cO s k) us):=R5;have HFk:Hid (Fk base w w5):=(Fk.aJ MJ hbb).trans (Fk.ajR Jb);clear B5 F5;refine hK.out _ _ (uk _ HO5) (fun hx=>?_);clear hK K hx;refine awT al ?_ _;have c4:w5.cell? ⟨g,4,none⟩=some U:=R5.bw.rest 0;have hg5:g<w5.heap.size:=R5.bw.lt;obtain⟨ua,uc,hU⟩:=(au R5.row).2.2;have HUe:Hid (U=slice ua us.length uc):=hU;have HSu:Hid (∀V:World,V.heap[ub]?=some (cells XL.toArray 121 (0,0))->V.rangeAt ub 0 XL):=fun V e i v hv=>by rw[arH,cr e,arB];exact hv
   clear R5 bA HTa uk HOr UF Du HUo HO5 Ra;rw[hU]at c4;clear hU;obtain⟨i0,hi,hz0,hz1,hz2⟩:=awS vo;go_wp2_with fail;refine awN (S:=fun W=>W.rangeAt ub 0 XL) al (HSu _ rQ) (fun hHeld=>?_);have HT0:Hid _:=hHeld;clear hHeld;refine tK 0 (pointer (some ⟨g,0,none⟩)) HT0 ?_;refine tK 1 (pointer (some ⟨g,0,none⟩)) HT0 ?_;refine tK 2 (pointer (some ⟨g,0,none⟩)) HT0 ?_;refine tK 3 (pointer (some ⟨g,4,none⟩)) HT0 ?_;refine aw1 (i:=5) (v:=agg XL.toArray) rfl al al al (fun _ _ _ h=>h) (aw9 (by rfl) 121 (tmp 4) rfl ub 0 aw XL _ (fun W hW=>hW) underlying121 rfl (by rw[HXl.out];exact iU)) HT0 ?_;simp only[arx,aru,arv,Act.put,arp,art,ars];have jy:Hid (∀u∈XL,u.oneCell'=true):=agr.one;have nL:Hid (Gr w5 (w5.drew.alloc (cells XL.toArray 121))):=Gr.alloc (Gr.drew (Gr.refl _)) _;have HSa:Hid (∀Z:Obj,(w5.drew.alloc Z).rangeAt ub 0 XL):=fun Z=>HSu _ (Hr.ae (Gr.alloc (Gr.drew (Gr.refl w5)) Z) rQ)
   apply RJ
   ·intro jW;refine aww (rs:=[4,6]) al aq ?_;refine awp rfl (fun K hK=>?_) (awp rfl (fun K hK=>?_) awu)
    ·go_simp;refine hK.out _ _ HT0 (fun hx=>?_);clear hK K hx;refine aww (rs:=[6]) al aq ?_;refine awp rfl (fun K hK=>?_) awu;refine bN rfl 30 121 (tmp 69) rfl XL.toArray 41 ar (by simp[HXl.out]) underlying30 iUz an an ?_;refine hK.out _ _ (HSa _) (fun hx=>?_);clear hK K hx;simp only[arx,aru,arv,Act.put,arp,art,ars];exact jW.out
    ·refine bN rfl 30 121 (tmp 69) rfl XL.toArray 41 ar (by simp[HXl.out]) underlying30 iUz an an ?_;refine hK.out _ _ (HSa _) (fun hx=>?_);clear hK K hx;simp only[arx,aru,arv,Act.put,arp,art,ars];refine aww (rs:=[4]) al aq ?_;refine awp rfl (fun K hK=>?_) awu;go_simp;refine hK.out _ _ (HSa _) (fun hx=>?_);clear hK K hx;exact jW.out
   have HXc:Hid (∀j u,XL[j]?=some u->(w5.drew.alloc (cells XL.toArray 121)).cell? ((⟨w5.drew.heap.size,0,none⟩:Addr).add j)=some u):=fun j u hj=>by
    rw[cK,arH,cr (awk w5.drew (cells XL.toArray 121)),arB];exact hj
   refine aww (rs:=[7]) al aq ?_;refine awp rfl (fun K hK=>?_) awu;refine bC rfl (tmp 68) (tmp 70) 30 rfl base 121 i0 _ 41 224 underlying30 hi hz0 hz1 hz2 (by simp[Value.cells,ql (u:=h00) jA]) an (slice ua us.length uc) us.length xs ar (by rw[<-HUe.out];exact aD yY.row nL) ⟨w5.drew.heap.size,0,none⟩ 1 1 XL ar (by rw[HXl.out]) HXc jy bj ab (by have:=nL.size;have:=yY.bw.az;omega) ?_;intro v' w7 hown hgrow;rw[<-HUe.out]at hgrow;obtain⟨g',cp,rfl⟩:=dA hown ab;obtain⟨c7,f7,RN,FN⟩:=(yY.of nL).put (agr.to (Ky.aJ nL)) HXl rfl hown hgrow;have HRN:Hid _:=RN;have XK:Hid (Fk base w5 _):=(Fk.aJ nL yY.bw.az).trans FN;have HS7:Hid (w7.heap[ub]?=some (cells XL.toArray 121 (0,0))):=by
    have hne:some ub≠U.ownBlock:=fun e=>by have:=(HR.row.lt ub e.symm).2;omega
    exact(hgrow.block ub (by have:=nL.size;have:=(gs rQ).1;omega) hne).trans (Hr.ae nL rQ)
   clear RN FN;refine hK.out _ _ (HSu _ HS7) (fun hx=>?_);clear hK K hx hown hgrow;have HT7:Hid (w7.rangeAt ub 0 XL):=HSu _ HS7;have HS8:Hid ((w7.setCell ⟨g,4,none⟩ (slice (some ⟨g',0,none⟩) (us.length+1) cp)).rangeAt ub 0 XL):=HSu _ (by rw[hso (by exact Nat.ne_of_gt hgu)];exact HS7);refine tK 8 (pointer (some ⟨g,0,none⟩)) HT7 ?_;refine tK 9 (pointer (some ⟨g,4,none⟩)) HT7 ?_;refine aww (rs:=[10]) al aq ?_;refine awp rfl (fun K hK=>?_) awu;go_simp;refine hK.out _ _ HS8 (fun hx=>?_);clear hK K hx;refine awT al ?_ _;go_wp2_with fail;go_end0;exact⟨rfl,HRN,HFk.trans XK⟩
end Ud
namespace Ud
variable[Inhabited Hc.bH]
open Mm Hh Hc Mc
variable{kY:List Uv}{s s':Sh}
theorem RO (h:¬(at' s k).state=0):∀n,xJ s k n=[]
 |0=>rfl
 |n+1=>awm h
structure Tw (s:Sh) (us:List Uv) (k n j:Nat) (c mn:Nat) (s':Sh) (kY:List Uv):Prop where
 le:j<=n
 runs:runs s k n=runs s' k (n-j)
 gM:us++gM s (xJ s k n)=kY++gM s' (xJ s' k (n-j))
 fit:Fit s' c mn
 ul:kY.length<=us.length+j
 ol:s'.out.length<=s.out.length+j
 sl:s'.steps<=s.steps+j
theorem MK (F:Fit s c n)(hk:k<c)(h:(at' s k).state=0):(cO s k).out.length<=s.out.length+1:=by
 have hl:k<s.hs.length:=by rw[F.len];exact hk
 have eh:s.hs[k]?=some (at' s k):=by unfold at';rw[arq hl];simp[List.getD,hl]
 have g:=mV (CE (F.ok _ (dO eh)).2 h) s.m;have:=g.2.2.2.1;simp only[cO,ary];omega
theorem Tw.on {us}(t:Tw s us k n j c mn s' kY)(hk:k<c)(hj:j<n)(h:(at' s' k).state=0):Tw s us k n (j+1) c mn (cO s' k) (kY++[fe s' k]):=by
 have e:n-j=(n-(j+1))+1:=ab;have o:=MK t.fit hk h;refine⟨ab,?_,?_,lG t.fit hk h,?_,?_,?_⟩
 ·rw[t.runs,e];show(if(at' s' k).state=0 then Mc.runs (cO s' k) k (n-(j+1))else s')=_
  rw[awn h]
 ·rw[t.gM,e,asq];show kY++Ud.gM s' (if(at' s' k).state=0 then k::xJ (cO s' k) k (n-(j+1))else[])=_
  rw[awn h];rfl
 ·have:=t.ul;simp;omega
 ·have:=t.ol;omega
 ·have:=t.sl;show s'.steps+1<=_;omega
theorem Tw.stop {us}(t:Tw s us k n j c mn s' kY)(h:¬(at' s' k).state=0\/j=n):Mc.runs s k n=s'/\us++Ud.gM s (xJ s k n)=kY:=by
 rw[t.runs,t.gM];rcases h with h|h
 ·rw[sG h,RO h];exact⟨rfl,by simp[Ud.gM]⟩
 ·rw[h,Nat.sub_self];exact⟨rfl,by simp[xJ,Ud.gM]⟩
theorem wK {us}(R:Rc w base g s us)(T:TT w base)(F:Fit s c mn)(ni:mn<=4096)(hk:k<c)(hc4:c<=4)(hn:n<=400)(hus:us.length+400<=200000)(hout:s.out.length+400<=200000)(hstp:s.steps+400<=200000):Calls prog 23 #[pointer (some ⟨g,0,none⟩),agg #[int i64 k,int i64 n]] w fun e w'=>e=returned (tuple #[])/\Rc w' base g (runs s k n) (us++gM s (xJ s k n))/\Fk base w w':=by
 have hbb:base<=w.heap.size:=by obtain⟨_,_,_,_,_,_,R⟩:=R;exact R.bw.az
 have HR:=kH R;have HTT:=kH T;have HF:=kH F;go_enter func23,ntmps23;go_wp2_with fail;go_loopw [6] (fun i wr=>∃(j:Nat) (s':Sh) (kY:List Uv),i=int i64 j/\Tw s us k n j c mn s' kY/\Rc wr base g s' kY/\Fk base w wr/\wr.heap[w.heap.size]?=some (cells #[int i64 k,int i64 n] 45 (0,0))) (fun i _=>n-(intOf i).toNat)
 case atStart=>exact⟨0,s,us,rfl,⟨arQ _,rfl,rfl,HF,arA _,arA _,arA _⟩,HR.of br,Fk.aJ br hbb,awk w _⟩
 case round=>
  obtain⟨j,s',kY,rfl,t,R,FK,KP⟩:=hrel;have HT:=kH t;have Du:=kH R;have HFK:=kH FK;have HP:=kH KP;have p0:=fA KP;have p1:=eH KP;have hle:=t.le;obtain⟨M0,gh,hc,O0,U0,xs0,R0⟩:=R;have hl:k<s'.hs.length:=by rw[t.fit.len];exact hk
  have eh:s'.hs[k]?=some (at' s' k):=by unfold at';rw[arq hl];simp[List.getD,hl]
  have kS:=(t.fit.ok _ (dO eh)).1;have g1:wr.cell? ⟨g,1,none⟩=some (slice (some ⟨gh,0,none⟩) c hc):=by have:=R0.bw.c1;rw[t.fit.len]at this;exact this
  have c35:=(R0.bw.row.cell eh ab).trans (bu kS 3);have hbr:=R0.bw.az;by_cases hlt:j<n
  ·by_cases hst:(at' s' k).state=0
   ·have Uy:Hid (∀W:World,Gr wr W->Calls prog 56 #[pointer (some ⟨g,0,none⟩),int i64 k] W fun e w'=>e=returned (tuple #[])/\Rc w' base g (cO s' k) (kY++[fe s' k])/\Fk base W w'):=fun W G=>by
     have t:=HT;have:=t.ul;have:=t.ol;have:=t.sl;exact RL (Du.of G) (wR HTT (HFK.below.trans (awH G hbr))) t.fit ni hk hc4 hst ab ab ab
    have HTn:=kH (HT.on hk hlt hst);rw[hst]at c35;go_wp2_with fail;go_quiet (fail);go_wp2_with fail;refine(Uy _ ((Gr.refl _).drewN _)).mono ?_;rintro e w2 ⟨rfl,R2,F2⟩;have HR2:=kH R2;have mP:=kH (HFK.trans ((Fk.aJ ((Gr.refl wr).drewN _) hbr).trans F2));have oJ:=kH (F2.row HP an an an an);go_wp2_with fail;go_roundw
    case rel=>exact⟨j+1,_,_,by go_num,HTn,HR2,mP,oJ⟩
    case measure=>simp[intOf];omega
   ·have ZE:Hid (Rc wr base g (runs s k n) (us++gM s (xJ s k n))):=by
     obtain⟨e1,e2⟩:=HT.stop (.inl hst);rw[e1,e2];exact Du
    have hne:((at' s' k).state ==0)=false:=by simpa using hst
    have hne2:((at' s' k).state !=0)=true:=by simpa using hst
    generalize(at' s' k).state=st at *
    go_wp2_with fail;go_quiet (fail);go_wp2_with fail;refine awt (axf results23 _ _ _) rfl ?_;exact⟨rfl,ZE.of ((Gr.refl _).drewN _),HFK.trans (Fk.aJ ((Gr.refl wr).drewN _) hbr)⟩
  ·have ZE:Hid (Rc wr base g (runs s k n) (us++gM s (xJ s k n))):=by
    obtain⟨e1,e2⟩:=HT.stop (.inr ab);rw[e1,e2];exact Du
   generalize(at' s' k).state=st at *
   go_wp2_with fail;go_end0;exact⟨rfl,ZE,HFK⟩
end Ud
namespace Ud
variable[Inhabited Hc.bH]
open Mm Hh Hc Mc
theorem um {p t u}{ty}(h:fn.results=#[.cell p ty,.tmp t,.tmp u])(tmps:Array Value)(w)(g)(tt)(cs)(fr)(d)
  (v v2)(hp:tmps.getD p undef=.pointer (some ⟨g,0,none⟩))(hv:tmps.getD t undef=v)(hv2:tmps.getD u undef=v2)(hg:w.heap[g]?=some (.cells cs tt fr))
  (hu:P.underlying ty=some d)(hd:(match d with|.struct _|.array _ _=>true|_=>false)=true)(hi:(P.info? ty).map (·.size)=some cs.size):
  (results fn tmps).run P w=.ok (.tuple #[.agg cs,v,v2]) w:=by
 subst hv hv2;have hp':tmps[p]?.getD undef=.pointer (some ⟨g,0,none⟩):=by simpa using hp
 simp[results,h,hp',asAddr,axn w g tt ty cs fr d hg hu hd hi]
theorem RP (s)(a)(k n):gM s (ko s (a++[(k,n)]))=gM s (ko s a)++gM (aP s a) (xJ (aP s a) k n):=by
 rw[Jq,AY,<-nO];congr 2;show xJ (aP s a) k n++[]=_
 rw[arP]
theorem ML (s)(a):s.steps+(gM s (ko s a)).length=(aP s a).steps:=by rw[oL,nO,yQ]
theorem XM (mc hc pc){hs}(mn)(ni:m.length=mn)(H:Hs w ha hn hs)(P:Ps w pa pn ps)(b1:mn<=140737488351232)(b2:hn<=140737488351232)(b3:pn<=140737488351232)(hno:¬wrong m hs ps=0):Calls prog 10 #[agg #[slice ma mn mc,slice ha hn hc],slice pa pn pc] w fun e w'=>e=returned (tuple #[agg #[slice none 0 0,slice none 0 0,slice none 0 0,int i64 0],slice none 0 0,int i64 (wrong m hs ps)])/\Gr w w':=by
 have HM:Hid (∀W:World,Gr w W->Calls prog 22 #[agg #[slice ma mn mc,slice ha hn hc],slice pa pn pc] W fun e w'=>e=returned (tuple #[agg #[slice none 0 0,slice none 0 0,slice none 0 0,int i64 0],int i64 (wrong m hs ps)])/\Gr W w'):=fun W G=>uf mc hc pc mn ni (H.of G) (P.of G) b1 b2 b3 hno
 clear H P ni;generalize wrong m hs ps=E at *
 have hE:(E !=0)=true:=by simpa using hno
 go_enter func10,ntmps10;go_wp2_with fail;refine(HM _ (br.alloc _)).mono ?_;rintro e w1 ⟨rfl,G1⟩;have aU:=kH ((br.alloc _).trans G1);have HB:=kH ((fQ G1).2);have hlt:=(gs HB).1;have HI:=kH iS;have HB2:Hid (∀Y:Array Value,(w1.alloc (cells Y 84)).heap[w.heap.size+1]?=some (cells #[slice none 0 0,slice none 0 0,slice none 0 0,int i64 0] 47 (0,0))):=fun Y=>Hr.ae br HB
 go_wp2_with (refine awx rfl 47 _ _ rfl (w.heap.size+1) #[slice none 0 0,slice none 0 0,slice none 0 0,int i64 0] rfl rfl 47 _ ?hb HI rfl al ?_;(case hb=>exact HB2 _));refine awt (v:=tuple #[agg _,slice none 0 0,int i64 E]) (um results10 _ _ _ _ _ (0,0) _ _ _ rfl rfl rfl (awJ _ _ _ _ _ (0,0) (HB2 _)) underlying47 rfl HI) rfl ⟨rfl,?_⟩;exact ag (aU.alloc _) (asA _) _
theorem RQ (mc hc pc){hs}(mn)(T:TT w w.heap.size)(M:Mem w ma mn m)(hcap:ma=none->mc=0)(H:Hs w ha hn hs)(P:Ps w pa pn ps)(hy:wrong m hs ps=0)(hmb:Hc.mb<=w.heap.size):Calls prog 10 #[agg #[slice ma mn mc,slice ha hn hc],slice pa pn pc] w fun e w'=>∃v ua un uc,e=returned (tuple #[v,slice ua un uc,int i64 0])/\ShO w' v hn mn (aP ⟨hs,m,[],0⟩ (nums ps))/\(Us w' ua un (gM ⟨hs,m,[],0⟩ (ko ⟨hs,m,[],0⟩ (nums ps)))/\UsL w' Hc.mb ua un)/\un<=uc/\Gr w w':=by
 obtain⟨b1,b2,b4,AO,b3,hpk⟩:=lT hy;have nC:=M.len;have ZF:=H.len;have hpl:=P.len;have HN:Hid (∀W:World,Gr w W->Calls prog 22 #[agg #[slice ma mn mc,slice ha hn hc],slice pa pn pc] W fun e w'=>∃a c gh hc,e=returned (tuple #[agg #[slice a mn c,slice (some ⟨gh,0,none⟩) hn hc,slice none 0 0,int i64 0],int i64 0])/\Hc.Own w' Hc.mb (slice a mn c) m/\W.heap.size<=gh/\(bY w' gh hs/\Zh w' gh hc)/\Gr W w'):=fun W G=>mE mc hc pc mn (M.of G) hcap (H.of G) (P.of G) ab hy ab ab ab (arF hmb G.size)
 have F0:Fit ⟨hs,m,[],0⟩ hn mn:=⟨ZF,nC,fun h hm=>⟨H.ok h hm,AO h hm⟩⟩;have HF0:=kH F0;have HT:=kH T;have HP:=kH P;have zZ:=kH hpl;have HPK:Hid (∀p∈ps,0<=p.1/\p.1<hn/\0<=p.2/\p.2<=400):=by rw[ZF]at hpk;exact hpk
 have wY:=kH ZF;have HLV:Hid (Live ⟨hs,m,[],0⟩ (ko ⟨hs,m,[],0⟩ (nums ps))):=wN _ _ (fun q hq=>by
  obtain⟨r,hr,rfl⟩:=arY.1 hq;have:=hpk r hr;show r.1.toNat<hs.length
  omega)
 have c4:hn<=4:=ab;have m4:mn<=4096:=ab;have p4:pn<=300:=ab;have EP:Hid (∀j,Fit (aP ⟨hs,m,[],0⟩ ((nums ps).take j)) hn mn):=fun j=>qQ _ (fun q hq=>by
  obtain⟨r,hr,rfl⟩:=arY.1 (asP hq);have:=HPK r hr;show r.1.toNat<hn
  omega) F0
 have ajY:=kH hmb;go_enter func10,ntmps10;go_wp2_with fail;refine(HN _ (br.alloc _)).mono ?_;rintro e w1 ⟨a1,c1,gh,hc1,rfl,O1,hgh,R1,G1⟩;have aU:=kH ((br.alloc _).trans G1);have gH:=kH ((fQ G1).2);have hlt:=(gs gH).1;have XA:w.heap.size+2<=gh:=by simpa using hgh
 have WN:=kH O1;have HR1:=kH R1.1;have HZ1:=kH R1.2;go_wp2_with fail;refine JC (fun W=>Rw W (w.heap.size+2) (w1.heap.size+1) (slice a1 mn c1) gh hc1 (slice none 0 0) (slice none 0 0) [] ⟨hs,m,[],0⟩ []/\W.heap[w.heap.size+1]?=some (cells #[slice none 0 0,slice none 0 0,slice none 0 0,int i64 0] 47 (0,0))/\Gr w W) ?_ ?_
 ·have GA:∀o1 o2:Obj,Gr w1 ((w1.alloc o1).alloc o2):=fun o1 o2=>br.alloc _
  have e1:∀o1:Obj,(w1.alloc o1).heap.size=w1.heap.size+1:=fun o1=>aq
  have hblk:=awk (w1.alloc (cells #[slice a1 mn c1,slice (some ⟨gh,0,none⟩) hn hc1,slice none 0 0,int i64 0] 84)) (cells #[slice a1 mn c1,slice (some ⟨gh,0,none⟩) hn hc1,slice none 0 0,int i64 0,slice none 0 0] 88);rw[e1]at hblk;refine⟨⟨⟨an,an,an,ab,?_,iO WN (GA _ _),XA,HR1.of (GA _ _),awG _ _ _ _,⟨HZ1.of (GA _ _),ab⟩⟩,awG _ _ _ _,Ux.nil _⟩,Hr.ae (GA _ _) gH,aU.trans (GA _ _)⟩;show _=some (Obj.cells #[slice a1 mn c1,slice (some ⟨gh,0,none⟩) hs.length hc1,slice none 0 0,int i64 ((0:Nat):Int),slice none 0 0] 88 (0,0))
  rw[wY.out];exact hblk
 obtain⟨g,hg⟩:∃g:Nat,g=w1.heap.size+1:=⟨_,rfl⟩;rw[<-hg];rintro W3 ⟨R3,u1,G3⟩;have hwg:w.heap.size+2<=g:=ab;clear hg hlt;have HR3:Hid (Rc W3 (w.heap.size+2) g ⟨hs,m,[],0⟩ []):=⟨_,_,_,_,_,_,R3⟩;have uj:=kH u1;have eO:Hid (Gr w W3):=G3;have hb3:w.heap.size+2<=W3.heap.size:=R3.bw.az;have HT3:Hid (TT W3 (w.heap.size+2)):=ZI (wR HT G3) ab;have HGx:Hid (∀V:World,Below (w.heap.size+2) W3 V->Gr w V/\V.heap[w.heap.size+1]?=some (cells #[slice none 0 0,slice none 0 0,slice none 0 0,int i64 0] 47 (0,0))):=fun V B=>⟨yP eO B ab,(B.block _ ab).trans uj⟩
 clear R3 u1 G3 uj eO HT;go_loopw [26] (fun i wr=>∃j:Nat,j<=pn/\i=int i64 j/\Rc wr (w.heap.size+2) g (aP ⟨hs,m,[],0⟩ ((nums ps).take j)) (gM ⟨hs,m,[],0⟩ (ko ⟨hs,m,[],0⟩ ((nums ps).take j)))/\Few (aP ⟨hs,m,[],0⟩ ((nums ps).take j)) (400*j)/\Below (w.heap.size+2) W3 wr) (fun i _=>pn-(intOf i).toNat)
 case atStart=>exact⟨0,arQ _,rfl,HR3,⟨arA _,arA _⟩,awX _ _⟩
 case round=>
  obtain⟨j,hj,rfl,R4,fw,B4⟩:=hrel;have HR4:=kH R4;have HFW:=kH fw;have uC:=kH B4;have fM:=kH ((HGx _ B4).1);have hb4:=arF hb3 B4.size;by_cases hlt:j<pn
  ·obtain⟨p,hp⟩:∃p,ps[j]?=some p:=⟨_,arq (by rw[zZ.out];exact hlt)⟩;obtain⟨z0,z1,z2,z3⟩:=HPK p (arE hp);obtain⟨b',o',rfl,hb',hcell'⟩:=HP.spot ab;have q0:=(fM.cell _ (by exact hb')).trans (hcell' j p hp).1;have q1:=(fM.cell _ (by exact hb')).trans (hcell' j p hp).2;have HTK:=kH (DZ hp);clear hcell' hp;obtain⟨p1,p2⟩:=p;simp only at *
   obtain⟨k,rfl⟩:=arI z0;obtain⟨n,rfl⟩:=arI z2;simp only[arS]at HTK;have hk:k<hn:=ab;have hn4:n<=400:=ab;have HTu:Hid (∀V:World,Gr wr V->Calls prog 23 #[pointer (some ⟨g,0,none⟩),agg #[int i64 k,int i64 n]] V fun e w'=>e=returned (tuple #[])/\Rc w' (w.heap.size+2) g (aP ⟨hs,m,[],0⟩ ((nums ps).take (j+1))) (gM ⟨hs,m,[],0⟩ (ko ⟨hs,m,[],0⟩ ((nums ps).take (j+1))))/\Below (w.heap.size+2) V w'):=fun V G=>by
    have f1:=HFW.1;have f2:=HFW.2;have f3:=ML ⟨hs,m,[],0⟩ ((nums ps).take j);simp only[arH]at f3;have f4:(gM ⟨hs,m,[],0⟩ (ko ⟨hs,m,[],0⟩ ((nums ps).take j))).length=(aP ⟨hs,m,[],0⟩ ((nums ps).take j)).steps:=f3;refine(wK (HR4.of G) (wR HT3 (uC.trans (awH G hb4))) (EP j) m4 hk c4 hn4 ab ab ab).mono ?_;rintro e w' ⟨rfl,R',F'⟩;rw[HTK.out,RP,vL];exact⟨rfl,R',F'.below⟩
   have XK:Hid (Few (aP ⟨hs,m,[],0⟩ ((nums ps).take (j+1))) (400*(j+1))):=by
    unfold Hid;rw[HTK.out,vL,jM];show Few (runs _ k n) _
    rw[qR (by rw[(EP.out j).len];exact hk) n,show 400*(j+1)=400*j+400 by omega];have:=Jm n (qV (EP j) hk);have e0:(w0 (aP ⟨hs,m,[],0⟩ ((nums ps).take j)) k).n=0:=rfl;exact Rb HFW this.1 ab
   clear z0 z1 z2 z3 HR4 HFW HTK;go_wp2_with fail;refine(HTu _ br).mono ?_;rintro e w5 ⟨rfl,R5,B5⟩;have yY:=kH R5;have NI:=kH (uC.trans ((awH ((Gr.refl wr).alloc _) hb4).trans B5));go_wp2_with fail;go_roundw
   case rel=>exact⟨j+1,ab,by go_num,yY,XK,NI⟩
   case measure=>simp[intOf];omega
  ·have ej:ps.length<=j:=by rw[zZ.out];omega
   have HE:Hid ((nums ps).take j=nums ps):=by unfold Hid;rw[ar5 (by unfold nums;rw[asf];exact ej)]
   have HFs:Hid (Fit (aP ⟨hs,m,[],0⟩ (nums ps)) hn mn):=by have:=EP j;rw[HE.out]at this;exact this
   obtain⟨Mv,gh,hc1,Ov,Uv',xs,R5⟩:=HR4;rw[HE.out]at R5;have HUO:Hid (∀u∈gM ⟨hs,m,[],0⟩ (ko ⟨hs,m,[],0⟩ (nums ps)),u.Ok/\(-9223372036854775808<=u.k/\u.k<=9223372036854775807)/\(∀q∈u.lost, -9223372036854775808<=q.1/\q.1<=9223372036854775807)/\u.bs.length<=4096/\u.lost.length<=4096):=fun u hu=>by
    obtain⟨f1,f2,f3,f4⟩:=A7 m4 _ _ HF0 HLV u hu;unfold fT at f1;simp only[arR,awD,ar0]at f1;obtain⟨⟨a0,a1⟩,a2,a3,a4⟩:=f1;exact⟨f2,⟨ab,ab⟩,fun q hq=>by have:=a4 q hq;omega,f3,ab⟩
   generalize hS:aP ⟨hs,m,[],0⟩ (nums ps)=s at *
   generalize hUU:gM ⟨hs,m,[],0⟩ (ko ⟨hs,m,[],0⟩ (nums ps))=us at *
   have HSS:=kH hS;have HUU:=kH hUU;obtain⟨va,vc,rfl, -⟩:=R5.bw.mem.mem;obtain⟨oa,oc,rfl⟩:=(au R5.bw.out).2.2;obtain⟨ua,uc,rfl⟩:=(au R5.row).2.2;have yY:=kH R5;have Xw:=kH HFs.mem;have HHs:=kH HFs.len;have HUC:Hid (us.length<=uc):=by
    rcases R5.row.2 with⟨e,e2⟩|⟨g',cp,cur,e,_,_,e3,_⟩
    ·show us.length<=uc;rw[e2];exact arQ _
    ·injection e with _ _ e;rw[<-e]at e3;exact e3
   obtain⟨ol,hol⟩:∃ol:Nat,ol=s.out.length:=⟨_,rfl⟩;obtain⟨st,hst⟩:∃st:Int,st=s.steps:=⟨_,rfl⟩;obtain⟨un,hun⟩:∃un:Nat,un=us.length:=⟨_,rfl⟩;have HOS:Hid (ol=s.out.length/\st=s.steps/\un=us.length):=⟨hol,hst,hun⟩;have HS:Hid ((fun W=>W.cell? ⟨g,0,none⟩=some (slice va mn vc)/\W.cell? ⟨g,1,none⟩=some (slice (some ⟨gh,0,none⟩) hn hc1)/\W.cell? ⟨g,2,none⟩=some (slice oa ol oc)/\W.cell? ⟨g,3,none⟩=some (int i64 st)/\W.cell? ⟨g,4,none⟩=some (slice ua un uc)) wr):=by
    have x0:=R5.bw.c0;have x1:=R5.bw.c1;have x2:=R5.bw.c2;have x3:=R5.bw.c3;have x4:=R5.bw.rest 0;rw[Xw.out]at x0;rw[HHs.out]at x1;rw[<-hol]at x2;rw[<-hst]at x3;rw[<-hun]at x4;exact⟨x0,x1,x2,x3,x4⟩
   obtain⟨GW,U1⟩:=HGx _ uC;have BU:=kH GW;have uj:=kH U1;have gH:Hid (∀(V:World),(∀i:Nat,V.cell? ⟨g,i,none⟩=wr.cell? ⟨g,i,none⟩)->(fun W=>W.cell? ⟨g,0,none⟩=some (slice va mn vc)/\W.cell? ⟨g,1,none⟩=some (slice (some ⟨gh,0,none⟩) hn hc1)/\W.cell? ⟨g,2,none⟩=some (slice oa ol oc)/\W.cell? ⟨g,3,none⟩=some (int i64 st)/\W.cell? ⟨g,4,none⟩=some (slice ua un uc)) V):=fun V h=>by
    obtain⟨y0,y1,y2,y3,y4⟩:=HS;exact⟨(h 0).trans y0,(h 1).trans y1,(h 2).trans y2,(h 3).trans y3,(h 4).trans y4⟩
   go_wp2_with fail;refine awN (S:=fun W=>W.cell? ⟨g,0,none⟩=some (slice va mn vc)/\W.cell? ⟨g,1,none⟩=some (slice (some ⟨gh,0,none⟩) hn hc1)/\W.cell? ⟨g,2,none⟩=some (slice oa ol oc)/\W.cell? ⟨g,3,none⟩=some (int i64 st)/\W.cell? ⟨g,4,none⟩=some (slice ua un uc)) al ?_ (fun hHeld=>?_)
   ·exact gH _ (fun i=>rfl)
   have bA:=kH hHeld;refine tK 0 (pointer (some ⟨g,0,none⟩)) bA ?_;refine tK 1 (pointer (some ⟨g,0,none⟩)) bA ?_;refine tK 2 (agg #[slice va mn vc,slice (some ⟨gh,0,none⟩) hn hc1,slice oa ol oc,int i64 st]) bA ?_;refine tK 3 (pointer (some ⟨g,4,none⟩)) bA ?_;refine tK 4 (slice ua un uc) bA ?_;have jw:Hid (∀i:Nat,(wr.drew.setRow (w.heap.size+1) #[slice va mn vc,slice (some ⟨gh,0,none⟩) hn hc1,slice oa ol oc,int i64 st]).cell? ⟨g,i,none⟩=wr.cell? ⟨g,i,none⟩):=fun i=>awv (awI _ _ _ _ (by show g≠w.heap.size+1;omega))
   refine aww (rs:=[5]) al aq ?_;refine awp rfl (fun K hK=>?_) awu;refine iM rfl 47 (tmp 4) (tmp 35) rfl (w.heap.size+1) #[slice va mn vc,slice (some ⟨gh,0,none⟩) hn hc1,slice oa ol oc,int i64 st] aw aw 47 #[slice none 0 0,slice none 0 0,slice none 0 0,int i64 0] uj iS rfl (FR _ _ _ _ _ _ _ _ _ _) ?_;refine hK.out _ _ (gH _ jw) (fun hx=>?_);simp only[arx,aru,arv,Act.put,arp,art,ars];refine tK 6 (slice ua un uc) (gH _ jw) ?_;refine tK 7 (int i64 0) (gH _ jw) ?_;refine awT al ?_ _;have ne:∀(t:Nat) (k:Nat) (q:Array Value) (f:Nat×Nat),t≠47->wr.heap[k]?=some (cells q t f)->(wr.drew.setRow (w.heap.size+1) #[slice va mn vc,slice (some ⟨gh,0,none⟩) hn hc1,slice oa ol oc,int i64 st]).heap[k]?=wr.heap[k]?:=fun t k q f ht hk=>awI _ _ _ _ (aa hk uj ht)
   have HFin:Hid (ShO (wr.drew.setRow (w.heap.size+1) #[slice va mn vc,slice (some ⟨gh,0,none⟩) hn hc1,slice oa ol oc,int i64 st]) (agg #[slice va mn vc,slice (some ⟨gh,0,none⟩) hn hc1,slice oa ol oc,int i64 st]) hn mn s/\(Us (wr.drew.setRow (w.heap.size+1) #[slice va mn vc,slice (some ⟨gh,0,none⟩) hn hc1,slice oa ol oc,int i64 st]) ua un us/\UsL (wr.drew.setRow (w.heap.size+1) #[slice va mn vc,slice (some ⟨gh,0,none⟩) hn hc1,slice oa ol oc,int i64 st]) Hc.mb ua un)/\un<=uc/\Gr w (wr.drew.setRow (w.heap.size+1) #[slice va mn vc,slice (some ⟨gh,0,none⟩) hn hc1,slice oa ol oc,int i64 st])):=by
    obtain⟨e1,e2,e3⟩:=HOS;have hM:=yY.bw.mem.to (w':=wr.drew.setRow (w.heap.size+1) #[slice va mn vc,slice (some ⟨gh,0,none⟩) hn hc1,slice oa ol oc,int i64 st]) fun k o f hk=>ne _ k o f an hk
    have hO:=aj (w':=wr.drew.setRow (w.heap.size+1) #[slice va mn vc,slice (some ⟨gh,0,none⟩) hn hc1,slice oa ol oc,int i64 st]) yY.bw.out fun k o f hk=>ne _ k o f an hk
    have hU:=aj (w':=wr.drew.setRow (w.heap.size+1) #[slice va mn vc,slice (some ⟨gh,0,none⟩) hn hc1,slice oa ol oc,int i64 st]) yY.row fun k o f hk=>ne _ k o f an hk
    have hX:=yY.ux.to (w':=wr.drew.setRow (w.heap.size+1) #[slice va mn vc,slice (some ⟨gh,0,none⟩) hn hc1,slice oa ol oc,int i64 st]) fun k o t f ht hk=>ne _ k o f (by rcases ht with rfl|rfl<;>decide) hk
    rw[Xw.out]at hM;refine⟨?_,?_,by rw[e3];exact HUC,ag (Gr.drew BU) (asA _) _⟩
    ·have:=Jn (base:=w.heap.size+2) (va:=va) (vc:=vc) (oa:=oa) (oc:=oc) (gh:=gh) (hc:=hc1) (c:=hn) (mn:=mn) (S:=s) (w:=wr.drew.setRow (w.heap.size+1) #[slice va mn vc,slice (some ⟨gh,0,none⟩) hn hc1,slice oa ol oc,int i64 st]) hM Xw (yY.bw.row.to fun k o f hk=>ne _ k o f an hk) ⟨yY.bw.hz.1.to fun k o f hk=>ne _ k o f an hk,arF yY.bw.hz.2 yY.bw.bh⟩ HHs hO;rw[e1,e2]at this ⊢;exact this
    ·rw[e3];exact⟨hX.us hU rfl HUO,hX.usl hU rfl (fun u hu=>(HUO u hu).1.was) (arF ajY (Nat.le_add_right _ _))⟩
   have HB9:Hid ((wr.drew.setRow (w.heap.size+1) #[slice va mn vc,slice (some ⟨gh,0,none⟩) hn hc1,slice oa ol oc,int i64 st]).heap[w.heap.size+1]?=some (cells #[slice va mn vc,slice (some ⟨gh,0,none⟩) hn hc1,slice oa ol oc,int i64 st] 47 (0,0))):=J6 uj;generalize wr.drew.setRow (w.heap.size+1) #[slice va mn vc,slice (some ⟨gh,0,none⟩) hn hc1,slice oa ol oc,int i64 st]=W9 at *
   go_wp2_with fail;refine awt (v:=tuple #[agg #[slice va mn vc,slice (some ⟨gh,0,none⟩) hn hc1,slice oa ol oc,int i64 st],slice ua un uc,int i64 0]) (um results10 _ _ _ _ _ (0,0) _ _ _ rfl rfl rfl HB9 underlying47 rfl iS) rfl ⟨_,_,_,_,rfl,by rw[HSS.out];exact HFin.1,by rw[HUU.out];exact HFin.2.1,HFin.2.2.1,HFin.2.2.2⟩
end Ud
end Go.Proofs.YtiadhbmnfjfioaaGreatDoor
