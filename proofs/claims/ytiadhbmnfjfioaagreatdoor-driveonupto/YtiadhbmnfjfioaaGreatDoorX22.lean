/- ours -/
import Derived.Test.YtiadhbmnfjfioaaGreatDoorX15
set_option linter.unusedVariables false
set_option linter.unusedSimpArgs false
set_option maxHeartbeats 8000000
set_option maxRecDepth 100000
set_option linter.unusedSectionVars false
namespace Go.Proofs.YtiadhbmnfjfioaaGreatDoor
open Go.Proofs.Tryz hiding t1 t2 t3
open Go.ChangeShapes Go.WideShapes Go.ChangeAt Go.RowKit
variable [Inhabited Hc.bN]
namespace Mc
open Mm Hh Hc

variable {ty :Nat} {rs :List Value}
theorem p8:∀(ss:List (Int×Int)) (i:Nat) (p:Int×Int),ss[i]?=some p→(rE ss)[i*2]?=some (.int .u32 p.1)∧(rE ss)[i*2+1]?=some (.int .u32 (Wd.lo (p.1+p.2)))
 | [],i,q,h=>by simp at h
 |p::r,0,q,h=>by simp at h;subst h;exact⟨rfl,rfl⟩
 |p::r,i+1,q,h=>by
  have ih:=p8 r i q (by simpa using h);have e:rE (p::r)=[.int .u32 p.1,.int .u32 (Wd.lo (p.1+p.2))]++rE r:=rfl;rw[e,apv (by simp;omega),apv (by simp;omega)];simp only[apH,ap8];rw[show(i+1)*2-(0+1+1)=i*2 by omega,show(i+1)*2+1-(0+1+1)=i*2+1 by omega];exact ih
theorem je {α:Type}{l:List α}{i:Nat}{x:α}(h:l[i]?=some x):l.take (i+1)=l.take i++[x]:=by rw[apU,h];rfl
theorem Ef (hs:List Hv){U:List (Nat×Int)}{m:Nat}{q:Nat×Int}(h:U[m]?=some q):drops hs (U.take (m+1))=(drops hs (U.take m)).set q.1 (((drops hs (U.take m)).getD q.1 hN).hold false 0):=by rw[je h,wR];rfl
theorem JF (k:Nat){ss:List (Int×Int)}{i:Nat}{p:Int×Int}(h:ss[i]?=some p)(hs:List Hv):dF k (ss.take (i+1)) hs=dF k [p] (dF k (ss.take i) hs):=by rw[je h,MS]
theorem T9 (w:World)(p:Addr)(v a b:Value)(t:Nat):((w.setCell p v).alloc (.cells #[a,b] t)).drew.cell? ⟨w.heap.size,0,none⟩=some a:=by
 have:=at5 (w.setCell p v) (.cells #[a,b] t);have e:(w.setCell p v).heap.size=w.heap.size:=by simp
 rw[e]at this;exact atZ _ _ _ _ _ (0,0) this
theorem BK (w:World)(p p':Addr)(v v' a b:Value)(t:Nat):(((w.setCell p v).setCell p' v').alloc (.cells #[a,b] t)).drew.drew.cell? ⟨w.heap.size,0,none⟩=some a:=by
 have:=at5 ((w.setCell p v).setCell p' v') (.cells #[a,b] t);have e:((w.setCell p v).setCell p' v').heap.size=w.heap.size:=by simp
 rw[e]at this;exact atZ _ _ _ _ _ (0,0) this
theorem BL {w:World}{base g gh hc:Nat}{M O:Value}{s:Sh}(B:Bw ty rs w base g M gh hc O s){c:Nat}(hcl:s.hs.length=c)(hc4:c≤4){d:Qv}{x:Wk}{b:Nat}(D:Dq w b d x)(ok:d.h.Ok)(bd:∀p∈x.av,0≤p.1∧0<p.2∧p.1+p.2≤4096)(hsl:x.av.length<=1000000)(hol:s.out.length+x.out.length<=1000000)(hst:s.steps+x.n<=1000000000){k:Nat}(hk:k<c):Calls prog 58 #[.pointer (some ⟨g,0,none⟩),.int .i64 k,.agg (qA d)] w fun e w'=>e=.returned (.tuple #[])/\Bd ty rs w' base g (tk s k x)/\Fe ty base w w':=by
 obtain⟨sa,sc,uO⟩:=(az D.av).2.2;obtain⟨oa,oc,rfl⟩:=(az B.out).2.2;obtain⟨da,dc,hdo⟩:=(az D.out).2.2;obtain⟨ZC,ZE,hdm,_⟩:=D.mem.mem;have HDO:=kH hdo;have ZF:=kH hdm;have hbw:=B.ay;have g40:(qA d)[40]?=some (.slice sa x.av.length sc):=by rw[jl ok 3];simp[uO]
 have g37:(qA d)[37]?=some (.slice ZC x.m.length ZE):=by rw[jl ok 0];simp[hdm]
 have g38:(qA d)[38]?=some (.slice da x.out.length dc):=by rw[jl ok 1];simp[hdo]
 have g39:(qA d)[39]?=some (.int .i64 x.n):=by rw[jl ok 2];simp[D.n]
 have HLD:=kH (aD ok);have HGR:Hid (∀j u,(hL d.h)[j]?=some u->(qA d)[j]?=some u):=fun j u hj=>by
  have:j<37:=by have:=(apj.1 hj).1;rwa[HLD.out]at this
  rw[Nv ok this];exact hj
 have zR:=kH ok;have HD:=kH D;have HB:=kH B;have hgl:=B.lt;have Jo:gh<w.heap.size:=by obtain⟨_,e⟩:=B.row.row;exact(apk.1 e).1
 have agX:g≠gh:=by obtain⟨_,e⟩:=B.row.row;exact aa B.blk e B.t3
 have HCL:=kH hcl;have HBD:=kH bd;have HST:=kH uO;clear D ok uO B hcl bd hdo hdm;generalize qA d=QA at *
 generalize hn:x.av.length=n at *
 have HN:=kH hn;clear hn;go_enter func58,ntmps58;go_wp2_with fail;go_loopw [13] (fun i wr=>∃i':Nat,i'<=n/\i=.int .i64 i'/\Bw ty rs wr base g M gh hc (.slice oa s.out.length oc) ⟨dF k (x.av.take i') s.hs,s.m,s.out,s.steps⟩/\Ch gh (w.alloc (.cells QA 142)) wr) (fun i _=>n-(intOf i).toNat)
 case atStart=>
  refine⟨0,apF _,rfl,?_,Ch.refl _ _⟩;rw[aqF,lQ];exact HB.out.of ((Gr.refl _).alloc _)
 case round=>
  obtain⟨i,hi,rfl,B1,C1⟩:=hrel;have HB1:=kH B1;have oQ:=kH C1;have HD1:=kH ((HD.out.gr ((Gr.refl _).alloc _)).ch (HB.out.row.of ((Gr.refl _).alloc _)) C1);clear B1 C1;by_cases hlt:i<n
  ·obtain⟨p,hp⟩:∃p,x.av[i]?=some p:=⟨_,api (by rw[HN.out];exact hlt)⟩;have HP:=kH hp;obtain⟨p0,p1,p2⟩:=HBD.out p (aps hp);obtain⟨sb,cp,hv,_⟩:=sK HD1.out.av (by rw[HN.out];omega);rw[HST.out,HN.out]at hv;obtain rfl:sa=some ⟨sb,0,none⟩:=by injection hv
   have OS:wr.ownsRow b 175 2 (.slice (some ⟨sb,0,none⟩) n sc) n (rE x.av):=by have:=HD1.out.av;rw[HST.out,HN.out]at this;exact this
   have s0:=(OS.cellAt _ (by omega)).trans (p8 _ _ _ hp).1;have s1:=(OS.cellAt _ (by omega)).trans (p8 _ _ _ hp).2;have CJ:Hid ((dF k (x.av.take i) s.hs).length=c):=by unfold Hid;rw[eD];exact HCL.out
   have QY:Hid (∀W:World,Gr wr W->Calls prog 84 #[.pointer (some ⟨g,0,none⟩),.int .i64 k,.agg #[.int .u32 p.1,.int .u32 (Wd.lo (p.1+p.2))]] W fun e w'=>∃v,e=.returned v/\w'.ownsRow W.heap.size 159 2 v (aR k p (dF k (x.av.take i) s.hs) c).length (Bh (aR k p (dF k (x.av.take i) s.hs) c))/\Gr W w'):=fun W G=>by
    have:=Bi (HB1.out.of G) (by show(dF _ _ _).length<=4;rw[CJ.out];exact hc4) k p p0 p1 p2;simp only[CJ.out]at this;exact this
   have HNX:Hid (dF k (x.av.take (i+1)) s.hs=drops (dF k (x.av.take i) s.hs) (aR k p (dF k (x.av.take i) s.hs) c)):=by
    unfold Hid;rw[JF k hp,<-I9,CJ.out]
   have hUl:=mX k p (dF k (x.av.take i) s.hs) c;have agY:Hid (∀q∈aR k p (dF k (x.av.take i) s.hs) c,q.1<c):=AU k p _ c;clear hv OS hp;generalize dF k (x.av.take i) s.hs=hs at *
   generalize aR k p hs c=U at *
   generalize Wd.lo (p.1+p.2)=pt at *
   generalize p.1=pf at *
   go_wp2_with fail;refine(QY.out _ ((Gr.refl _).alloc _)).mono ?_;rintro e w2 ⟨v,rfl,OL,G2⟩;obtain⟨la,lc,rfl⟩:=(az OL).2.2;have HG2:=kH (((Gr.refl _).alloc _).trans G2);have HOL:Hid (w2.ownsRow 0 159 2 (.slice la U.length lc) U.length (Bh U)):=⟨OL.1,OL.2.imp (fun h=>h) (fun⟨a,b,c,h1,h2,h3⟩=>⟨a,b,c,h1,apF _,h3⟩)⟩;have HB2:=kH (HB1.out.of HG2.out);have ll:=kH (oQ.out.gr HG2.out);clear OL G2 QY s0 s1 HB1 oQ HD1;go_wp2_with fail;go_loopw [22] (fun i wq=>∃m:Nat,m<=U.length/\i=.int .i64 m/\Bw ty rs wq base g M gh hc (.slice oa s.out.length oc) ⟨drops hs (U.take m),s.m,s.out,s.steps⟩/\Ch gh w2 wq) (fun i _=>U.length-(intOf i).toNat)
   case atStart=>
    refine⟨0,apF _,rfl,?_,Ch.refl _ _⟩;rw[aqF];exact HB2.out
   case round=>
    obtain⟨m,hm,rfl,B3,C3⟩:=hrel;have HB3:=kH B3;have zP:=kH C3;clear B3 C3;by_cases hlt2:m<U.length
    ·obtain⟨q,hq⟩:∃q,U[m]?=some q:=⟨_,api hlt2⟩;obtain⟨lb,cp2,hv,_⟩:=sK HOL.out (by omega);obtain rfl:la=some ⟨lb,0,none⟩:=by injection hv
     have OL3:=aj HOL.out fun k o f hk=>gZ HB2.out.row zP.out (by decide) hk
     have l0:=(OL3.cellAt _ (by omega)).trans (yG _ _ _ hq).1;have l1:=(OL3.cellAt _ (by omega)).trans (yG _ _ _ hq).2;have HDS:=kH (Ef hs hq);have hq1:=agY.out q (aps hq);have hdl:(drops hs (U.take m)).length=c:=by rw[qP];exact CJ.out
     have HDL:=kH hdl;have hgq:(drops hs (U.take m))[q.1]?=some ((drops hs (U.take m)).getD q.1 hN):=by rw[api (by omega)];simp[List.getD,show q.1<(drops hs (U.take m)).length by omega]
     have okq:=HB3.out.row.ok _ (aps hgq);have c33:=(HB3.out.row.cell hgq (by omega)).trans (aW okq 1);have c34:=(HB3.out.row.cell hgq (by omega)).trans (aW okq 2);have f33:wr.frozen? ⟨gh,q.1*37+33,none⟩=false:=HB3.out.row.fz _;have f34:wr.frozen? ⟨gh,q.1*37+34,none⟩=false:=HB3.out.row.fz _;have kg1:wr.cell? ⟨g,1,none⟩=some (.slice (some ⟨gh,0,none⟩) c hc):=by have:=HB3.out.c1;simp only[HDL.out]at this;exact this
     have hgw:=(apk.1 HB3.out.blk).1;have alE:gh<wr.heap.size:=by obtain⟨_,e⟩:=HB3.out.row.row;exact(apk.1 e).1
     have n1:gh≠g:=fun e=>agX e.symm
     have n2:gh≠wr.heap.size:=by omega
     have HGQ:=kH hgq;have Xf:Hid ((drops hs (U.take m)).getD q.1 hN).Ok:=okq;clear hq hv OL3 hdl hgq okq;obtain⟨q1,q2⟩:=q;simp only at *
     generalize(drops hs (U.take m)).getD q1 hN=hq at *
     generalize drops hs (U.take m)=hsm at *
     go_wp2_with fail;go_region_held3 (fun W=>W.cell? ⟨g,1,none⟩=some (.slice (some ⟨gh,0,none⟩) c hc)/\W.cell? ⟨wr.heap.size,0,none⟩=some (.int .i64 q1)) (refine⟨?_,?_⟩<;>first|(go_keep;done)|exact T9 _ _ _ _ _ _|exact BK _ _ _ _ _ _ _ _) (fail);go_wp2_with fail;go_region_held3 (fun W=>W.cell? ⟨g,1,none⟩=some (.slice (some ⟨gh,0,none⟩) c hc)/\W.cell? ⟨wr.heap.size,0,none⟩=some (.int .i64 q1)) (refine⟨?_,?_⟩<;>first|(go_keep;done)|exact BK _ _ _ _ _ _ _ _) (fail);go_wp2_with fail;go_roundw
     case rel=>
      have ok1:Hv.Ok { hq with held:=false }:=⟨Xf.out.len,Xf.out.reg,Xf.out.nH,Xf.out.jV,Xf.out.x9,Xf.out.zO⟩;have R1:=HB3.out.row.set HGQ.out (by omega) (jW Xf.out false) ok1;have hg1:(hsm.set q1 { hq with held:=false })[q1]?=some { hq with held:=false }:=by rw[aqu (by rw[HDL.out];exact hq1)]
      have R2:=R1.set hg1 (by omega) (gI ok1 0) (h':=hq.hold false 0) (Xf.out.hold false (x:=0) (by omega) (by omega));rw[List.set_set]at R2;have CH:∀o:Obj,Ch gh wr (((wr.setCell ⟨gh,q1*37+33,none⟩ (.bool false)).setCell ⟨gh,q1*37+34,none⟩ (.int .u32 0)).alloc o).drew.drew:=fun o=>Ch.gr (((Ch.refl gh wr).setCell _ _).setCell _ _) (Gr.drew (Gr.drew (Gr.alloc (Gr.refl _) _)))
      refine⟨m+1,by omega,by go_num,?_,zP.out.trans (CH _)⟩;rw[HDS.out];exact HB3.out.ch (CH _) (R2.of (Gr.drew (Gr.drew (Gr.alloc (Gr.refl _) _)))) (by show(hsm.set q1 _).length=hsm.length;rw[ap6]) (((HB3.out.hz.1.setCell _ _).setCell _ _).of (Gr.drew (Gr.drew (Gr.alloc (Gr.refl _) _))))
     case measure=>simp[intOf];omega
    ·have HBN:Hid (Bw ty rs wr base g M gh hc (.slice oa s.out.length oc) ⟨dF k (x.av.take (i+1)) s.hs,s.m,s.out,s.steps⟩):=by
      have:=HB3.out;rw[show m=U.length by omega,ap9]at this;unfold Hid;rw[HNX.out];exact this
     have HCN:=kH (ll.out.trans zP.out);clear HB3 zP HNX HOL HB2 ll;go_wp2_with fail;go_roundw
     case rel=>exact⟨i+1,by omega,by go_num,HBN.out,HCN.out⟩
     case measure=>simp[intOf];omega
-- TAIL
  ·have sj:Hid (Bw ty rs wr base g M gh hc (.slice oa s.out.length oc) ⟨dF k x.av s.hs,s.m,s.out,s.steps⟩):=by
    have:=HB1.out;rw[show i=x.av.length by rw[HN.out];omega,ap9]at this;exact this
   have HBX:=kH ((gZ (HB.out.row.of ((Gr.refl _).alloc _)) oQ.out (by decide) (at5 w _)).trans (at5 w _));have Ua:Hid ((dF k x.av s.hs).length=c):=by unfold Hid;rw[eD];exact HCL.out
   have kg1:wr.cell? ⟨g,1,none⟩=some (.slice (some ⟨gh,0,none⟩) c hc):=by have:=sj.out.c1;simp only[Ua.out]at this;exact this
   have HRG:Hid (wr.rangeAt w.heap.size 0 (hL d.h)):=fun j u hj=>by rw[apu,atZ _ _ _ _ _ _ HBX.out];exact HGR.out j u hj
   have HTH:=kH (sj.out.row.there (i:=k) (api (by rw[Ua.out];exact hk)));have HCA:Hid (Fe ty base w wr):=Fe.trans (Fe.bD ((Gr.refl w).alloc _) hbw) (Fe.ch (HB.out.row.of ((Gr.refl _).alloc _)) oQ.out HB.out.bh (by simp;omega));clear HB1 oQ HBD;generalize ZG:dF k x.av s.hs=hs4 at *
   have HH4:=kH ZG;clear ZG;go_wp2_with fail;refine aut (S:=fun W=>W.cell? ⟨g,1,none⟩=some (.slice (some ⟨gh,0,none⟩) c hc)/\W.rangeAt w.heap.size 0 (hL d.h)) (by kernel_rfl) ?_ (fun hHeld=>?_)
   ·exact⟨kg1,HRG.out⟩
   have aY:=kH hHeld;clear hHeld;refine tK 0 (.pointer (some ⟨g,0,none⟩)) aY.out ?_;refine tK 1 (.pointer (some ⟨g,0,none⟩)) aY.out ?_;refine tK 2 (.pointer (some ⟨g,0,none⟩)) aY.out ?_;refine tK 3 (.pointer (some ⟨g,0,none⟩)) aY.out ?_;refine tK 4 (.pointer (some ⟨g,1,none⟩)) aY.out ?_;refine tK 5 (.slice (some ⟨gh,0,none⟩) c hc) aY.out ?_;refine tK 6 (.int .i64 k) aY.out ?_;refine tK 7 (.pointer (some ⟨w.heap.size,0,none⟩)) aY.out ?_;refine auF (i:=8) (v:=.agg (hL d.h).toArray) rfl (by kernel_rfl) (by kernel_rfl) (by kernel_rfl) (fun _ _ _ h=>h) ?hy aY.out ?_
   case hy=>exact auN (by rfl) 43 (.tmp 55) rfl w.heap.size 0 (by simp[Act.eval]) (hL d.h) _ (fun W hW=>hW.2) underlying43 rfl (by rw[HLD.out];exact iH)
   simp only[Act.put,apl,apC,apy];refine tK 9 (.pointer (some ⟨gh,k*37,none⟩)) aY.out ?_;have C5:Ch gh wr (wr.drew.setCells gh (k*37) (hL d.h)):=Ch.setCells (Ch.bD (Gr.drew (Gr.refl _))) _ _;have B5:=sj.out.ch C5 ((sj.out.row.of (Gr.drew (Gr.refl _))).put (by rw[Ua.out];exact hk) zR.out) (by show(hs4.set k _).length=hs4.length;rw[ap6]) ((sj.out.hz.1.of (Gr.drew (Gr.refl _))).setCells _ _);have X5:=(gZ sj.out.row C5 (by decide) HBX.out).trans HBX.out;have D5:=HD1.out.ch sj.out.row C5;have L5:=Fe.trans HCA.out (Fe.ch sj.out.row C5 HB.out.bh sj.out.ay);refine l6 (i:=10) (by kernel_rfl) rfl rfl 43 (.tmp 57) (.tmp 56) rfl gh (k*37) (hL d.h).toArray (by simp[Act.eval]) (by simp[Act.eval]) (by rw[ap2,HLD.out];exact HTH.out) (by rw[ap2,HLD.out];exact iH) (qC d.h) ?_ ?_
   ·exact⟨by have:=B5.c1;simp only[ap6,Ua.out]at this;exact this,fun j u hj=>by rw[apu,atZ _ _ _ _ _ _ X5];exact HGR.out j u hj⟩
   clear aY;refine auy (by kernel_rfl) ?_ _;have e0:(hL d.h).toArray.toList=hL d.h:=rfl;rw[e0];clear HTH HRG kg1 C5 sj HBX HD1 HCA;generalize wr.drew.setCells gh (k*37) (hL d.h)=w5 at *
   have KW:=kH B5;have HX5:=kH X5;have HD5:=kH D5;have Xg:=kH L5;have k0:=B5.c0;have f0:=B5.fz 0;have m37:=(atZ _ _ _ _ _ _ X5).trans g37;clear B5 X5 D5 L5;go_wp2_with fail;have B6:=KW.out.agD (by have:=HD5.out.mem;rw[ZF.out]at this;exact this);have X6:(w5.setCell ⟨g,0,none⟩ (.slice ZC x.m.length ZE)).heap[w.heap.size]?=some (.cells QA 142 (0,0)):=(auv _ _ _ _ (by show w.heap.size≠g;omega)).trans HX5.out;have D6:(w5.setCell ⟨g,0,none⟩ (.slice ZC x.m.length ZE)).ownsRow b 37 1 d.out x.out.length (x.out.map (Value.int .u32)):=aj HD5.out.out fun _ _ _ hk=>dG KW.out _ _ HB.out.t2.symm hk
   have L6:Fe ty base w (w5.setCell ⟨g,0,none⟩ (.slice ZC x.m.length ZE)):=Fe.setCell Xg.out KW.out.blk HB.out.bg _ _;clear KW HX5 HD5 Xg k0 f0 m37;generalize w5.setCell ⟨g,0,none⟩ (.slice ZC x.m.length ZE)=w6 at *
   have Xh:Hid (Bw ty rs w6 base g (.slice ZC x.m.length ZE) gh hc (.slice oa s.out.length oc) ⟨hs4.set k d.h,x.m,s.out,s.steps⟩):=B6;have HX6:Hid (w6.heap[w.heap.size]?=some (.cells QA 142 (0,0))):=X6;have HD6:Hid (w6.ownsRow b 37 1 (.slice da x.out.length dc) x.out.length (x.out.map (Value.int .u32))):=by rw[HDO.out]at D6;exact D6
   have HL6:Hid (Fe ty base w w6):=L6;have k2:w6.cell? ⟨g,2,none⟩=some (.slice oa s.out.length oc):=B6.c2;have m38:w6.cell? ⟨w.heap.size,38,none⟩=some (.slice da x.out.length dc):=(atZ _ _ _ _ _ _ X6).trans g38;have hb6:base<=w6.heap.size:=B6.ay;have HO6:Hid (w6.ownsRow base 37 1 (.slice oa s.out.length oc) s.out.length (s.out.map (Value.int .u32))):=B6.out;clear B6 X6 D6 L6;obtain⟨i0,hi0,hz0,hz1,hz2⟩:=auz ado;go_region_law (refine rZ rfl (.tmp 70) (.tmp 72) rfl underlying36 hi0 hz0 hz1 hz2 rfl (by decide) (by simp[Act.eval,Act.put]) (by simp[Act.eval,Act.put]) (aC HO6.out (by repeat (first|exact Gr.refl _|refine Gr.drew ?_))) (Src.own (aC HD6.out (by repeat (first|exact Gr.refl _|refine Gr.drew ?_)))) (Jr _) (by unfold maxLen;omega) (by omega) (by exact hb6) ?_;intro v' w7 hown hgrow;obtain⟨va,vc,rfl⟩:=(az hown).2.2;have X7:=(eF (aC HO6.out (Gr.drew (Gr.refl _))) hgrow (by decide) (Hr.ae (Gr.drew (Gr.refl _)) HX6.out));rw[Hr.ae (Gr.drew (Gr.refl _)) HX6.out]at X7;have Xe:Hid (w7.heap[w.heap.size]?=some (.cells QA 142 (0,0))):=X7;rw[<-aqb,<-apo]at hown;obtain⟨c2,z2,B7,L7⟩:=(Xh.out.of (Gr.drew (Gr.refl _))).grown hgrow hown;have sN:Hid _:=B7;have Gi:Hid (Fe ty base w _):=Fe.trans HL6.out (Fe.trans (Fe.drew (Fe.refl base w6)) L7);clear X7 B7 L7 hown hgrow)
   all_goals
    have B8:=sN.out;have L8:=Gi.out;have X8:(w7.setCell ⟨g,2,none⟩ (.slice va (s.out.length+x.out.length) vc)).heap[w.heap.size]?=some (.cells QA 142 (0,0)):=(auv _ _ _ _ (by show w.heap.size≠g;omega)).trans Xe.out;clear sN Gi Xe Xh HX6 HD6 HL6 HO6 k2 m38 c2 z2;rw[apo]at B8 L8;generalize w7.setCell ⟨g,2,none⟩ (.slice va (s.out.length+x.out.length) vc)=w8 at *
    have HB8:Hid (Bw ty rs w8 base g (.slice ZC x.m.length ZE) gh hc (.slice va (s.out.length+x.out.length) vc) ⟨hs4.set k d.h,x.m,s.out++x.out,s.steps⟩):=B8;have HL8:Hid (Fe ty base w w8):=L8;have k3:w8.cell? ⟨g,3,none⟩=some (.int .i64 s.steps):=B8.c3;have f3:w8.frozen? ⟨g,3,none⟩=false:=B8.fz 3;have m39:w8.cell? ⟨w.heap.size,39,none⟩=some (.int .i64 x.n):=(atZ _ _ _ _ _ _ X8).trans g39;clear B8 L8 X8;go_wp2_with fail;go_region
   all_goals
    go_end0;refine⟨rfl,?_,?_⟩
    ·have B9:=HB8.out.agE (s.steps+x.n);have e9:tk s k x=⟨hs4.set k d.h,x.m,s.out++x.out,s.steps+x.n⟩:=by unfold tk;rw[HH4.out,HD.out.hh]
     rw[e9];rw[Int.natCast_add]at B9;exact⟨_,_,_,_,B9.of (Gr.drew (Gr.refl _))⟩
    ·exact Fe.drew (Fe.setCell HL8.out HB8.out.blk HB.out.bg _ _)
end Mc
namespace Gc
open Mm Hh Hc

variable {ty :Nat} {rs :List Value}
def cB (c:Cv) (rs:List Value):Array Value:=(hL c.h++([c.m,c.out,c.av]++rs)).toArray
theorem ZH {c:Cv}(o:c.h.Ok){i:Nat}(hi:i<37):(cB c rs)[i]?=(hL c.h)[i]?:=by have:=aD o;unfold cB;rw[apm,apA (by omega)]
theorem Eh {c:Cv}(o:c.h.Ok){j:Nat}(hj:j<3):(cB c rs)[37+j]?=[c.m,c.out,c.av][j]?:=by unfold cB;rw[apm,apv (by simp[aD o]),aD o,show 37+j-37=j by omega,apA (by simpa using hj)]
theorem yX {c:Cv}(o:c.h.Ok)(j:Nat):(cB c rs)[40+j]?=rs[j]?:=by unfold cB;rw[apm,apv (by simp[aD o];omega),aD o,apv (by simp;omega)];simp only[apH,ap8];rw[show 40+j-37-(0+1+1+1)=j by omega]
theorem ZI {c:Cv}(o:c.h.Ok){i:Nat}(hi:i<37){v:Value}{h':Hv}(e:(hL c.h).set i v=hL h'):(cB c rs).setIfInBounds i v=cB { c with h:=h' } rs:=by have:=aD o;unfold cB;simp only[apl];rw[aqn _ _ (by omega),e]
theorem yY {c c':Cv}(o:c.h.Ok){j:Nat}(hj:j<3){v:Value}(eh:c'.h=c.h)(e:[c.m,c.out,c.av].set j v=[c'.m,c'.out,c'.av]):(cB c rs).setIfInBounds (37+j) v=cB c' rs:=by have:=aD o;unfold cB;simp only[apl];rw[apJ _ _ (by omega),this,show 37+j-37=j by omega,aqn _ _ (by simpa using hj),e,eh]
theorem Ub {c:Cv}(o:c.h.Ok)(j:Nat)(v:Value):(cB c rs).setIfInBounds (40+j) v=cB c (rs.set j v):=by have:=aD o;unfold cB;simp only[apl];rw[apJ _ _ (by omega),this,apJ _ _ (by simp;omega)];simp only[apH,ap8];rw[show 40+j-37-(0+1+1+1)=j by omega]
structure Inv (ty:Nat) (rs:List Value) (w:World) (base g:Nat) (c:Cv) (l:List UInt8) (os:List Int) (ss:List (Int×Int)):Prop where
 t1:ty≠5
 t2:ty≠37
 t3:ty≠175
 ok:c.h.Ok
 bg:base<=g
 core:w.heap[g]?=some (.cells (cB c rs) ty (0,0))
 mem:Own w Hc.mb c.m l
 RJ:Hc.mb<=base
 out:w.ownsRow base 37 1 c.out os.length (os.map (Value.int .u32))
 av:w.ownsRow base 175 2 c.av ss.length (rE ss)
def In (ty:Nat) (rs:List Value) (w:World) (base g:Nat) (h:Hv) (l:List UInt8) (os:List Int) (ss:List (Int×Int)):Prop:=∃c:Cv,c.h=h/\Inv ty rs w base g c l os ss
theorem Inv.toM {w w':World}{base g:Nat}{c c':Cv}{l l':List UInt8}{os:List Int}{ss:List (Int×Int)}{rs':List Value}(I:Inv ty rs w base g c l os ss)(q:Ch g w w')(hc:w'.heap[g]?=some (.cells (cB c' rs') ty (0,0)))(ok:c'.h.Ok)(em:Own w' Hc.mb c'.m l')(eo:c'.out=c.out)(es:c'.av=c.av):Inv ty rs' w' base g c' l' os ss:=by
 have st:∀t:Nat,t≠ty->∀(k:Nat) (o:Array Value) (f:Nat×Nat),w.heap[k]?=some (.cells o t f)->w'.heap[k]?=w.heap[k]?:=fun t ht k o f hk=>
  q.block k (gs hk).1 (fun e=>aa hk I.core ht (by injection e))
 refine⟨I.t1,I.t2,I.t3,ok,I.bg,hc,em,I.RJ,?_,?_⟩
 ·rw[eo];exact aj I.out (st _ I.t2.symm)
 ·rw[es];exact aj I.av (st _ I.t3.symm)
theorem Inv.to {w w':World}{base g:Nat}{c c':Cv}{l:List UInt8}{os:List Int}{ss:List (Int×Int)}{rs':List Value}(I:Inv ty rs w base g c l os ss)(q:Ch g w w')(hc:w'.heap[g]?=some (.cells (cB c' rs') ty (0,0)))(ok:c'.h.Ok)(em:c'.m=c.m)(eo:c'.out=c.out)(es:c'.av=c.av):Inv ty rs' w' base g c' l os ss:=by
 have st:∀t:Nat,t≠ty->∀(k:Nat) (o:Array Value) (f:Nat×Nat),w.heap[k]?=some (.cells o t f)->w'.heap[k]?=w.heap[k]?:=fun t ht k o f hk=>
  q.block k (gs hk).1 (fun e=>aa hk I.core ht (by injection e))
 exact I.toM q hc ok (by rw[em];exact I.mem.to (st _ I.t1.symm)) eo es
theorem Inv.of {w w':World}{base g:Nat}{c:Cv}{l:List UInt8}{os:List Int}{ss:List (Int×Int)}(I:Inv ty rs w base g c l os ss)(q:Gr w w'):Inv ty rs w' base g c l os ss:=I.to ((Ch.refl g w).gr q) ((q.block g (gs I.core).1).trans I.core) I.ok rfl rfl rfl
theorem In.of {w w':World}{base g:Nat}{h:Hv}{l:List UInt8}{os:List Int}{ss:List (Int×Int)}(I:In ty rs w base g h l os ss)(q:Gr w w'):In ty rs w' base g h l os ss:=by obtain⟨c,e,I⟩:=I;exact⟨c,e,I.of q⟩
theorem Inv.lt {w:World}{base g:Nat}{c:Cv}{l:List UInt8}{os:List Int}{ss:List (Int×Int)}(I:Inv ty rs w base g c l os ss):g<w.heap.size:=(gs I.core).1
theorem Inv.hcell {w:World}{base g:Nat}{c:Cv}{l:List UInt8}{os:List Int}{ss:List (Int×Int)}(I:Inv ty rs w base g c l os ss){i:Nat}(hi:i<37):w.cell? ⟨g,i,none⟩=(hL c.h)[i]?:=(cr I.core).trans (ZH I.ok hi)
theorem Inv.dJ {w:World}{base g:Nat}{c:Cv}{l:List UInt8}{os:List Int}{ss:List (Int×Int)}(I:Inv ty rs w base g c l os ss)(j:Nat)(hj:j<3:=by omega):w.cell? ⟨g,37+j,none⟩=[c.m,c.out,c.av][j]?:=
 (cr I.core).trans (Eh I.ok hj)
theorem Inv.rest {w:World}{base g:Nat}{c:Cv}{l:List UInt8}{os:List Int}{ss:List (Int×Int)}(I:Inv ty rs w base g c l os ss)(j:Nat):w.cell? ⟨g,40+j,none⟩=rs[j]?:=(cr I.core).trans (yX I.ok j)
theorem Inv.reg {w:World}{base g:Nat}{c:Cv}{l:List UInt8}{os:List Int}{ss:List (Int×Int)}(I:Inv ty rs w base g c l os ss){i:Nat}(hi:i<32):w.cell? ⟨g,i,none⟩=some (.int .u32 (rg c.h i)):=(I.hcell (by omega)).trans (lC I.ok hi)
theorem Inv.fz {w:World}{base g:Nat}{c:Cv}{l:List UInt8}{os:List Int}{ss:List (Int×Int)}(I:Inv ty rs w base g c l os ss)(j:Nat):w.frozen? ⟨g,j,none⟩=false:=aus _ _ j _ _ I.core
theorem Inv.set {w:World}{base g:Nat}{c:Cv}{l:List UInt8}{os:List Int}{ss:List (Int×Int)}(I:Inv ty rs w base g c l os ss){i:Nat}(hi:i<37){v:Value}{h':Hv}(e:(hL c.h).set i v=hL h')(ok:h'.Ok):Inv ty rs (w.setCell ⟨g,i,none⟩ v) base g { c with h:=h' } l os ss:=I.to ((Ch.refl g w).setCell i v) (by rw[hss I.core,ZI I.ok hi e]) ok rfl rfl rfl
theorem Inv.vM {w:World}{base g:Nat}{c:Cv}{l:List UInt8}{os:List Int}{ss:List (Int×Int)}(I:Inv ty rs w base g c l os ss)(j:Nat)(v:Value):Inv ty (rs.set j v) (w.setCell ⟨g,40+j,none⟩ v) base g c l os ss:=I.to ((Ch.refl g w).setCell (40+j) v) (by rw[hss I.core,Ub I.ok]) I.ok rfl rfl rfl
theorem Inv.rF {w:World}{base g:Nat}{c:Cv}{l:List UInt8}{os:List Int}{ss:List (Int×Int)}(I:Inv ty rs w base g c l os ss):In ty rs w base g c.h l os ss:=⟨c,rfl,I⟩
theorem Inv.ay {w:World}{base g:Nat}{c:Cv}{l:List UInt8}{os:List Int}{ss:List (Int×Int)}(I:Inv ty rs w base g c l os ss):base<=w.heap.size:=apr I.bg (aqP I.lt)
structure Fr (ty:Nat) (base:Nat) (w w':World):Prop where
 below:Below base w w'
 keep:∀(k:Nat) (o:Array Value) (t:Nat) (f:Nat×Nat),w.heap[k]?=some (.cells o t f)->t≠ty->t≠37->t≠175->w'.heap[k]?=w.heap[k]?
theorem Fr.trans {base:Nat}{a b c:World}(h:Fr ty base a b)(q:Fr ty base b c):Fr ty base a c:=
 ⟨h.below.trans q.below,fun k o t f e n1 n2 n3=>by
  have e1:=h.keep k o t f e n1 n2 n3;exact(q.keep k o t f (e1.trans e) n1 n2 n3).trans e1⟩
theorem Fr.bD {base:Nat}{w w':World}(h:Gr w w')(hb:base<=w.heap.size):Fr ty base w w':=⟨aun h hb,fun k o t f e _ _ _=>h.block k (gs e).1⟩
theorem In.below {w w':World}{base g:Nat}{h:Hv}{l:List UInt8}{os:List Int}{ss:List (Int×Int)}(I:In ty rs w base g h l os ss)(q:Ch g w w'):Fr ty base w w':=by obtain⟨c,_,I⟩:=I;exact⟨q.below I.bg I.ay,fun k o t f e n1 _ _=>q.block k (gs e).1 (fun q=>aa e I.core n1 (by injection q))⟩
structure Ts (w:World) (base:Nat):Prop where
 sizes:∀i n,([0,0,0,0,0,0,0,0,0,0,0,0,0,0,0,0,1,2,4]:List Int)[i]?=some n->w.cell? ⟨13,i,none⟩=some (.int .u32 n)
 b1:13<base
theorem nO {w w':World}{base:Nat}(T:Ts w base)(h:Below base w w'):Ts w' base:=⟨fun i n e=>(auJ h (by exact T.b1)).trans (T.sizes i n e),T.b1⟩
theorem Inv.gJ {w W w':World}{base g n:Nat}{c:Cv}{l:List UInt8}{os:List Int}{ss ss':List (Int×Int)}{v:Value}(I:Inv ty rs w base g c l os ss)(G:Gr w W)(q:W.grownBy w' c.av.ownBlock)(hn:ss'.length=n)(ho:w'.ownsRow base 175 2 v n (rE ss')):w'.cell? ⟨g,39,none⟩=some c.av/\w'.frozen? ⟨g,39,none⟩=false/\Inv ty rs (w'.setCell ⟨g,39,none⟩ v) base g { c with av:=v } l os ss'/\Fr ty base w (w'.setCell ⟨g,39,none⟩ v):=by
 subst hn;have I1:=I.of G;have st:∀t:Nat,t≠175->∀(k:Nat) (o:Array Value) (f:Nat×Nat),W.heap[k]?=some (.cells o t f)->w'.heap[k]?=W.heap[k]?:=fun t ht k o f hk=>
  q.block k (gs hk).1 (fun e=>by
   rcases I1.av.2 with⟨h0,_⟩|⟨g',cap,cur,hv,_,hg,_⟩
   ·rw[h0]at e;cases e
   ·rw[hv]at e;injection e with e;exact aa hk hg ht e)
 have hb:∀k,c.av.ownBlock=some k->base<=k:=fun k e=>(I1.av.lt k e).1
 have hcore:=(st _ I.t3 g _ _ I1.core).trans I1.core;have ne:∀t:Nat,t≠ty->∀(k:Nat) (o:Array Value) (f:Nat×Nat),w'.heap[k]?=some (.cells o t f)->(w'.setCell ⟨g,39,none⟩ v).heap[k]?=w'.heap[k]?:=fun t ht k o f hk=>
  hso (by exact aa hk hcore ht)
 refine⟨(cr hcore).trans (Eh (j:=2) I.ok (by omega)),lh hcore,⟨I.t1,I.t2,I.t3,I.ok,I.bg,?_,?_,I.RJ,?_,?_⟩,?_⟩
 ·rw[hss hcore,yY (c':={ c with av:=v }) (j:=2) I.ok (by omega) rfl rfl]
 ·exact(I1.mem.to (st _ (by decide))).to (ne _ I.t1.symm)
 ·exact aj (aj I1.out (st _ (by decide))) (ne _ I.t2.symm)
 ·exact aj ho (ne _ I.t3.symm)
 ·refine⟨auS ((aun G I.ay).grown q I1.ay hb) (by exact I.bg) _,fun k o t f e n1 n2 n3=>?_⟩;have e1:=(gs e).1;have e2:=(G.block k e1).trans e;have e3:=(st _ n3 k _ _ e2).trans e2;exact((ne _ n1 k _ _ e3).trans e3).trans e.symm
theorem Inv.qF {w W w':World}{base g n:Nat}{c:Cv}{l:List UInt8}{os os':List Int}{ss:List (Int×Int)}{v:Value}(I:Inv ty rs w base g c l os ss)(G:Gr w W)(q:W.grownBy w' c.out.ownBlock)(hn:os'.length=n)(ho:w'.ownsRow base 37 1 v n (os'.map (Value.int .u32))):w'.cell? ⟨g,38,none⟩=some c.out/\w'.frozen? ⟨g,38,none⟩=false/\Inv ty rs (w'.setCell ⟨g,38,none⟩ v) base g { c with out:=v } l os' ss/\Fr ty base w (w'.setCell ⟨g,38,none⟩ v):=by
 subst hn;have I1:=I.of G;have st:∀t:Nat,t≠37->∀(k:Nat) (o:Array Value) (f:Nat×Nat),W.heap[k]?=some (.cells o t f)->w'.heap[k]?=W.heap[k]?:=fun t ht k o f hk=>
  q.block k (gs hk).1 (fun e=>by
   rcases I1.out.2 with⟨h0,_⟩|⟨g',cap,cur,hv,_,hg,_⟩
   ·rw[h0]at e;cases e
   ·rw[hv]at e;injection e with e;exact aa hk hg ht e)
 have hb:∀k,c.out.ownBlock=some k->base<=k:=fun k e=>(I1.out.lt k e).1
 have hcore:=(st _ I.t2 g _ _ I1.core).trans I1.core;have ne:∀t:Nat,t≠ty->∀(k:Nat) (o:Array Value) (f:Nat×Nat),w'.heap[k]?=some (.cells o t f)->(w'.setCell ⟨g,38,none⟩ v).heap[k]?=w'.heap[k]?:=fun t ht k o f hk=>
  hso (by exact aa hk hcore ht)
 refine⟨(cr hcore).trans (Eh (j:=1) I.ok (by omega)),lh hcore,⟨I.t1,I.t2,I.t3,I.ok,I.bg,?_,?_,I.RJ,?_,?_⟩,?_⟩
 ·rw[hss hcore,yY (c':={ c with out:=v }) (j:=1) I.ok (by omega) rfl rfl]
 ·exact(I1.mem.to (st _ (by decide))).to (ne _ I.t1.symm)
 ·exact aj ho (ne _ I.t2.symm)
 ·exact aj (aj I1.av (st _ (by decide))) (ne _ I.t3.symm)
 ·refine⟨auS ((aun G I.ay).grown q I1.ay hb) (by exact I.bg) _,fun k o t f e n1 n2 n3=>?_⟩;have e1:=(gs e).1;have e2:=(G.block k e1).trans e;have e3:=(st _ n2 k _ _ e2).trans e2;exact((ne _ n1 k _ _ e3).trans e3).trans e.symm
theorem Inv.stored {w w1:World}{base g n:Nat}{c:Cv}{l k:List UInt8}{os:List Int}{ss:List (Int×Int)}(I:Inv ty rs w base g c l os ss)(G:Gr w w1)(R:qB w1 w.heap.size n k)(hk:k.length=n):Inv ty rs (w1.setCell ⟨g,37,none⟩ (.slice (some ⟨w.heap.size,0,none⟩) n n)) base g { c with m:=.slice (some ⟨w.heap.size,0,none⟩) n n } k os ss:=by have I1:=I.of G;obtain⟨rest,hr,hz⟩:=R;refine I1.toM ((Ch.refl g w1).setCell _ _) (by rw[hss I1.core,yY (c':={ c with m:=.slice (some ⟨w.heap.size,0,none⟩) n n }) (j:=0) I.ok (by omega) rfl rfl]) I.ok (.inr ⟨w.heap.size,n,by rw[hk],⟨apr I.RJ I.ay,by rw[hk];exact apn _⟩,rest,?_,hz⟩) rfl rfl;rw[hso (by exact aa hr I1.core I.t1.symm)];exact hr
end Gc
end Go.Proofs.YtiadhbmnfjfioaaGreatDoor
