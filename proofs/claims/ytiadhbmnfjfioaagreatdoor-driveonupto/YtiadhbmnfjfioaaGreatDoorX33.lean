/- ours -/
import Derived.Test.YtiadhbmnfjfioaaGreatDoorX32
set_option linter.unusedVariables false
set_option linter.unusedSimpArgs false
set_option maxHeartbeats 8000000
set_option maxRecDepth 100000
set_option linter.unusedSectionVars false
namespace Go.Proofs.YtiadhbmnfjfioaaGreatDoor
open Go.Proofs.Tryz
open Go.ChangeShapes Go.WideShapes Go.ChangeAt Go.RowKit
variable [Inhabited Hc.bN]
namespace Ud
open Mm Hh Hc Mc

theorem aaE {s:Sh}{k:Nat}(h:(at' s k).state=0):wk (w0 s k) 1=FU (w0 s k):=uk (x:=w0 s k) h 0
theorem aaF {s:Sh}{k:Nat}(hk:k<s.hs.length)(h:(at' s k).state=0):tk s k (wk (w0 s k) 1)=bW s k:=by rw[<-pO hk 1];unfold runs;rw[at7 h];rfl
theorem aaG {s:Sh}{k:Nat}(h:(at' s k).state=0):(wk (w0 s k) 1).av=(dV (at' s k) s.m).av:=by rw[aaE h];rfl
def Done (w:World) (ub:Nat) (u:Uv):Prop:=∃x:List Value,x.length=41/\w.heap[ub]?=some (.cells x.toArray 121 (0,0))/\Uo w u x
def Nu (w w':World):Prop:=w.heap.size<=w'.heap.size/\∀(k:Nat) (o:Array Value) (t:Nat) (f:Nat×Nat),t≠121->w.heap[k]?=some (.cells o t f)->w'.heap[k]?=w.heap[k]?
theorem Nu.refl (w:World):Nu w w:=⟨apn _,fun _ _ _ _ _ _=>rfl⟩
theorem Nu.trans {a b c:World}(h:Nu a b)(k:Nu b c):Nu a c:=⟨apr h.1 k.1,fun i o t f ht e=>(k.2 i o t f ht ((h.2 i o t f ht e).trans e)).trans (h.2 i o t f ht e)⟩
theorem Nu.gr {a b:World}(G:Gr a b):Nu a b:=⟨G.size,fun k o t f _ e=>G.block _ (gs e).1⟩
theorem Nu.row {a b:World}(h:Nu a b){k:Nat}{o:Array Value}{t:Nat}{f:Nat×Nat}(e:a.heap[k]?=some (.cells o t f))(ht:t≠121):b.heap[k]?=some (.cells o t f):=(h.2 k o t f ht e).trans e
theorem Nu.set {a b:World}{ub:Nat}{Y:Array Value}{f:Nat×Nat}(h:Nu a b)(hy:b.heap[ub]?=some (.cells Y 121 f))(i:Nat)(v:Value):Nu a (b.setCell ⟨ub,i,none⟩ v):=⟨by simpa using h.1,fun k o t f' ht e=>by
 have e1:=h.2 k o t f' ht e;rw[hso (by exact aa (e1.trans e) hy ht)];exact e1⟩
theorem Dq.nu {a b:World}{n:Nat}{d:Qv}{x:Wk}(D:Dq a n d x)(h:Nu a b):Dq b n d x:=⟨D.hh,D.n,D.mem.to fun k o f e=>h.2 k o _ f (by decide) e,aj D.out fun k o f e=>h.2 k o _ f (by decide) e,aj D.av fun k o f e=>h.2 k o _ f (by decide) e⟩
theorem UW {w:World}{b o n f c:Nat}{l:List UInt8}(M:Mem w (some ⟨b,o,none⟩) n l)(h:f+c<=n):Mem w (some ⟨b,o+f,none⟩) c ((l.drop f).take c):=by
 have hl:=M.len;refine Mem.at (by simp;omega) fun t ht=>?_
 have:=M.cell _ rfl (f+t) (by omega);rw[cz]at this;rw[aqU,this];unfold bv;simp only[List.getD,apS,ap3,ht,if_true]
theorem uD {w:World}{b b' e sz n:Nat}{v:Value}{xs:List Value}(h:w.ownsRow b e sz v n xs)(hb:b'<=b):w.ownsRow b' e sz v n xs:=by
 obtain⟨h1,h2⟩:=h;refine⟨h1,?_⟩;rcases h2 with h2|⟨g,cp,cur,e1,e2,e3⟩
 ·exact .inl h2
 ·exact .inr ⟨g,cp,cur,e1,by omega,e3⟩
theorem Pv {w:World}{base g:Nat}{s:Sh}{us:List Uv}(R:Rc w base g s us)(T:TT w base){c mn:Nat}(F:Fit s c mn)(lU:mn<=4096){k:Nat}(hk:k<c)(hc4:c<=4)(hst:(at' s k).state=0)(hus:us.length<=200000)(hout:s.out.length<=200000)(hstp:s.steps<=200000):Calls prog 56 #[.pointer (some ⟨g,0,none⟩),.int .i64 k] w fun e w'=>e=.returned (.tuple #[])/\Rc w' base g (bW s k) (us++[eH s k])/\Fk base w w':=by
 obtain⟨M,gh,hc,O,U,xs,R⟩:=R;have hl:k<s.hs.length:=by rw[F.len];exact hk
 have eh:s.hs[k]?=some (at' s k):=by unfold at';rw[api hl];simp[List.getD,hl]
 have jM:(at' s k).Ok:=(F.ok _ (dH eh)).1;have hbb:=R.bw.ay;have HR:Hid (Rw w base g M gh hc O U xs s us):=R;have HTT:Hid (TT w w.heap.size):=Xp T hbb;have RG:=kH (R.bw.row.range eh);have k1:w.cell? ⟨g,1,none⟩=some (.slice (some ⟨gh,0,none⟩) c hc):=by have:=R.bw.c1;rw[F.len]at this;exact this
 have rH:=kH (aD jM);have zR:Hid (at' s k).Ok:=jM;have M9:=kH (EJ jM k);have aee:Hid ((uL ⟨k,at' s k,0,[],[]⟩ ax ax).length=41):=oN (u:=⟨k,at' s k,0,[],[]⟩) jM;have aef:Hid ((uL ⟨k,at' s k,0,[],[]⟩ ax ax).toArray.all (·.oneCell')=true):=O9 rfl rfl;have HWk:Hid (∀W:World,Gr w W->_):=fun W G=>Nw (R.bw.of G) F lU (HTT.out.grow G) hk hc4 (n:=1) (by omega)
 have HF:=kH F;have HST:=kH hst;have hgl:=R.bw.lt;have hgh:gh<w.heap.size:=by obtain⟨_,e⟩:=R.bw.row.row;exact(gs e).1
 clear R T F eh jM hl hst;generalize hHh:at' s k=hv at *
 have HH:=kH hHh;clear hHh;generalize hX0:uL ⟨k,hv,0,[],[]⟩ ax ax=X0 at *
 have HX0:=kH hX0;clear hX0;go_enter func56,ntmps56;have sJ:Hid (X0.toArray.size=41):=by unfold Hid;simp[aee.out]
 go_wp2_with (first
  |(refine auA rfl 43 _ rfl gh (k*37) rfl (hL hv) _ ?r1 underlying43 rfl (by rw[rH.out];exact iH) ?_;(case r1=>exact RG.out))
  |(refine au9 rfl 121 _ rfl _ rfl X0.toArray (by have:=M9.out;simp[Act.eval,Act.put];exact this) ?_)
  |(refine auf rfl 121 _ _ rfl w.heap.size X0.toArray rfl rfl 121 _ (at5 w _) (by rw[sJ.out];exact iU) (by rw[sJ.out];rfl) aef.out ?_))
 refine(HWk.out _ (ag ((Gr.refl _).alloc _) (apn _) _)).mono ?_;rintro e w2 ⟨d,rfl,od,D,G2⟩;have HG2:=kH ((ag ((Gr.refl _).alloc _) (apn _) _).trans G2);have sD:=kH (Hr.ae G2 (aup _ _ _ _ _ (0,0) (at5 w _)));have HXs:=kH (aaG (by rw[HH.out];exact HST.out));have HXo:Hid (AR (wk (w0 s k) 1) mn/\(wk (w0 s k) 1).n<=1):=by have:=Gt 1 (pQ HF.out hk);have e:(w0 s k).n=0:=rfl;exact⟨this.1,by omega⟩
 have HTk:=kH (aaF (by rw[HF.out.len];exact hk) (by rw[HH.out];exact HST.out));have HD:=kH D;have HOd:=kH od;obtain⟨sa,sc,uO⟩:=(az D.av).2.2;have g40:(qA d)[40]?=some (.slice sa (wk (w0 s k) 1).av.length sc):=by rw[jl od 3];simp[uO]
 have HSo:=kH uO;have qw:=kH (fG od);have CQ:=kH (lW D.mem.cells.2 (az D.out).2.1 (az D.av).2.1);clear G2 D uO od HWk M9 aef RG k1;generalize hXX:wk (w0 s k) 1=X at *
 clear hXX;have hsl:X.av.length<=1:=by have:=HXo.out.1.av;have:=HXo.out.2;omega
 have HX3:Hid (∀Y:Array Value,Gr w2 ((w2.alloc (.cells Y 142)).setRow w2.heap.size (qA d))):=fun Y=>ag ((Gr.refl _).alloc _) (apn _) _
 have KN:Hid (∀Y:Array Value,((w2.alloc (.cells Y 142)).setRow w2.heap.size (qA d)).heap[w2.heap.size]?=some (.cells (qA d) 142 (0,0))):=fun Y=>aup _ _ _ _ _ (0,0) (at5 w2 _)
 have k40:∀Y:Array Value,((w2.alloc (.cells Y 142)).setRow w2.heap.size (qA d)).cell? ⟨w2.heap.size,40,none⟩=some (.slice sa X.av.length sc):=fun Y=>(cr (KN.out Y)).trans g40
 generalize hsn:X.av.length=sn at *
 have ZB:=kH hsn;clear hsn;go_wp2_with (refine auf rfl 142 _ _ rfl w2.heap.size (qA d) rfl rfl 142 _ (at5 w2 _) (by rw[qw.out];exact iQ) (by rw[qw.out];rfl) CQ.out ?_);refine JV (fun W=>W.heap[w2.heap.size]?=some (.cells (qA d) 142 (0,0))/\Gr w2 W) ⟨KN.out _,HX3.out _⟩ ?_;rintro W3 ⟨KO,G3⟩;obtain⟨o,ho⟩:∃o:Nat,o=w2.heap.size:=⟨_,rfl⟩;obtain⟨ub,hub⟩:∃ub:Nat,ub=w.heap.size:=⟨_,rfl⟩;rw[<-ho]at KO ⊢;rw[<-hub]at sD ⊢;have yD:=kH KO;have HU3:=kH (Hr.ae G3 sD.out);have fQ:=kH (HG2.out.trans G3);have HD3:Hid (∃b,Dq W3 b d X):=⟨_,HD.out.gr G3⟩;have hol:w.heap.size<o:=by have:=(gs sD.out).1;omega
 have huo:ub<o:=by have:=(gs sD.out).1;omega
 have hbu:base<=ub:=by omega
 have HUB:=kH hub;have hgu:g<ub:=by omega
 clear KO G3 HX3 KN sD HG2 HD k40 g40 ho hub;clear w2;have HUN:Hid (∀W:World,Nu W3 W->X.av.length=0->W.heap[ub]?=some (.cells X0.toArray 121 (0,0))->Done W ub (eH s k)):=fun W N h0 hb=>by
  have e0:(dV (at' s k) s.m).av=[]:=by rw[<-HXs.out];exact apX h0
  refine⟨X0,aee.out,hb,ax,ax,?_,.inl ⟨rfl,?_⟩,?_⟩
  ·unfold eH;rw[e0,<-HX0.out];unfold oM;rw[HH.out]
  ·unfold eH;rw[e0];rfl
  ·unfold eH;rw[e0];exact aur _ _ _ _
 go_loopw [29] (fun i wr=>∃j:Nat,j<=sn/\i=.int .i64 j/\Gr w wr/\Nu W3 wr/\(j<sn->wr.heap[ub]?=some (.cells X0.toArray 121 (0,0)))/\(j=sn->Done wr ub (eH s k))) (fun i _=>sn-(intOf i).toNat)
 case atStart=>exact⟨0,apF _,rfl,fQ.out,Nu.refl _,fun _=>HU3.out,fun h=>HUN.out _ (Nu.refl _) (by rw[ZB.out,<-h]) HU3.out⟩
 case round=>
  obtain⟨j,hj,rfl,G,N,hA,hB⟩:=hrel;have HGr:=kH G;have HNr:=kH N;have HOr:=kH (N.row yD.out (by decide));by_cases hlt:j<sn
  ·have Rb:=kH (hA hlt);clear hA hB G N;obtain rfl:j=0:=by omega
   have fO:Hid (sn=1):=by unfold Hid;omega
   obtain⟨p,hp⟩:∃p,X.av=[p]:=List.length_eq_one_iff.1 (ZB.out.trans fO.out);have amz:(0:Int)<(sn:Int):=by omega
   have HP:=kH hp;obtain⟨p0,p1,p2⟩:=HXo.out.1.bd p (by rw[hp];simp);have hlo:Wd.lo (p.1+p.2)=p.1+p.2:=by unfold Wd.lo;omega
   obtain⟨b3,D3⟩:=HD3.out;have aaI:=(Dq.nu D3 HNr.out).av;rw[HSo.out,ZB.out,hp]at aaI;obtain⟨gs',hgs',amA,hcs'⟩:=nD aaI hlt;subst hgs';have c0:=hcs' 0 _ rfl;have c1:wr.cell? ⟨gs',1,none⟩=some (.int .u32 (p.1+p.2)):=by rw[<-hlo];exact hcs' 1 _ rfl
   have x38:wr.cell? ⟨ub,38,none⟩=some (.int .u32 0):=(cr Rb.out).trans (by rw[<-HX0.out,apm];exact eO (u:=⟨k,hv,0,[],[]⟩) zR.out 0);have f38:wr.frozen? ⟨ub,38,none⟩=false:=lh Rb.out;have ahI:=(gs Rb.out).1;clear hcs' aaI D3 hp;obtain⟨pf,pn⟩:=p;simp only at *
   obtain⟨f,rfl⟩:=apt p0;obtain⟨q,rfl⟩:=apt (show 0<=pn by omega);have lY:=HF.out.mem;rcases HR.out.bw.mem with⟨_,h2⟩|⟨mk,mc,hMe,⟨ahJ,hcap⟩,hrow⟩
   ·rw[h2]at lY;simp at lY;omega
   have WX:Hid (M=.slice (some ⟨mk,0,none⟩) mn mc):=by rw[lY]at hMe;exact hMe
   have WW:Hid (Hc.mb<=w.heap.size):=by
    obtain⟨_,he⟩:=hrow.row;have:=(gs he).1;unfold Hid;omega
   have hcp:mn<=mc:=by omega
   have Xl:Hid (Mem w (some ⟨mk,f,none⟩) q ((s.m.drop f).take q)):=by
    have:=UW (f:=f) (c:=q) (Row.mem hrow.row) (by omega);rwa[apu]at this
   have QY:Hid (∀W:World,Gr w W->Calls prog 84 #[.pointer (some ⟨g,0,none⟩),.int .i64 k,.agg #[.int .u32 f,.int .u32 ((f:Int)+(q:Int))]] W fun e w'=>∃v,e=.returned v/\w'.ownsRow W.heap.size 159 2 v (aR k (f,q) s.hs s.hs.length).length (Bh (aR k (f,q) s.hs s.hs.length))/\Gr W w'):=fun W G=>by
    have:=Bi (HR.out.bw.of G) (by rw[HF.out.len];exact hc4) k ((f:Int),(q:Int)) p0 p1 (by simp only;omega);simp only[hlo]at this;exact this
   clear hMe hcap hrow lY hlo ahJ;have kL:Hid ((uL ⟨k,hv,0,[],[]⟩ ax ax).toArray.setIfInBounds 38 (.int .u32 f)=(uL ⟨k,hv,f,[],[]⟩ ax ax).toArray):=Pn (u:=⟨k,hv,0,[],[]⟩) zR.out f;go_wp2_with fail;refine JV (fun W=>W.heap[ub]?=some (.cells (uL ⟨k,hv,f,[],[]⟩ ax ax).toArray 121 (0,0))/\W.heap[wr.heap.size]?=some (.cells #[.int .u32 f,.int .u32 ((f:Int)+(q:Int))] 175 (0,0))/\Gr w W/\Nu wr W) ⟨?fa,?fb,?fc,?fd⟩ ?_
   case fa=>refine Hr.ae ((Gr.refl _).alloc _) ?_;rw[hss Rb.out,<-HX0.out,kL.out]
   case fb=>have:=at5 (wr.setCell ⟨ub,38,none⟩ (.int .u32 f)) (.cells #[.int .u32 f,.int .u32 ((f:Int)+(q:Int))] 175);rwa[szC]at this
   case fc=>exact(HGr.out.setCell (by have:=HUB.out;exact aq6 this.symm) _).alloc _
   case fd=>exact((Nu.refl wr).set Rb.out 38 _).trans (Nu.gr ((Gr.refl _).alloc _))
   rintro W5 ⟨KU,KR,G5,N5⟩;obtain⟨rb,hrb⟩:∃rb:Nat,rb=wr.heap.size:=⟨_,rfl⟩;rw[<-hrb]at KR ⊢;have hru:ub≠rb:=by omega
   have qx:Hid (W5.heap[ub]?=some (.cells (uL ⟨k,hv,f,[],[]⟩ ax ax).toArray 121 (0,0))):=KU;have xK:Hid (W5.heap[rb]?=some (.cells #[.int .u32 f,.int .u32 ((f:Int)+(q:Int))] 175 (0,0))):=KR;have lu:Hid (Gr w W5):=G5;have HN5:Hid (Nu W3 W5):=HNr.out.trans N5;have m0:W5.cell? ⟨g,0,none⟩=some (.slice (some ⟨mk,0,none⟩) mn mc):=by rw[<-WX.out];exact(HR.out.bw.of G5).c0
   have r0:=iE KR;have r1:=iY KR;have u39:W5.cell? ⟨ub,39,none⟩=some ax:=(cr KU).trans (by rw[apm];exact eO (u:=⟨k,hv,f,[],[]⟩) zR.out 1);have g39:W5.frozen? ⟨ub,39,none⟩=false:=lh KU;have aaJ:ub<W5.heap.size:=(gs KU).1;have HCl:Hid (∀W:World,Gr W5 W->Calls prog 36 #[.slice (some ⟨mk,f,none⟩) (((f:Int)+(q:Int)).toNat-f) (mc-f)] W fun e w'=>∃a c',e=.returned (.slice a q c')/\Hc.Own w' Hc.mb (.slice a q c') ((s.m.drop f).take q)/\Gr W w'):=fun W G=>by rw[show((f:Int)+(q:Int)).toNat-f=q by omega];exact wU (Xl.out.of (lu.out.trans G)) (fun e=>by cases e) (by omega) (apr WW.out (lu.out.trans G).size)
   have q1:(0:Int)<=(f:Int)+(q:Int):=by omega
   have q2:(f:Int)+(q:Int)<=(mc:Int):=by omega
   have q3:(f:Int)<=(f:Int)+(q:Int):=by omega
   have q4:¬mc=f:=by omega
   clear KU KR G5 N5 hrb HGr HNr HOr Rb c0 c1 x38 f38 kL ahI;go_region_held3 (fun W=>W.cell? ⟨g,0,none⟩=some (.slice (some ⟨mk,0,none⟩) mn mc)/\W.cell? ⟨rb,0,none⟩=some (.int .u32 f)/\W.cell? ⟨rb,1,none⟩=some (.int .u32 ((f:Int)+(q:Int)))) (first|(refine⟨?_,?_,?_⟩<;>assumption)|(exact⟨(aui (hso (by exact Nat.ne_of_lt hgu))).trans y0,(aui (hso (by exact hru.symm))).trans y1,(aui (hso (by exact hru.symm))).trans y2⟩)|(go_keep;done)) (first|(go_at_call 36;refine(HCl.out W5.drew (Gr.refl W5).drew).mono ?_;rintro e w6 ⟨ba,bc',rfl,O6,G6⟩;have HO6:Hid (Hc.Own w6 Hc.mb (.slice ba q bc') ((s.m.drop f).take q)):=O6;have oL:Hid (Gr W5 w6):=(Gr.refl W5).drew.trans G6;have y0:w6.cell? ⟨g,0,none⟩=some (.slice (some ⟨mk,0,none⟩) mn mc):=(G6.cell _ (by exact Nat.lt_trans hgu aaJ)).trans m0;have y1:w6.cell? ⟨rb,0,none⟩=some (.int .u32 f):=iE (Hr.ae G6 xK.out);have y2:w6.cell? ⟨rb,1,none⟩=some (.int .u32 ((f:Int)+(q:Int))):=iY (Hr.ae G6 xK.out);have y3:w6.cell? ⟨ub,39,none⟩=some ax:=(G6.cell _ (by exact aaJ)).trans u39;have y4:w6.frozen? ⟨ub,39,none⟩=false:=lh (Hr.ae G6 qx.out);clear O6 G6));refine JV (fun W=>W.heap[ub]?=some (.cells (uL ⟨k,hv,f,[],[]⟩ (.slice ba q bc') ax).toArray 121 (0,0))/\W.heap[rb]?=some (.cells #[.int .u32 f,.int .u32 ((f:Int)+(q:Int))] 175 (0,0))/\Gr w W/\Nu W3 W/\Hc.Own W Hc.mb (.slice ba q bc') ((s.m.drop f).take q)) ⟨?ga,?gb,?gc,?gd,?ge⟩ ?_
   case ga=>rw[hss (Hr.ae oL.out qx.out),Po (u:=⟨k,hv,f,[],[]⟩) zR.out]
   case gb=>rw[hso (by exact hru.symm)];exact Hr.ae oL.out xK.out
   case gc=>exact(lu.out.trans oL.out).setCell (by have:=HUB.out;exact aq6 this.symm) _
   case gd=>exact(HN5.out.trans (Nu.gr oL.out)).set (Hr.ae oL.out qx.out) 39 _
   case ge=>exact HO6.out.to fun z ob fz hz=>hso (by exact aa hz (Hr.ae oL.out qx.out) (by decide))
   rintro W7 ⟨KU,KR,G7,N7,O7⟩;have HU7:Hid (W7.heap[ub]?=some (.cells (uL ⟨k,hv,f,[],[]⟩ (.slice ba q bc') ax).toArray 121 (0,0))):=KU;have HR7:Hid (W7.heap[rb]?=some (.cells #[.int .u32 f,.int .u32 ((f:Int)+(q:Int))] 175 (0,0))):=KR;have zB:Hid (Gr w W7):=G7;have HN7:Hid (Nu W3 W7):=N7;have Zf:Hid (Hc.Own W7 Hc.mb (.slice ba q bc') ((s.m.drop f).take q)):=O7;clear qx xK lu HN5 m0 r0 r1 u39 g39 HCl HO6 oL y0 y1 y2 y3 y4 aaJ WX q4;have r0:=iE KR;have r1:=iY KR;have u40:W7.cell? ⟨ub,40,none⟩=some ax:=(cr KU).trans (by rw[apm];exact eO (u:=⟨k,hv,f,[],[]⟩) zR.out 2);have g40:W7.frozen? ⟨ub,40,none⟩=false:=lh KU;have ahK:ub<W7.heap.size:=(gs KU).1;clear KU KR G7 N7 O7;go_wp2_with fail;go_region_held3 (fun W=>W.cell? ⟨rb,0,none⟩=some (.int .u32 f)/\W.cell? ⟨rb,1,none⟩=some (.int .u32 ((f:Int)+(q:Int)))) (first|(refine⟨?_,?_⟩<;>assumption)|(exact⟨(aui (hso (by exact hru.symm))).trans y1,(aui (hso (by exact hru.symm))).trans y2⟩)|(go_keep;done)) (first|(go_at_call 84;refine(QY.out W7.drew zB.out.drew).mono ?_;rintro e w8 ⟨lv,rfl,L8,G8⟩;obtain⟨_,_,la,lc,rfl⟩:=az L8;have HL8:Hid (w8.ownsRow W7.drew.heap.size 159 2 (.slice la (aR k (f,q) s.hs s.hs.length).length lc) (aR k (f,q) s.hs s.hs.length).length (Bh (aR k (f,q) s.hs s.hs.length))):=L8;have Ri:Hid (Gr W7 w8):=(Gr.refl W7).drew.trans G8;have y1:w8.cell? ⟨rb,0,none⟩=some (.int .u32 f):=iE (Hr.ae G8 HR7.out);have y2:w8.cell? ⟨rb,1,none⟩=some (.int .u32 ((f:Int)+(q:Int))):=iY (Hr.ae G8 HR7.out);have y3:w8.cell? ⟨ub,40,none⟩=some ax:=(G8.cell _ (by exact ahK)).trans u40;have y4:w8.frozen? ⟨ub,40,none⟩=false:=lh (Hr.ae G8 HU7.out);clear L8 G8));have HFin:Hid (Done (w8.setCell ⟨ub,40,none⟩ (.slice la (aR k (f,q) s.hs s.hs.length).length lc)) ub (eH s k)):=by
    have hb:=Hr.ae Ri.out HU7.out;have eu:eH s k=⟨k,hv,f,(s.m.drop f).take q,gF (aR k (f,q) s.hs s.hs.length)⟩:=by
     unfold eH;rw[<-HXs.out,HP.out];unfold oM;rw[HH.out];simp only[apG]
    have kp:∀(z:Nat) (ob:Array Value) (t:Nat) (fz:Nat×Nat),t≠121->w8.heap[z]?=some (.cells ob t fz)->(w8.setCell ⟨ub,40,none⟩ (.slice la (aR k (f,q) s.hs s.hs.length).length lc)).heap[z]?=w8.heap[z]?:=fun z ob t fz ht hz=>hso (by exact aa hz hb ht)
    rw[eu];refine⟨uL ⟨k,hv,f,[],[]⟩ (.slice ba q bc') (.slice la (aR k (f,q) s.hs s.hs.length).length lc),oN (u:=⟨k,hv,f,[],[]⟩) zR.out,?_,.slice ba q bc',.slice la (aR k (f,q) s.hs s.hs.length).length lc,rfl,?_,?_⟩
    ·rw[hss hb,Pq (u:=⟨k,hv,f,[],[]⟩) zR.out]
    ·exact(gT Zf.out Ri.out).to fun z ob fz hz=>kp z ob _ fz (by decide) hz
    ·have:=aj (uD HL8.out (apr WW.out zB.out.size)) fun z ob fz hz=>kp z ob _ fz (by decide) hz
     simp only[JU];rw[show(gF (aR k (f,q) s.hs s.hs.length)).length=(aR k (f,q) s.hs s.hs.length).length by simp[gF]];exact this
   have HGf:Hid (Gr w (w8.setCell ⟨ub,40,none⟩ (.slice la (aR k (f,q) s.hs s.hs.length).length lc))):=(zB.out.trans Ri.out).setCell (by have:=HUB.out;exact aq6 this.symm) _;have HNf:Hid (Nu W3 (w8.setCell ⟨ub,40,none⟩ (.slice la (aR k (f,q) s.hs s.hs.length).length lc))):=(HN7.out.trans (Nu.gr Ri.out)).set (Hr.ae Ri.out HU7.out) 40 _;generalize(w8.setCell ⟨ub,40,none⟩ (.slice la (aR k (f,q) s.hs s.hs.length).length lc))=W9 at *
   go_wp2_with fail;go_roundw
   case rel=>exact⟨1,by omega,by go_num,HGf.out,HNf.out,fun h=>absurd h (by have:=fO.out;omega),fun _=>HFin.out⟩
   case measure=>simp[intOf];omega
  ·obtain⟨XL,hXl,hXb,hUo⟩:=hB (by omega);have Rb:Hid (wr.heap[ub]?=some (.cells XL.toArray 121 (0,0))):=hXb;have HXl:Hid (XL.length=41):=hXl;have HUo:Hid (Uo wr (eH s k) XL):=hUo;have Bo:Hid (Rw wr base g M gh hc O U xs s us):=HR.out.of HGr.out;obtain⟨QL,UF⟩:∃QL:List Value,Hid (qA d=QL.toArray):=⟨_,rfl⟩;have HQl:Hid (QL.length=41):=by have:=qw.out;rw[UF.out,ap2]at this;exact this
   have rT:Hid (∀V:World,V.heap[o]?=some (.cells (qA d) 142 (0,0))->V.rangeAt o 0 QL):=fun V e i v hv=>by rw[apu,cr e,UF.out,apm];exact hv
   have HTa:Hid (∀V:World,Gr wr V->Calls prog 58 #[.pointer (some ⟨g,0,none⟩),.int .i64 k,.agg QL.toArray] V fun e w'=>e=.returned (.tuple #[])/\Bd 88 [U] w' base g (bW s k)/\Fe 88 base V w'):=fun V G=>by
    rw[<-UF.out,<-HTk.out];obtain⟨b3,D3⟩:=HD3.out;have o1:=HXo.out.1.out;have o2:=HXo.out.1.av;have o3:=HXo.out.2;exact BL (Bo.out.bw.of G) HF.out.len hc4 ((Dq.nu D3 HNr.out).gr G) HOd.out (fun p hp=>by have:=HXo.out.1.bd p hp;omega) (by omega) (by omega) (by omega) hk
   have hul:w.heap.size<=ub:=by have:=HUB.out;omega
   clear hXl hXb hUo hA hB G N;go_wp2_with fail;refine aut (S:=fun W=>W.rangeAt o 0 QL) (by kernel_rfl) (rT.out _ HOr.out) (fun hHeld=>?_);have aY:Hid _:=hHeld;clear hHeld;refine tK 0 (.pointer (some ⟨g,0,none⟩)) aY.out ?_;refine tK 1 (.pointer (some ⟨g,0,none⟩)) aY.out ?_;refine tK 2 (.pointer (some ⟨g,0,none⟩)) aY.out ?_;refine tK 3 (.int .i64 k) aY.out ?_;refine auF (i:=4) (v:=.agg QL.toArray) rfl (by kernel_rfl) (by kernel_rfl) (by kernel_rfl) (fun _ _ _ h=>h) (auN (by rfl) 142 (.tmp 5) rfl o 0 (by simp[Act.eval]) QL _ (fun W hW=>hW) underlying142 rfl (by rw[HQl.out];exact iQ)) aY.out ?_;simp only[apN,apP,apQ,Act.put,apl,apC,apy];refine aue (rs:=[5]) (by kernel_rfl) (by simp) ?_;refine aua rfl (fun K hK=>?_) aud;go_simp;refine(HTa.out _ (Gr.refl _).drew).mono ?_;rintro e w5 ⟨rfl,B5,F5⟩;have KT:Hid (Fe 88 base wr w5):=⟨(Below.drew (auC base wr)).trans F5.below,F5.keep⟩;have HO5:Hid (w5.heap[o]?=some (.cells (qA d) 142 (0,0))):=(KT.out.cells HOr.out (by decide) (by decide) (by decide)).trans HOr.out;have qx:Hid (w5.heap[ub]?=some (.cells XL.toArray 121 (0,0))):=(KT.out.cells Rb.out (by decide) (by decide) (by decide)).trans Rb.out;have aei:Hid (Uo w5 (eH s k) XL):=HUo.out.to fun z ob t fz ht hz=>KT.out.cells hz (by rcases ht with rfl|rfl<;>decide) (by rcases ht with rfl|rfl<;>decide) (by rcases ht with rfl|rfl<;>decide)
   obtain⟨M5,gh5,hc5,O5,R5⟩:=Bo.out.take B5 KT.out;have xK:Hid (Rw w5 base g M5 gh5 hc5 O5 U xs (bW s k) us):=R5;have HFk:Hid (Fk base w w5):=(Fk.bD HGr.out hbb).trans (Fk.ahG KT.out);clear B5 F5;refine hK.out _ _ (rT.out _ HO5.out) (fun hx=>?_);clear hK K hx;refine auy (by kernel_rfl) ?_ _;have c4:w5.cell? ⟨g,4,none⟩=some U:=R5.bw.rest 0;have hg5:g<w5.heap.size:=R5.bw.lt;obtain⟨ua,uc,hU⟩:=(az R5.row).2.2;have HUe:Hid (U=.slice ua us.length uc):=hU;have HSu:Hid (∀V:World,V.heap[ub]?=some (.cells XL.toArray 121 (0,0))->V.rangeAt ub 0 XL):=fun V e i v hv=>by rw[apu,cr e,apm];exact hv
   clear R5 aY HTa rT HOr Rb Bo HUo HO5 UF;rw[hU]at c4;clear hU;obtain⟨i0,hi,hz0,hz1,hz2⟩:=auz wC;go_wp2_with fail;refine aut (S:=fun W=>W.rangeAt ub 0 XL) (by kernel_rfl) (HSu.out _ qx.out) (fun hHeld=>?_);have HT0:Hid _:=hHeld;clear hHeld;refine tK 0 (.pointer (some ⟨g,0,none⟩)) HT0.out ?_;refine tK 1 (.pointer (some ⟨g,0,none⟩)) HT0.out ?_;refine tK 2 (.pointer (some ⟨g,0,none⟩)) HT0.out ?_;refine tK 3 (.pointer (some ⟨g,4,none⟩)) HT0.out ?_;refine auF (i:=5) (v:=.agg XL.toArray) rfl (by kernel_rfl) (by kernel_rfl) (by kernel_rfl) (fun _ _ _ h=>h) (auN (by rfl) 121 (.tmp 4) rfl ub 0 (by simp[Act.eval]) XL _ (fun W hW=>hW) underlying121 rfl (by rw[HXl.out];exact iU)) HT0.out ?_;simp only[apN,apP,apQ,Act.put,apl,apC,apy];have kL:Hid (∀u∈XL,u.oneCell'=true):=aei.out.one;have oL:Hid (Gr w5 (w5.drew.alloc (.cells XL.toArray 121))):=Gr.alloc (Gr.drew (Gr.refl _)) _;have HSa:Hid (∀Z:Obj,(w5.drew.alloc Z).rangeAt ub 0 XL):=fun Z=>HSu.out _ (Hr.ae (Gr.alloc (Gr.drew (Gr.refl w5)) Z) qx.out)
   apply Pt
   ·intro jO;refine aue (rs:=[4,6]) (by kernel_rfl) (by simp) ?_;refine aua rfl (fun K hK=>?_) (aua rfl (fun K hK=>?_) aud)
    ·go_simp;refine hK.out _ _ HT0.out (fun hx=>?_);clear hK K hx;refine aue (rs:=[6]) (by kernel_rfl) (by simp) ?_;refine aua rfl (fun K hK=>?_) aud;refine mH rfl 30 121 (.tmp 69) rfl XL.toArray 41 (by simp[Act.eval,Act.put]) (by simp[HXl.out]) underlying30 iUz (by decide) (by decide) ?_;refine hK.out _ _ (HSa.out _) (fun hx=>?_);clear hK K hx;simp only[apN,apP,apQ,Act.put,apl,apC,apy];exact jO.out
    ·refine mH rfl 30 121 (.tmp 69) rfl XL.toArray 41 (by simp[Act.eval,Act.put]) (by simp[HXl.out]) underlying30 iUz (by decide) (by decide) ?_;refine hK.out _ _ (HSa.out _) (fun hx=>?_);clear hK K hx;simp only[apN,apP,apQ,Act.put,apl,apC,apy];refine aue (rs:=[4]) (by kernel_rfl) (by simp) ?_;refine aua rfl (fun K hK=>?_) aud;go_simp;refine hK.out _ _ (HSa.out _) (fun hx=>?_);clear hK K hx;exact jO.out
   have HXc:Hid (∀j u,XL[j]?=some u->(w5.drew.alloc (.cells XL.toArray 121)).cell? ((⟨w5.drew.heap.size,0,none⟩:Addr).add j)=some u):=fun j u hj=>by
    rw[cz,apu,cr (at5 w5.drew (.cells XL.toArray 121)),apm];exact hj
   refine aue (rs:=[7]) (by kernel_rfl) (by simp) ?_;refine aua rfl (fun K hK=>?_) aud;refine aZ rfl (.tmp 68) (.tmp 70) 30 rfl base 121 i0 _ 41 224 underlying30 hi hz0 hz1 hz2 (by simp[Value.cells,oN (u:=h00) iO]) (by decide) (.slice ua us.length uc) us.length xs (by simp[Act.eval,Act.put]) (by rw[<-HUe.out];exact aC xK.out.row oL.out) ⟨w5.drew.heap.size,0,none⟩ 1 1 XL (by simp[Act.eval,Act.put]) (by rw[HXl.out]) HXc.out kL.out (by unfold maxLen;omega) (by omega) (by have:=oL.out.size;have:=xK.out.bw.ay;omega) ?_;intro v' w7 hown hgrow;rw[<-HUe.out]at hgrow;obtain⟨g',cp,rfl⟩:=dh hown (by omega);obtain⟨c7,f7,RN,FN⟩:=(xK.out.of oL.out).put (aei.out.to (Ky.bD oL.out)) HXl.out rfl hown hgrow;have HRN:Hid _:=RN;have HFN:Hid (Fk base w5 _):=(Fk.bD oL.out xK.out.bw.ay).trans FN;have HS7:Hid (w7.heap[ub]?=some (.cells XL.toArray 121 (0,0))):=by
    have hne:some ub≠U.ownBlock:=fun e=>by have:=(HR.out.row.lt ub e.symm).2;omega
    exact(hgrow.block ub (by have:=oL.out.size;have:=(gs qx.out).1;omega) hne).trans (Hr.ae oL.out qx.out)
   clear RN FN;refine hK.out _ _ (HSu.out _ HS7.out) (fun hx=>?_);clear hK K hx hown hgrow;have HT7:Hid (w7.rangeAt ub 0 XL):=HSu.out _ HS7.out;have HS8:Hid ((w7.setCell ⟨g,4,none⟩ (.slice (some ⟨g',0,none⟩) (us.length+1) cp)).rangeAt ub 0 XL):=HSu.out _ (by rw[hso (by exact Nat.ne_of_gt hgu)];exact HS7.out);refine tK 8 (.pointer (some ⟨g,0,none⟩)) HT7.out ?_;refine tK 9 (.pointer (some ⟨g,4,none⟩)) HT7.out ?_;refine aue (rs:=[10]) (by kernel_rfl) (by simp) ?_;refine aua rfl (fun K hK=>?_) aud;go_simp;refine hK.out _ _ HS8.out (fun hx=>?_);clear hK K hx;refine auy (by kernel_rfl) ?_ _;go_wp2_with fail;go_end0;exact⟨rfl,HRN.out,HFk.out.trans HFN.out⟩
end Ud
namespace Ud
open Mm Hh Hc Mc

theorem Pw {s:Sh}{k:Nat}(h:¬(at' s k).state=0):∀n,vR s k n=[]
 |0=>rfl
 |n+1=>at6 h
structure Tw (s:Sh) (us:List Uv) (k n j:Nat) (c mn:Nat) (s':Sh) (kF:List Uv):Prop where
 le:j<=n
 runs:runs s k n=runs s' k (n-j)
 gD:us++gD s (vR s k n)=kF++gD s' (vR s' k (n-j))
 fit:Fit s' c mn
 ul:kF.length<=us.length+j
 ol:s'.out.length<=s.out.length+j
 sl:s'.steps<=s.steps+j
theorem JW {s:Sh}{c n k:Nat}(F:Fit s c n)(hk:k<c)(h:(at' s k).state=0):(bW s k).out.length<=s.out.length+1:=by
 have hl:k<s.hs.length:=by rw[F.len];exact hk
 have eh:s.hs[k]?=some (at' s k):=by unfold at';rw[api hl];simp[List.getD,hl]
 have g:=lJ (Ak (F.ok _ (dH eh)).2 h) s.m;have:=g.2.2.2.1;simp only[bW,apo];omega
theorem Tw.on {s:Sh}{us:List Uv}{k n j c mn:Nat}{s':Sh}{kF:List Uv}(t:Tw s us k n j c mn s' kF)(hk:k<c)(hj:j<n)(h:(at' s' k).state=0):Tw s us k n (j+1) c mn (bW s' k) (kF++[eH s' k]):=by
 have e:n-j=(n-(j+1))+1:=by omega
 have o:=JW t.fit hk h;refine⟨by omega,?_,?_,kg t.fit hk h,?_,?_,?_⟩
 ·rw[t.runs,e];show(if(at' s' k).state=0 then Mc.runs (bW s' k) k (n-(j+1))else s')=_
  rw[at7 h]
 ·rw[t.gD,e,aqa];show kF++Ud.gD s' (if(at' s' k).state=0 then k::vR (bW s' k) k (n-(j+1))else[])=_
  rw[at7 h];rfl
 ·have:=t.ul;simp;omega
 ·have:=t.ol;omega
 ·have:=t.sl;show s'.steps+1<=_;omega
theorem Tw.stop {s:Sh}{us:List Uv}{k n j c mn:Nat}{s':Sh}{kF:List Uv}(t:Tw s us k n j c mn s' kF)(h:¬(at' s' k).state=0\/j=n):Mc.runs s k n=s'/\us++Ud.gD s (vR s k n)=kF:=by
 rw[t.runs,t.gD];rcases h with h|h
 ·rw[qO h,Pw h];exact⟨rfl,by simp[Ud.gD]⟩
 ·rw[h,Nat.sub_self];exact⟨rfl,by simp[vR,Ud.gD]⟩
theorem uP {w:World}{base g:Nat}{s:Sh}{us:List Uv}(R:Rc w base g s us)(T:TT w base){c mn:Nat}(F:Fit s c mn)(lU:mn<=4096){k n:Nat}(hk:k<c)(hc4:c<=4)(hn:n<=400)(hus:us.length+400<=200000)(hout:s.out.length+400<=200000)(hstp:s.steps+400<=200000):Calls prog 23 #[.pointer (some ⟨g,0,none⟩),.agg #[.int .i64 k,.int .i64 n]] w fun e w'=>e=.returned (.tuple #[])/\Rc w' base g (runs s k n) (us++gD s (vR s k n))/\Fk base w w':=by
 have hbb:base<=w.heap.size:=by obtain⟨_,_,_,_,_,_,R⟩:=R;exact R.bw.ay
 have HR:=kH R;have HTT:=kH T;have HF:=kH F;go_enter func23,ntmps23;go_wp2_with fail;go_loopw [6] (fun i wr=>∃(j:Nat) (s':Sh) (kF:List Uv),i=.int .i64 j/\Tw s us k n j c mn s' kF/\Rc wr base g s' kF/\Fk base w wr/\wr.heap[w.heap.size]?=some (.cells #[.int .i64 k,.int .i64 n] 45 (0,0))) (fun i _=>n-(intOf i).toNat)
 case atStart=>exact⟨0,s,us,rfl,⟨apF _,rfl,rfl,HF.out,apn _,apn _,apn _⟩,HR.out.of ((Gr.refl _).alloc _),Fk.bD ((Gr.refl _).alloc _) hbb,at5 w _⟩
 case round=>
  obtain⟨j,s',kF,rfl,t,R,FK,KP⟩:=hrel;have HT:=kH t;have Bo:=kH R;have HFK:=kH FK;have HP:=kH KP;have p0:=iE KP;have p1:=iY KP;have hle:=t.le;obtain⟨M0,gh,hc,O0,U0,xs0,R0⟩:=R;have hl:k<s'.hs.length:=by rw[t.fit.len];exact hk
  have eh:s'.hs[k]?=some (at' s' k):=by unfold at';rw[api hl];simp[List.getD,hl]
  have jM:=(t.fit.ok _ (dH eh)).1;have g1:wr.cell? ⟨g,1,none⟩=some (.slice (some ⟨gh,0,none⟩) c hc):=by have:=R0.bw.c1;rw[t.fit.len]at this;exact this
  have c35:=(R0.bw.row.cell eh (by omega)).trans (aW jM 3);have hbr:=R0.bw.ay;by_cases hlt:j<n
  ·by_cases hst:(at' s' k).state=0
   ·have QW:Hid (∀W:World,Gr wr W->Calls prog 56 #[.pointer (some ⟨g,0,none⟩),.int .i64 k] W fun e w'=>e=.returned (.tuple #[])/\Rc w' base g (bW s' k) (kF++[eH s' k])/\Fk base W w'):=fun W G=>by
     have t:=HT.out;have:=t.ul;have:=t.ol;have:=t.sl;exact Pv (Bo.out.of G) (uX HTT.out (HFK.out.below.trans (aun G hbr))) t.fit lU hk hc4 hst (by omega) (by omega) (by omega)
    have HTn:=kH (HT.out.on hk hlt hst);rw[hst]at c35;go_wp2_with fail;go_quiet (fail);go_wp2_with fail;refine(QW.out _ ((Gr.refl _).drewN _)).mono ?_;rintro e w2 ⟨rfl,R2,F2⟩;have HR2:=kH R2;have pX:=kH (HFK.out.trans ((Fk.bD ((Gr.refl wr).drewN _) hbr).trans F2));have ny:=kH (F2.row HP.out (by decide) (by decide) (by decide) (by decide));go_wp2_with fail;go_roundw
    case rel=>exact⟨j+1,_,_,by go_num,HTn.out,HR2.out,pX.out,ny.out⟩
    case measure=>simp[intOf];omega
   ·have Xm:Hid (Rc wr base g (runs s k n) (us++gD s (vR s k n))):=by
     obtain⟨e1,e2⟩:=HT.out.stop (.inl hst);rw[e1,e2];exact Bo.out
    have hne:((at' s' k).state ==0)=false:=by simpa using hst
    have hne2:((at' s' k).state !=0)=true:=by simpa using hst
    generalize(at' s' k).state=st at *
    go_wp2_with fail;go_quiet (fail);go_wp2_with fail;refine auc (auV results23 _ _ _) rfl ?_;exact⟨rfl,Xm.out.of ((Gr.refl _).drewN _),HFK.out.trans (Fk.bD ((Gr.refl wr).drewN _) hbr)⟩
  ·have Xm:Hid (Rc wr base g (runs s k n) (us++gD s (vR s k n))):=by
    obtain⟨e1,e2⟩:=HT.out.stop (.inr (by omega));rw[e1,e2];exact Bo.out
   generalize(at' s' k).state=st at *
   go_wp2_with fail;go_end0;exact⟨rfl,Xm.out,HFK.out⟩
end Ud
end Go.Proofs.YtiadhbmnfjfioaaGreatDoor
