/- ours -/
import Derived.Test.YtiadhbmnfjfioaaGreatDoorX17
set_option linter.unusedVariables false
set_option linter.unusedSimpArgs false
set_option maxHeartbeats 8000000
set_option maxRecDepth 100000
set_option linter.unusedSectionVars false
namespace Go.Proofs.YtiadhbmnfjfioaaGreatDoor
open Go.Proofs.Tryz hiding t1
open Go.ChangeShapes Go.WideShapes Go.ChangeAt Go.RowKit
variable{t:List (List Nat)}{l Wd L a:List Nat}{x:Nat}
variable [Inhabited Hc.bN]
namespace Vp
open Mm Hh Hc Mc Ud As
variable{p:Pl}
theorem CE:∀(l:List Nat) (Wd:List Nat),(∀x∈l,x<9223372036854775808)→(bH Wd l).length≤Wd.length+41*l.length
 | [],Wd,_=>by simp[bH]
 |x::r,Wd,h=>by
  have ih:=CE r (Wd++32::dg x) fun y hy=>h y (by simp[hy])
  have e:bH Wd (x::r)=bH (Wd++32::dg x) r:=rfl;have:=nR (h x aq);rw[e];simp only[apo,apH]at ih ⊢;omega
theorem qp (h:∀x∈l,x<9223372036854775808)(h1:Wd.length<=1000)(h2:l.length<=200000):(bH Wd l).length<=100000000:=by have:=CE l Wd h;omega
theorem Wq {op rd a b n:Int}(h:Re.XK op rd a b n)(n0 : -2147483648<=n)(n1:n<2147483648):(vX op rd a b n).length<=300:=by
 have h1:=z8 h.1.1 h.1.2.1 n;have h2:=qo (Ic.of h n0 n1) (jU op);have h3:=zM op;unfold vX;rw[Aa h.1.1 h.1.2.1,apo];unfold nV;split
 ·simp;omega
 ·simp only[apH];omega
theorem Ig {p:Pl}(o:lg p)(us:List Uv)(fr:Bool):(nJ p us fr).2.length<=100000000:=by
 unfold nJ;split
 ·rename_i hw;have q:=PU o hw;show(UQ _).length<=_
  refine qp (fun x hx=>?_) an ?_
  ·rcases apx.1 hx with rfl|hx
   ·have:=q.st;omega
   ·obtain⟨y,hy,rfl⟩:=apK.1 hx;have:=q.w y hy;omega
  ·have h1:=q.few;have h2:=q.st;simp only[apH,apY];omega
 ·have:=mI p.m p.hs p.ps;exact qp (fun x hx=>by rw[apE.1 hx];omega) an aq
theorem sU (h:x<9223372036854775808)(h1:Wd.length<=1000):(bH Wd [x]).length<=100000000:=qp (fun y hy=>by rw[apE.1 hy];exact h) h1 aq
theorem Ws (o:lg p)(w:List Nat)(hl:∀n∈l,n<4294967296):(OQ p w l).2.length<=100000000:=by
 have q:aQ.length<=100000000:=an;unfold OQ;split
 ·unfold iL;split
  ·exact q
  ·exact sU ab an
 split
 ·match l,hl with
  | [],_=>exact q
  | [pc],hl=>
   have:=o.h4;simp only[uV];split
   ·exact sU ab an
   ·exact q
  |_::_::_,_=>exact q
 split
 ·match l,hl with
  | [],_=>exact q
  | [_],_=>exact q
  | [_,_],_=>exact q
  | [k,r,x],hl=>
   simp only[Cg];split
   ·show Cf.length<=_;decide
   ·exact q
  |_::_::_::_::_,_=>exact q
 split
 ·match l,hl with
  | [],_=>exact q
  | [_],_=>exact q
  | [k,n],hl=>
   have:=o.p3;simp only[uW];split
   ·exact sU ab an
   ·exact q
  |_::_::_::_,_=>exact q
 split
 ·match l with
  | []=>exact Ig o _ _
  |_::_=>exact q
 split
 ·match l with
  | []=>exact q
  | [room]=>
   simp only[rR];split
   ·exact sU ab an
   ·exact Ig (p:={ p with fr:=false }) o.old _ _
  |_::_::_=>exact q
 split
 ·match l with
  | []=>exact q
  | [k]=>
   show(vR p [k]).length<=_
   simp only[vR];split
   ·rename_i hk;obtain⟨a,b⟩:=o.hok _ (sP hk);have ms:0<=(hAt p k).state/\(hAt p k).state<=2/\0<=(hAt p k).cause/\(hAt p k).cause<=6:=by
     unfold may at b;simp only[auk]at b;omega
    have h1:=a.jV;have h2:=a.len;have h3:=nR (x:=(hAt p k).state.toNat) ab;refine qp (fun x hx=>?_) ab (by simp only[apH,apY];omega);rcases apx.1 hx with rfl|hx
    ·omega
    ·rcases apx.1 hx with rfl|hx
     ·omega
     ·obtain⟨y,hy,rfl⟩:=apK.1 hx;obtain⟨i,hi⟩:=aqe.1 hy;have e:Hh.rg (hAt p k) i=y:=by unfold Hh.rg;rw[apV,hi];rfl
      have:=(a.reg i).2;omega
   ·exact q
  |_::_::_=>exact q
 split
 ·match l,hl with
  | [],_=>exact q
  | [x],hl=>
   have hx:=hl x aq;show(nP [x]).length<=_
   simp only[nP];split
   ·decide
   ·obtain⟨x0,x1,x2,x3,x4,Q⟩:=Qj hx;have:=Q.b0;have:=Q.b1;have:=Q.b2;have:=Q.b3;have:=Q.b4;rw[Q.e4,Q.e3,Q.e2,Q.e1,Q.e0];simp only[apG];refine qp (fun y hy=>?_) an aq;simp only[apx,apB,auw]at hy;rcases hy with rfl|rfl|rfl|rfl|rfl<;>omega
  |_::_::_,_=>exact q
 split
 ·match l,hl with
  | [],_=>exact q
  | [pc],hl=>
   have hx:=hl pc aq;show(mF p [pc]).length<=_
   by_cases hf:Bk.jR p.m pc=0
   ·obtain⟨r,hr⟩:=(zN (l:=p.m) (pc:=(pc:Int)) ab ab).2 hf;simp only[mF,hr];have wx:=W.aN p.m 13 (pc:Int);have hd:¬Dc.aO (aN p.m 13 pc)=0:=by
     unfold Bk.jR at hf;split at hf
     ·split at hf
      ·cases hf
      ·assumption
     ·cases hf
    have ib:=yF (Dc.aJ (Dc.aO (aN p.m 13 pc))) wx.1 wx.2;have:=Wq (Ie wx.1 wx.2 hd) ib.1 ib.2;show(zw _).length<=_
    unfold zw;omega
   ·have hr:=(zN (l:=p.m) (pc:=(pc:Int)) ab ab).1 hf;simp only[mF,hr];decide
  |_::_::_,_=>exact q
 split
 ·match l with
  | []=>exact q
  | [n]=>
   simp only[kW];split
   ·show Cf.length<=_;decide
   ·exact q
  |_::_::_=>exact q
 split
 ·match l with
  | []=>exact q
  | [x]=>
   show(dg _).length<=_
   have h16:=(Ts.fM p.m x 16 0).1;have:=nR (x:=(Bk.blk p.m x 16 0).length) ab;omega
  |_::_::_=>exact q
 ·exact q
theorem QN (o:lg p)(hl:∀d∈L,d<256)(hs:L.length<=4000000):(nQ p L).2.length<=100000000:=by
 unfold nQ;cases hn:gu (splitN 32 L).tail with
 |none=>show aQ.length<=_;decide
 |some l=>exact Ws o _ (zx hn)
end Vp
namespace Vp
open Mm Hh Hc Mc Ud As
variable{w w' W W' W0:World}{S R A:List Nat}{j:Nat}{p:Pl}{M H P U v:Value}{k1:Nat}
theorem KF:iM []=[]:=rfl
theorem Wu (h:List Nat)(ht:t≠[]):(if(h::t).getLast?=some []then(h::t).dropLast else h::t)=h::(if t.getLast?=some []then t.dropLast else t):=by
 cases t with
 |nil=>exact absurd rfl ht
 |cons y z=>
  have e:(h::y::z).getLast?=(y::z).getLast?:=List.getLast?_cons_cons;by_cases hg:(y::z).getLast?=some ([]:List Nat)
  ·rw[at7 (e.trans hg),at7 hg];rfl
  ·rw[at6 (fun q=>hg (e.symm.trans q)),at6 hg]
theorem KG (hl:∀d∈R,d<256)(hn:R≠[]):iM R=(bO 10 R).1::iM (bO 10 R).2.1:=by
 by_cases h:10∈R
 ·obtain⟨s1,s2,s3,s4,s5,s6⟩:=mG (c:=10) ab hl;cases ht:(bO 10 R).2.2 with
  |true=>
   obtain⟨e,_⟩:=s5 ht;have e3:splitN 10 R=(bO 10 R).1::splitN 10 (bO 10 R).2.1:=by rw[e,s1];exact mD 10 R
   unfold iM;rw[e3];exact Wu _ (qi _ _)
  |false=>
   exfalso;obtain⟨A,B,e0,_,e2⟩:=GL (c:=10) ab R hl h;obtain⟨e,_⟩:=s6 ht;rw[e2]at e;exact qi 10 B (by simpa using e)
 ·obtain⟨_,e2⟩:=zA (c:=10) ab R hl h;have ec:bO 10 R=(R,[],false):=by unfold bO;rw[e2]
  rw[ec];unfold iM;rw[e2];have:¬(some R=some ([]:List Nat)):=fun e=>hn (by injection e)
  simp[this,splitN]
structure Lc (W0:World) (S:List Nat) (W:World) (A:List Nat) (p:Pl) (M H P U v:Value) (k1:Nat):Prop where
 pr:@Pr ⟨⟨k1⟩⟩ 71 W0.heap.size W W0.heap.size M H P U p
 bv:Bv W0.heap.size (W0.heap.size+1) v (Lib.byteCells (A.map UInt8.ofNat)) W
 kk:(∀k,v.ownBlock=some k->k=k1)/\W0.heap.size≠k1/\k1<W.heap.size
 ap:∀k,Dm W0.heap.size M H P k->¬Db (W0.heap.size+1) v k
 fr:Below W0.heap.size W0 W
def Lp (W0:World) (S:List Nat) (j:Nat) (R:List Nat) (W:World):Prop:=∃A p M H P U v k1,Lc W0 S W A p M H P U v k1/\((∀d∈R,d<256)/\R.length<=4000000)/\A.length<=j*100000001/\jH S=A++ans p ((iM R).take (40-j))
def Lq (W0:World) (S:List Nat) (j:Nat) (R a:List Nat) (W:World):Prop:=∃A p M H P U v k1,Lc W0 S W A p M H P U v k1/\((∀d∈R,d<256)/\R.length<=4000000)/\A.length<=j*100000001/\a.length<=100000000/\jH S=A++(a++10::ans p ((iM R).take (40-(j+1))))
theorem Lc.gr (h:Lc W0 S W A p M H P U v k1)(G:Gr W W'):Lc W0 S W' A p M H P U v k1:=by have hl:=h.fr.size;obtain⟨b1,b2⟩:=h.bv.fx (Fx.bD (D:=fun _=>False) G) (fun k hk=>hk.elim);exact⟨@Pr.gr ⟨⟨k1⟩⟩ _ _ _ _ _ _ _ _ _ _ h.pr G,b1,⟨h.kk.1,h.kk.2.1,apq h.kk.2.2 G.size⟩,h.ap,auI h.fr (aun G hl)⟩
theorem Lp.gr (h:Lp W0 S j R W)(G:Gr W W'):Lp W0 S j R W':=by obtain⟨A,p,M,H,P,U,v,k1,c,r⟩:=h;exact⟨A,p,M,H,P,U,v,k1,c.gr G,r⟩
def T0 (W0:World):Prop:=En.nI W0.heap.size W0/\gz W0/\Lj W0
theorem Lp.ask (T:T0 W0)(h:Lp W0 S j R W)(hR:R≠[])(hj:j<40):Calls prog 20 #[.pointer (some ⟨W0.heap.size,0,none⟩),str (bO 10 R).1] W fun e w'=>∃a,e=.returned (str a)/\Lq W0 S j (bO 10 R).2.1 a w':=by
 obtain⟨A,p,M,H,P,U,v,k1,c,⟨r1,r2⟩,hA,hS⟩:=h;obtain⟨s1,s2,s3,s4,s5,s6⟩:=mG (c:=10) ab r1;have hGr:=c.fr;have Tz':@Tz ⟨⟨k1⟩⟩ W0.heap.size W:=⟨⟨W0,rfl,T.1,T.2.1,T.2.2,hGr⟩,c.kk.2.2⟩;have hlen:(bO 10 R).2.1.length<=4000000:=by
  cases ht:(bO 10 R).2.2 with
  |true=>have:=(s5 ht).2;omega
  |false=>rw[(s6 ht).2];simp
 refine(@EY ⟨⟨k1⟩⟩ W W0.heap.size W0.heap.size M H P U p (bO 10 R).1 s2 ab c.pr Tz').mono ?_;rintro e w' ⟨rfl,M',H',P',U',X,F⟩;obtain⟨b1,b2⟩:=c.bv.fx F c.ap;refine⟨_,rfl,A,(nQ p (bO 10 R).1).1,M',H',P',U',v,k1,⟨X,b1,⟨c.kk.1,c.kk.2.1,apq c.kk.2.2 F.size⟩,b2,auI c.fr (F.below (fun k hk=>(@Pr.dom ⟨⟨k1⟩⟩ _ _ _ _ _ _ _ _ _ c.pr k hk).1) c.fr.size)⟩,⟨s3,hlen⟩,hA,QN (@Pr.ok ⟨⟨k1⟩⟩ _ _ _ _ _ _ _ _ _ c.pr) s2 ab,?_⟩;rw[hS,KG r1 hR,show 40-j=(40-(j+1))+1 by omega,ara];rfl
theorem Lq.say (h:Lq W0 S j R a W)(hj:j<40):Calls prog 19 #[.pointer (some ⟨W0.heap.size+1,0,none⟩),str (a++[10])] W fun e w'=>(∃u,e=.returned u)/\Lp W0 S (j+1) R w':=by
 obtain⟨A,p,M,H,P,U,v,k1,c,r,hA,ha,hS⟩:=h;have hsz:(bs (a++[10])).size=a.length+1:=by rw[dz];simp
 refine(QM (bs (a++[10])) c.bv (by rw[Lib.byteCells_length,apY,hsz];omega) c.fr.size).mono ?_;rintro e w' ⟨rfl,v',b1,F⟩;obtain⟨k2,q1,q2,q3⟩:∃k2,(∀k,v'.ownBlock=some k->k=k2)/\(k2=k1\/W.heap.size<=k2)/\k2<w'.heap.size:=by
  cases hv:v'.ownBlock with
  |none=>exact⟨k1,(fun k e=>by cases e),.inl rfl,apq c.kk.2.2 F.size⟩
  |some k=>
   refine⟨k,(fun k' e=>by injection e with e;exact e.symm),?_,?_⟩
   ·rcases F.dom k (.inr hv)with(h|h)|h
    ·exfalso;obtain⟨_,_,_,_,_,hne⟩:=b1;exact hne (by rw[hv,h])
    ·exact .inl (c.kk.1 k h)
    ·exact .inr h
   ·obtain⟨_,_,_,_,ho,_⟩:=b1;exact(ho.lt k hv).2
 obtain⟨X,ap⟩:=Pr.wr (k2:=k2) c.pr c.bv F c.kk.1 q2 c.kk.2.1 c.ap;have hgs:=(gs (@Pr.blk ⟨⟨k1⟩⟩ _ _ _ _ _ _ _ _ _ c.pr)).1;have e1:Lib.byteCells (A.map UInt8.ofNat)++Lib.strCells (bs (a++[10]))=Lib.byteCells ((A++(a++[10])).map UInt8.ofNat):=by
  rw[Lib.strCells_eq,bU];simp[Lib.byteCells]
 rw[e1]at b1;refine⟨⟨_,rfl⟩,A++(a++[10]),p,M,H,P,U,v',k2,⟨X,b1,⟨q1,?_,q3⟩,ap,auI c.fr (F.below (fun k hk=>?_) c.fr.size)⟩,r,?_,?_⟩
 ·rcases q2 with rfl|q2
  ·exact c.kk.2.1
  ·omega
 ·obtain⟨_,_,hb,_,ho,_⟩:=c.bv;rcases hk with rfl|hk
  ·exact hb
  ·exact(ho.lt k hk).1
 ·simp only[apo,apW];rw[Nat.add_mul];omega
 ·rw[hS];simp
theorem Lp.stop (h:Lp W0 S j R W)(hj:j=40\/R=[]):Calls prog 21 #[.pointer (some ⟨W0.heap.size+1,0,none⟩)] W fun e w'=>e=.returned (str (jH S))/\Gr W0 w':=by
 obtain⟨A,p,M,H,P,U,v,k1,c,r,hA,hS⟩:=h;have e:jH S=A:=by
  rw[hS];rcases hj with rfl|rfl
  ·simp[ans]
  ·rw[KF];simp[ans]
 rw[e];refine(Tryz.Builder_String_any_k W0.heap.size (W0.heap.size+1) (A.map UInt8.ofNat) W c.bv.is c.fr.size).mono ?_;rintro e w' ⟨rfl,_,hb,_⟩;exact⟨rfl,auI c.fr hb⟩
theorem Lp.start (hl:∀d∈S,d<256)(hs:S.length<=4000000)(e1:W.heap[W0.heap.size]?=some (.cells #[.slice none 0 0,.slice none 0 0,.slice none 0 0,.slice none 0 0,.bool false] 71 (0,0)))(e2:W.heap[W0.heap.size+1]?=some (.cells #[.pointer none,.slice none 0 0] 74 (0,0)))(G:Gr W0 W):Lp W0 S 0 S W:=by
 have hz:=(gs e2).1;refine⟨[],pl0,.slice none 0 0,.slice none 0 0,.slice none 0 0,.slice none 0 0,.slice none 0 0,W0.heap.size+1,⟨?_,⟨_,.inl rfl,ab,e2,World.ownsRowF_nil _ _ _ _,fun h=>(by cases h)⟩,⟨fun k h=>(by cases h),ab,hz⟩,?_,G⟩,⟨hl,hs⟩,aq,rfl⟩
 ·exact @Pr.mk ⟨⟨_⟩⟩ _ _ _ _ _ _ _ _ _ ⟨an,an,an⟩ (apn _) e1 (aaT _ _) aat ⟨W.heap.size,G.size,apn _,aur _ _ _ _,fun h=>(by cases h)⟩ ⟨_,_,_,rfl⟩
 ·rintro k (rfl|h|h|h) (h2|h2)
  ·omega
  ·cases h2
  ·cases h
  ·cases h
  ·cases h
  ·cases h
  ·cases h
  ·cases h
theorem vk (hl:∀d∈S,d<256)(hs:S.length<=4000000)(T:T0 w):Calls prog 7 #[str S] w fun e w'=>e=.returned (str (jH S))/\Gr w w':=by
 have HT:=kH T;have HC:Hid (∀(M:List Nat),(∀d∈M,d<256)->M.length<=4000000->∀W:World,_):=fun M h1 h2 W=>GM (.inr rfl) h1 ab W
 have aY:Hid (∀W:World,W.heap[w.heap.size]?=some (.cells #[.slice none 0 0,.slice none 0 0,.slice none 0 0,.slice none 0 0,.bool false] 71 (0,0))/\W.heap[w.heap.size+1]?=some (.cells #[.pointer none,.slice none 0 0] 74 (0,0))/\Gr w W->Lp w S 0 S W):=fun W ⟨a,b,c⟩=>Lp.start hl hs a b c
 clear T hl hs;generalize hV:str (jH S)=V at *
 have HV:Hid (str (jH S)=V):=hV;clear hV;rw[show str S=.string (bs S)from rfl];have HSB:Hid (str S=.string (bs S)):=rfl;generalize bs S=BS at *
 go_enter func7,ntmps7;go_wp2_with fail;refine JW (fun W=>W.heap[w.heap.size]?=some (.cells #[.slice none 0 0,.slice none 0 0,.slice none 0 0,.slice none 0 0,.bool false] 71 (0,0))/\W.heap[w.heap.size+1]?=some (.cells #[.pointer none,.slice none 0 0] 74 (0,0))/\Gr w W) ⟨?fa,?fb,?fc⟩ ?_
 case fa=>exact Hr.ae br (at5 w _)
 case fb=>have:=at5 (w.alloc (.cells #[.slice none 0 0,.slice none 0 0,.slice none 0 0,.slice none 0 0,.bool false] 71)) (.cells #[.pointer none,.slice none 0 0] 74);simpa using this
 case fc=>exact br.alloc _
 rintro W1 hW1;have HL0:Hid (Lp w S 0 S W1):=aY W1 hW1;clear hW1 aY;go_loopw [5,8] (fun r i wr=>∃(j:Nat) (R:List Nat),r=str R/\i=.int .i64 j/\j<=40/\Lp w S j R wr) (fun _ i _=>40-(intOf i).toNat)
 case atStart=>exact⟨0,S,HSB.symm,rfl,ab,HL0⟩
 case round=>
  obtain⟨j,R,rfl,rfl,hj,L⟩:=hrel;have HL:=kH L;by_cases hlt:j<40
  ·have hlt':(j:Int)<40:=ab;by_cases hR:R=[]
   ·have HZ:Hid (Calls prog 21 #[.pointer (some ⟨w.heap.size+1,0,none⟩)] wr fun e w'=>e=.returned V/\Gr w w'):=by
     have:=Lp.stop HL (.inr hR);rwa[HV.out]at this
    subst hR;rw[show str []=.string ⟨#[]⟩from rfl];go_wp2_with fail;refine HZ.mono ?_;rintro e w2 ⟨rfl,G⟩;go_wp2_with fail;go_ret;exact⟨rfl,G⟩
   ·have HR:=kH hR;have hne:((bs R).toList ==[])=false:=by
     rw[aqs,bU,aub];exact fun e=>hR (List.map_eq_nil_iff.1 e)
    have oQ:Hid (Calls prog 18 #[.string (bs R),.string ⟨#[10]⟩] wr fun e w'=>e=.returned (.tuple #[str (bO 10 R).1,str (bO 10 R).2.1,.bool (bO 10 R).2.2])/\Gr wr w'):=by
     obtain⟨_,_,_,_,_,_,_,_,_,⟨r1,r2⟩,_⟩:=HL;exact HC R r1 r2 wr
    have HA:Hid (∀W:World,Gr wr W->Calls prog 20 #[.pointer (some ⟨w.heap.size,0,none⟩),str (bO 10 R).1] W fun e w'=>∃a,e=.returned (str a)/\Lq w S j (bO 10 R).2.1 a w'):=fun W G=>(HL.gr G).ask HT HR hlt
    rw[show str R=.string (bs R)from rfl];generalize bs R=BR at *
    generalize(bO 10 R).2.1=R1 at *
    generalize(bO 10 R).2.2=t1 at *
    generalize(bO 10 R).1=P1 at *
    obtain⟨VP,hVP⟩:∃VP:ByteArray,VP=bs P1:=⟨_,rfl⟩;rw[show str P1=.string VP by rw[hVP];rfl]at *
    clear hVP;go_wp2_with fail;refine oQ.mono ?_;rintro e w2 ⟨rfl,G2⟩;have HG2:Hid (Gr wr w2):=G2;clear G2;go_wp2_with fail;refine(HA _ HG2).mono ?_;rintro e w3 ⟨a,rfl,Q⟩;have HW:=kH (Q.say hlt);have ai7:Hid (Value.string (bs a++⟨#[10]⟩)=str (a++[10])):=mP a [10];have hBA:(bs a).size<=100000000:=by
     obtain⟨_,_,_,_,_,_,_,_,_,_,_,h,_⟩:=Q;rw[dz];exact h
    rw[show str a=.string (bs a)from rfl];generalize bs a=BA at *
    go_wp2_with fail;rw[ai7.out];refine HW.mono ?_;rintro e w4 ⟨⟨u,rfl⟩,L4⟩;have Ue:=kH L4;go_wp2_with fail;go_roundw
    case rel=>exact⟨j+1,R1,rfl,by go_num,ab,Ue⟩
    case measure=>simp[intOf];omega
  ·have hlt':¬(j:Int)<40:=ab;have HZ:Hid (Calls prog 21 #[.pointer (some ⟨w.heap.size+1,0,none⟩)] wr fun e w'=>e=.returned V/\Gr w w'):=by
    have:=Lp.stop HL (.inl ab);rwa[HV.out]at this
   go_wp2_with fail;refine HZ.mono ?_;rintro e w2 ⟨rfl,G⟩;go_wp2_with fail;go_ret;exact⟨rfl,G⟩
end Vp
namespace Vp
open Mm Hh Hc Mc Ud As
variable{w w':World}
theorem T0.gr (T:T0 w)(G:Gr w w'):T0 w':=by obtain⟨h1,h2,h3⟩:=T;have h:=h1.below G;have s:=G.size;exact⟨⟨h.tt' s,h.tr,apq h.trb s,h.ts' s,h.tq,apq h.tqb s⟩,h2.of G,h3.of G⟩
theorem abI {A B:List Nat}(ha:∀d∈A,d<256)(hb:∀d∈B,d<256)(hz:A.length+B.length<=3000000)(T:T0 w):Calls prog 4 #[.string (bs A),.string (bs B)] w fun e w'=>e=.returned (.bool true)/\Gr w w':=by
 have H1:Hid (∀W:World,Gr w W->Calls prog 7 #[str (A++[10])] W fun e w'=>e=.returned (str (jH (A++[10])))/\Gr W w'):=fun W G=>vk (fun d hd=>by
  rcases apR.1 hd with h|h
  ·exact ha d h
  ·rw[apE.1 h];omega) aE (T.gr G)
 have H2:Hid (∀W:World,Gr w W->Calls prog 7 #[str ((A++[10])++B)] W fun e w'=>e=.returned (str (jH ((A++[10])++B)))/\Gr W w'):=fun W G=>vk (fun d hd=>by
  rcases apR.1 hd with h|h
  ·rcases apR.1 h with h|h
   ·exact ha d h
   ·rw[apE.1 h];omega
  ·exact hb d h) aE (T.gr G)
 have H3:Hid (∀W:World,Gr w W->Calls prog 7 #[.string ⟨#[63]⟩] W fun e w'=>e=.returned (.string ⟨#[63,10]⟩)/\Gr W w'):=fun W G=>by
  have:=vk (w:=W) (S:=[63]) aq aq (T.gr G);rwa[aar]at this
 obtain⟨r,hr⟩:=UR A B;rw[show A++10::B=(A++[10])++B by simp]at hr;rw[hr]at H2;have e1:Value.string (bs A++⟨#[10]⟩)=str (A++[10]):=mP A [10];have e2:Value.string (bs (A++[10])++bs B)=str ((A++[10])++B):=mP _ _;have s1:(bs A).size<=3000000:=by rw[dz];omega
 have s2:(bs B).size<=3000000:=by rw[dz];omega
 have s3:(bs (A++[10])).size<=3000001:=by rw[dz];simp;omega
 generalize jH (A++[10])=P1 at *
 have hle:(bs P1).size<=(bs (P1++r)).size:=by rw[dz,dz];simp
 have hsl:(bs (P1++r)).extract 0 (bs P1).size=bs P1:=by
  apply nU;rw[dz,bU];simp[ByteArray.extract,ByteArray.copySlice,bs]
 rw[show str P1=.string (bs P1)from rfl]at H1;rw[show str (P1++r)=.string (bs (P1++r))from rfl]at H2;generalize bs (P1++r)=S2 at *
 generalize bs P1=S1 at *
 generalize hA1:str (A++[10]++B)=VAB at *
 rw[show str (A++[10])=.string (bs (A++[10]))from rfl]at *
 generalize bs (A++[10])=A1 at *
 generalize bs A=A0 at *
 generalize bs B=B0 at *
 go_enter func4,ntmps4;go_wp2_with fail;refine(H1 _ (Gr.refl _)).mono ?_;rintro e w1 ⟨rfl,G1⟩;have aU:=kH G1;go_wp2_with fail;refine(H2 _ aU).mono ?_;rintro e w2 ⟨rfl,G2⟩;have HG2:=kH (aU.trans G2);go_wp2_with fail;refine(H3 _ HG2).mono ?_;rintro e w3 ⟨rfl,G3⟩;have fQ:=kH (HG2.trans G3);go_wp2_with fail;go_ret;exact⟨rfl,fQ⟩
end Vp
end Go.Proofs.YtiadhbmnfjfioaaGreatDoor
