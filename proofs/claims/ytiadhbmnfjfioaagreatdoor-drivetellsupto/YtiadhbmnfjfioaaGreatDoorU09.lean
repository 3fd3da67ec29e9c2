/- ours -/
import Derived.Test.YtiadhbmnfjfioaaGreatDoorU08
set_option linter.unusedVariables false
set_option linter.unusedSimpArgs false
set_option maxHeartbeats 8000000
set_option maxRecDepth 100000
set_option linter.unusedSectionVars false
namespace Go.Proofs.YtiadhbmnfjfioaaGreatDoor
open Go.Value (int slice pointer agg tuple string)
open Go.IntKind (i64 i32)
open Go.Ending (returned)
open Go.Obj (cells)
open Go.Operand (tmp)
open Go.Proofs.Tryz hiding cs d0 d1 d2 d3 d4 t1
open Go.ChangeShapes Go.WideShapes Go.ChangeAt Go.RowKit
variable{K:Act->World->Prop}{ops:Array Oper}{args:Array Value}{R:Ending->World->Prop}{z:Int}{t D r WS:List (List Nat)}{a l L s:List Nat}{q:List Nat×Nat}{x c e n mc hc i k x0 N x1 j ty x2 g B:Nat}{f:Nat×Nat}{o:Oper}{oa ma:Option Addr}{E:Prop}{V fr M H P U:Value}{w w':World}{F:World->Prop}
variable [Inhabited Hc.bH]
namespace Vp
open Mm Hh Hc Mc Ud As
variable{w w' W W' W0:World}{S R A:List Nat}{j:Nat}{p:Pl}{M H P U v:Value}{k1:Nat}
theorem Nf:fU []=[]:=rfl
theorem YN (h)(ht:t≠[]):(if(h::t).getLast?=some []then(h::t).dropLast else h::t)=h::(if t.getLast?=some []then t.dropLast else t):=by
 cases t with
 |nil=>exact absurd rfl ht
 |cons y z=>
  have e:(h::y::z).getLast?=(y::z).getLast?:=List.getLast?_cons_cons;by_cases hg:(y::z).getLast?=some ([]:List Nat)
  ·rw[awn (e.trans hg),awn hg];rfl
  ·rw[awm (fun q=>hg (e.symm.trans q)),awm hg]
theorem Ng (hl:∀d∈R,d<256)(hn:R≠[]):fU R=(bT 10 R).1::fU (bT 10 R).2.1:=by
 by_cases h:10∈R
 ·obtain⟨s1,s2,s3,s4,s5,s6⟩:=nR (c:=10) ab hl;cases ht:(bT 10 R).2.2 with
  |true=>
   obtain⟨e,_⟩:=s5 ht;have e3:splitN 10 R=(bT 10 R).1::splitN 10 (bT 10 R).2.1:=by rw[e,s1];exact ji 10 R
   unfold fU;rw[e3];exact YN _ (nP _ _)
  |false=>
   exfalso;obtain⟨A,B,e0,_,e2⟩:=Jy (c:=10) ab R hl h;obtain⟨e,_⟩:=s6 ht;rw[e2]at e;exact nP 10 B (by simpa using e)
 ·obtain⟨_,e2⟩:=Bg (c:=10) ab R hl h;have ec:bT 10 R=(R,[],false):=by unfold bT;rw[e2]
  rw[ec];unfold fU;rw[e2];have:¬(some R=some ([]:List Nat)):=fun e=>hn (by injection e)
  simp[this,splitN]
structure Lc (W0:World) (S:List Nat) (W:World) (A:List Nat) (p:Pl) (M H P U v:Value) (k1:Nat):Prop where
 pr:@Pr ⟨⟨k1⟩⟩ 71 W0.heap.size W W0.heap.size M H P U p
 bv:Bv W0.heap.size (W0.heap.size+1) v (Lib.byteCells (A.map UInt8.ofNat)) W
 kk:(∀k,v.ownBlock=some k->k=k1)/\W0.heap.size≠k1/\k1<W.heap.size
 ap:∀k,Dm W0.heap.size M H P k->¬Db (W0.heap.size+1) v k
 fr:Below W0.heap.size W0 W
def Lp (W0:World) (S:List Nat) (j:Nat) (R:List Nat) (W:World):Prop:=∃A p M H P U v k1,Lc W0 S W A p M H P U v k1/\((∀d∈R,d<256)/\R.length<=4000000)/\A.length<=j*100000001/\rA S=A++ans p ((fU R).take (40-j))
def Lq (W0:World) (S:List Nat) (j:Nat) (R a:List Nat) (W:World):Prop:=∃A p M H P U v k1,Lc W0 S W A p M H P U v k1/\((∀d∈R,d<256)/\R.length<=4000000)/\A.length<=j*100000001/\a.length<=100000000/\rA S=A++(a++10::ans p ((fU R).take (40-(j+1))))
theorem Lc.gr (h:Lc W0 S W A p M H P U v k1)(G:Gr W W'):Lc W0 S W' A p M H P U v k1:=by have hl:=h.fr.size;obtain⟨b1,b2⟩:=h.bv.fx (Fx.aJ (D:=fun _=>False) G) (fun k hk=>hk.elim);exact⟨@Pr.gr ⟨⟨k1⟩⟩ _ _ _ _ _ _ _ _ _ _ h.pr G,b1,⟨h.kk.1,h.kk.2.1,arD h.kk.2.2 G.size⟩,h.ap,aw2 h.fr (awH G hl)⟩
theorem Lp.gr (h:Lp W0 S j R W)(G:Gr W W'):Lp W0 S j R W':=by obtain⟨A,p,M,H,P,U,v,k1,c,r⟩:=h;exact⟨A,p,M,H,P,U,v,k1,c.gr G,r⟩
def T0 (W0:World):Prop:=En.oZ W0.heap.size W0/\ig W0/\Oh W0
theorem Lp.ask (T:T0 W0)(h:Lp W0 S j R W)(hR:R≠[])(hj:j<40):Calls prog 20 #[pointer (some ⟨W0.heap.size,0,none⟩),str (bT 10 R).1] W fun e w'=>∃a,e=returned (str a)/\Lq W0 S j (bT 10 R).2.1 a w':=by
 obtain⟨A,p,M,H,P,U,v,k1,c,⟨r1,r2⟩,hA,hS⟩:=h;obtain⟨s1,s2,s3,s4,s5,s6⟩:=nR (c:=10) ab r1;have hGr:=c.fr;have Tz':@Tz ⟨⟨k1⟩⟩ W0.heap.size W:=⟨⟨W0,rfl,T.1,T.2.1,T.2.2,hGr⟩,c.kk.2.2⟩;have hlen:(bT 10 R).2.1.length<=4000000:=by
  cases ht:(bT 10 R).2.2 with
  |true=>have:=(s5 ht).2;omega
  |false=>rw[(s6 ht).2];simp
 refine(@Hm ⟨⟨k1⟩⟩ W W0.heap.size W0.heap.size M H P U p (bT 10 R).1 s2 ab c.pr Tz').mono ?_;rintro e w' ⟨rfl,M',H',P',U',X,F⟩;obtain⟨b1,b2⟩:=c.bv.fx F c.ap;refine⟨_,rfl,A,(pq p (bT 10 R).1).1,M',H',P',U',v,k1,⟨X,b1,⟨c.kk.1,c.kk.2.1,arD c.kk.2.2 F.size⟩,b2,aw2 c.fr (F.below (fun k hk=>(@Pr.dom ⟨⟨k1⟩⟩ _ _ _ _ _ _ _ _ _ c.pr k hk).1) c.fr.size)⟩,⟨s3,hlen⟩,hA,EI (@Pr.ok ⟨⟨k1⟩⟩ _ _ _ _ _ _ _ _ _ c.pr) s2 ab,?_⟩;rw[hS,Ng r1 hR,show 40-j=(40-(j+1))+1 by omega,atc];rfl
theorem Lq.say (h:Lq W0 S j R a W)(hj:j<40):Calls prog 19 #[pointer (some ⟨W0.heap.size+1,0,none⟩),str (a++[10])] W fun e w'=>(∃u,e=returned u)/\Lp W0 S (j+1) R w':=by
 obtain⟨A,p,M,H,P,U,v,k1,c,r,hA,ha,hS⟩:=h;have hsz:(bs (a++[10])).size=a.length+1:=by rw[df];simp
 refine(TJ (bs (a++[10])) c.bv (by rw[Lib.byteCells_length,asf,hsz];omega) c.fr.size).mono ?_;rintro e w' ⟨rfl,v',b1,F⟩;obtain⟨k2,q1,q2,q3⟩:∃k2,(∀k,v'.ownBlock=some k->k=k2)/\(k2=k1\/W.heap.size<=k2)/\k2<w'.heap.size:=by
  cases hv:v'.ownBlock with
  |none=>exact⟨k1,(fun k e=>by cases e),.inl rfl,arD c.kk.2.2 F.size⟩
  |some k=>
   refine⟨k,(fun k' e=>by injection e with e;exact e.symm),?_,?_⟩
   ·rcases F.dom k (.inr hv)with(h|h)|h
    ·exfalso;obtain⟨_,_,_,_,_,hne⟩:=b1;exact hne (by rw[hv,h])
    ·exact .inl (c.kk.1 k h)
    ·exact .inr h
   ·obtain⟨_,_,_,_,ho,_⟩:=b1;exact(ho.lt k hv).2
 obtain⟨X,ap⟩:=Pr.wr (k2:=k2) c.pr c.bv F c.kk.1 q2 c.kk.2.1 c.ap;have hgs:=(gs (@Pr.blk ⟨⟨k1⟩⟩ _ _ _ _ _ _ _ _ _ c.pr)).1;have e1:Lib.byteCells (A.map UInt8.ofNat)++Lib.strCells (bs (a++[10]))=Lib.byteCells ((A++(a++[10])).map UInt8.ofNat):=by
  rw[Lib.strCells_eq,bV];simp[Lib.byteCells]
 rw[e1]at b1;refine⟨⟨_,rfl⟩,A++(a++[10]),p,M,H,P,U,v',k2,⟨X,b1,⟨q1,?_,q3⟩,ap,aw2 c.fr (F.below (fun k hk=>?_) c.fr.size)⟩,r,?_,?_⟩
 ·rcases q2 with rfl|q2
  ·exact c.kk.2.1
  ·omega
 ·obtain⟨_,_,hb,_,ho,_⟩:=c.bv;rcases hk with rfl|hk
  ·exact hb
  ·exact(ho.lt k hk).1
 ·simp only[ary,ar4];rw[Nat.add_mul];omega
 ·rw[hS];simp
theorem Lp.stop (h:Lp W0 S j R W)(hj:j=40\/R=[]):Calls prog 21 #[pointer (some ⟨W0.heap.size+1,0,none⟩)] W fun e w'=>e=returned (str (rA S))/\Gr W0 w':=by
 obtain⟨A,p,M,H,P,U,v,k1,c,r,hA,hS⟩:=h;have e:rA S=A:=by
  rw[hS];rcases hj with rfl|rfl
  ·simp[ans]
  ·rw[Nf];simp[ans]
 rw[e];refine(Tryz.Builder_String_any_k W0.heap.size (W0.heap.size+1) (A.map UInt8.ofNat) W c.bv.is c.fr.size).mono ?_;rintro e w' ⟨rfl,_,hb,_⟩;exact⟨rfl,aw2 c.fr hb⟩
theorem Lp.start (hl:∀d∈S,d<256)(hs:S.length<=4000000)(e1:W.heap[W0.heap.size]?=some (cells #[slice none 0 0,slice none 0 0,slice none 0 0,slice none 0 0,.bool false] 71 (0,0)))(e2:W.heap[W0.heap.size+1]?=some (cells #[pointer none,slice none 0 0] 74 (0,0)))(G:Gr W0 W):Lp W0 S 0 S W:=by
 have hz:=(gs e2).1;refine⟨[],XD,slice none 0 0,slice none 0 0,slice none 0 0,slice none 0 0,slice none 0 0,W0.heap.size+1,⟨?_,⟨_,.inl rfl,ab,e2,World.ownsRowF_nil _ _ _ _,fun h=>(by cases h)⟩,⟨fun k h=>(by cases h),ab,hz⟩,?_,G⟩,⟨hl,hs⟩,aq,rfl⟩
 ·exact @Pr.mk ⟨⟨_⟩⟩ _ _ _ _ _ _ _ _ _ ⟨an,an,an⟩ (arA _) e1 (RY _ _) Rq ⟨W.heap.size,G.size,arA _,awG _ _ _ _,fun h=>(by cases h)⟩ ⟨_,_,_,rfl⟩
 ·rintro k (rfl|h|h|h) (h2|h2)
  ·omega
  ·cases h2
  ·cases h
  ·cases h
  ·cases h
  ·cases h
  ·cases h
  ·cases h
theorem TK (hl:∀d∈S,d<256)(hs:S.length<=4000000)(T:T0 w):Calls prog 7 #[str S] w fun e w'=>e=returned (str (rA S))/\Gr w w':=by
 have HT:=kH T;have HC:Hid (∀(M:List Nat),(∀d∈M,d<256)->M.length<=4000000->∀W:World,_):=fun M h1 h2 W=>Jz (.inr rfl) h1 ab W
 have bA:Hid (∀W:World,W.heap[w.heap.size]?=some (cells #[slice none 0 0,slice none 0 0,slice none 0 0,slice none 0 0,.bool false] 71 (0,0))/\W.heap[w.heap.size+1]?=some (cells #[pointer none,slice none 0 0] 74 (0,0))/\Gr w W->Lp w S 0 S W):=fun W ⟨a,b,c⟩=>Lp.start hl hs a b c
 clear T hl hs;generalize hV:str (rA S)=V at *
 have HV:Hid (str (rA S)=V):=hV;clear hV;rw[show str S=string (bs S)from rfl];have HSB:Hid (str S=string (bs S)):=rfl;generalize bs S=BS at *
 go_enter func7,ntmps7;go_wp2_with fail;refine JC (fun W=>W.heap[w.heap.size]?=some (cells #[slice none 0 0,slice none 0 0,slice none 0 0,slice none 0 0,.bool false] 71 (0,0))/\W.heap[w.heap.size+1]?=some (cells #[pointer none,slice none 0 0] 74 (0,0))/\Gr w W) ⟨?fa,?fb,?fc⟩ ?_
 case fa=>exact Hr.ae br (awk w _)
 case fb=>have:=awk (w.alloc (cells #[slice none 0 0,slice none 0 0,slice none 0 0,slice none 0 0,.bool false] 71)) (cells #[pointer none,slice none 0 0] 74);simpa using this
 case fc=>exact br.alloc _
 rintro W1 hW1;have Jk:Hid (Lp w S 0 S W1):=bA W1 hW1;clear hW1 bA;go_loopw [5,8] (fun r i wr=>∃(j:Nat) (R:List Nat),r=str R/\i=int i64 j/\j<=40/\Lp w S j R wr) (fun _ i _=>40-(intOf i).toNat)
 case atStart=>exact⟨0,S,HSB.symm,rfl,ab,Jk⟩
 case round=>
  obtain⟨j,R,rfl,rfl,hj,L⟩:=hrel;have HL:=kH L;by_cases hlt:j<40
  ·have hlt':(j:Int)<40:=ab;by_cases hR:R=[]
   ·have HZ:Hid (Calls prog 21 #[pointer (some ⟨w.heap.size+1,0,none⟩)] wr fun e w'=>e=returned V/\Gr w w'):=by
     have:=Lp.stop HL (.inr hR);rwa[HV.out]at this
    subst hR;rw[show str []=string ⟨#[]⟩from rfl];go_wp2_with fail;refine HZ.mono ?_;rintro e w2 ⟨rfl,G⟩;go_wp2_with fail;go_ret;exact⟨rfl,G⟩
   ·have HR:=kH hR;have hne:((bs R).toList ==[])=false:=by
     rw[ar1,bV,awr];exact fun e=>hR (atx.1 e)
    have jw:Hid (Calls prog 18 #[string (bs R),string ⟨#[10]⟩] wr fun e w'=>e=returned (tuple #[str (bT 10 R).1,str (bT 10 R).2.1,.bool (bT 10 R).2.2])/\Gr wr w'):=by
     obtain⟨_,_,_,_,_,_,_,_,_,⟨r1,r2⟩,_⟩:=HL;exact HC R r1 r2 wr
    have HA:Hid (∀W:World,Gr wr W->Calls prog 20 #[pointer (some ⟨w.heap.size,0,none⟩),str (bT 10 R).1] W fun e w'=>∃a,e=returned (str a)/\Lq w S j (bT 10 R).2.1 a w'):=fun W G=>(HL.gr G).ask HT HR hlt
    rw[show str R=string (bs R)from rfl];generalize bs R=BR at *
    generalize(bT 10 R).2.1=R1 at *
    generalize(bT 10 R).2.2=t1 at *
    generalize(bT 10 R).1=P1 at *
    obtain⟨VP,hVP⟩:∃VP:ByteArray,VP=bs P1:=⟨_,rfl⟩;rw[show str P1=string VP by rw[hVP];rfl]at *
    clear hVP;go_wp2_with fail;refine jw.mono ?_;rintro e w2 ⟨rfl,G2⟩;have HG2:Hid (Gr wr w2):=G2;clear G2;go_wp2_with fail;refine(HA _ HG2).mono ?_;rintro e w3 ⟨a,rfl,Q⟩;have HW:=kH (Q.say hlt);have YO:Hid (Value.string (bs a++⟨#[10]⟩)=str (a++[10])):=jF a [10];have hBA:(bs a).size<=100000000:=by
     obtain⟨_,_,_,_,_,_,_,_,_,_,_,h,_⟩:=Q;rw[df];exact h
    rw[show str a=string (bs a)from rfl];generalize bs a=BA at *
    go_wp2_with fail;rw[YO.out];refine HW.mono ?_;rintro e w4 ⟨⟨u,rfl⟩,L4⟩;have Xf:=kH L4;go_wp2_with fail;go_roundw
    case rel=>exact⟨j+1,R1,rfl,by go_num,ab,Xf⟩
    case measure=>simp[intOf];omega
  ·have hlt':¬(j:Int)<40:=ab;have HZ:Hid (Calls prog 21 #[pointer (some ⟨w.heap.size+1,0,none⟩)] wr fun e w'=>e=returned V/\Gr w w'):=by
    have:=Lp.stop HL (.inl ab);rwa[HV.out]at this
   go_wp2_with fail;refine HZ.mono ?_;rintro e w2 ⟨rfl,G⟩;go_wp2_with fail;go_ret;exact⟨rfl,G⟩
end Vp
namespace Vp
open Mm Hh Hc Mc Ud As
variable{w w':World}
theorem T0.gr (T:T0 w)(G:Gr w w'):T0 w':=by obtain⟨h1,h2,h3⟩:=T;have h:=h1.below G;have s:=G.size;exact⟨⟨h.tt' s,h.tr,arD h.trb s,h.ts' s,h.tq,arD h.tqb s⟩,h2.of G,h3.of G⟩
end Vp
namespace Vp
open Mm Hh Hc Mc Ud As
variable{ao:Option Addr}
theorem ZY (h:n<10)(w):Calls prog 13 #[int i64 (n:Int)] w fun e w'=>e=returned (str (dg n))/\Gr w w':=by
 have h1:(n:Int)<10:=ab;have h2:(0:Int)<=n:=ab;have HC:=kH Cf;have HE:Hid (str [(48+(n:Int)%10).toNat]=str (dg n)):=by unfold Hid;rw[Ij h];congr 2;omega
 go_enter func13,ntmps13;go_wp2_with fail;rw[HC.out];go_wp2_with fail;go_ret;exact⟨congrArg Ending.returned HE,(Gr.refl _).alloc _⟩
theorem ag5 (h:¬n<10)(hn:n<10^18)(ih:∀w,Calls prog 13 #[int i64 ((n/10:Nat):Int)] w fun e w'=>e=returned (str (dg (n/10)))/\Gr w w')(w):Calls prog 13 #[int i64 (n:Int)] w fun e w'=>e=returned (str (dg n))/\Gr w w':=by
 have h1:¬(n:Int)<10:=ab;have h2:(0:Int)<=n:=ab;have h3:(n:Int)<1000000000000000000:=ab;have h4:(0:Int)<=(n:Int)/10:=ab;have h5:(n:Int)/10<1000000000000000000:=ab;have HC:=kH Cf;have HI:Hid (∀w:World,Calls prog 13 #[int i64 ((n:Int)/10)] w fun e w'=>e=returned (str (dg (n/10)))/\Gr w w'):=fun w=>by
  have:=ih w;rwa[show((n/10:Nat):Int)=(n:Int)/10 by omega]at this
 obtain⟨b,hb,hl,HE⟩:∃b,[(48+(n:Int)%10).toNat]=b/\¬9223372036854775807<(dg (n/10)).length+b.length/\Hid (str (dg (n/10)++b)=str (dg n)):=
  ⟨_,rfl,by have:=rV 17 (n/10) ab;simp;omega,by unfold Hid;rw[NW h,show(48+(n:Int)%10).toNat=48+n%10 by omega]⟩
 have HB:=kH hb;have hz:(((n:Int)<10)=False):=by simp;omega
 generalize dg (n/10)=a at *
 go_enter func13,ntmps13;go_wp2_with fail;rw[HC.out,HB.out];go_wp2_with fail;refine(HI _).mono ?_;rintro e w1 ⟨rfl,G1⟩;unfold str;go_wp2_with fail;go_ret;exact⟨congrArg Ending.returned ((jF _ _).trans HE.out),br.trans G1⟩
theorem TL:∀(k n:Nat),n<10 ^ (k+1)→k≤17→∀w:World,Calls prog 13 #[int i64 (n:Int)] w fun e w'=>e=returned (str (dg n))∧Gr w w'
 |0,n,hn,_,w=>ZY (by simpa using hn) w
 |k+1,n,hn,hk,w=>by
  by_cases h:n<10
  ·exact ZY h w
  ·exact ag5 h (arD hn (asI ab ab)) (TL k (n/10) (by rw[atp]at hn;omega) ab) w
theorem Ht {n:Nat}(h:n<100000000000000000)(w):Calls prog 13 #[int i64 (n:Int)] w fun e w'=>e=returned (str (dg n))/\Gr w w':=TL 16 n ab ab w
theorem BJ {x}(h:x<100000000000000000):(dg x).length<=20:=by have:=rV 17 x ab;omega
theorem BK:∀(l W:List Nat),(∀x∈l,x<100000000000000000)→(aB W l).length≤W.length+21*l.length
 | [],W,_=>by simp[aB]
 |x::r,W,h=>by
  have h1:=BK r (W++32::dg x) fun y hy=>h y (aso _ hy)
  have h2:=BJ (h x (asx ..));have e:aB W (x::r)=aB (W++32::dg x) r:=rfl;rw[e];simp only[ary,arM]at h1 ⊢;omega
theorem Hu {c}{W}(N:Ns i64 w ao n l)(hl:∀x∈l,x<100000000000000000)(hn:n<=1000000)(hW:W.length<=1000000000):Calls prog 9 #[str W,slice ao n c] w fun e w'=>e=returned (str (aB W l))/\Gr w w':=by
 have HN:=kH N;have HL:=kH hl;have HZ:Hid (∀k,k<=n->(aB W (l.take k)).length<=2000000000):=fun k hk=>by
  have h1:=BK (l.take k) W fun x hx=>hl x (asP hx)
  have h2:(l.take k).length<=k:=by simp;omega
  omega
 have H0:Hid (str (aB W (l.take 0))=str W):=by simp[aB,Hid]
 generalize hV:str W=V at *
 go_enter func9,ntmps9;go_wp2_with fail;go_loopw [0,5] (fun s i wr=>∃k:Nat,k<=n/\i=int i64 k/\s=str (aB W (l.take k))/\Gr w wr) (fun _ i _=>n-(intOf i).toNat)
 case atStart=>exact⟨0,arQ _,rfl,H0.symm,Gr.refl _⟩
 case round=>
  obtain⟨k,hk,rfl,rfl,G⟩:=hrel;have HG:=kH G;by_cases hlt:k<n
  ·obtain⟨b,o,rfl,hb,hc⟩:=HN.spot ab;obtain⟨x,hx⟩:∃x,l[k]?=some x:=⟨_,arq (by rw[HN.out.len];exact hlt)⟩;have hx1:=HL x (arE hx);have k1:=(G.cell _ (by exact hb)).trans (hc k x hx);have HF:Hid (∀W:World,_):=fun W=>Ht hx1 W
   have HE:Hid (str (aB W (l.take (k+1)))=str ((aB W (l.take k)++[32])++dg x)):=by
    unfold Hid;rw[arW,hx];simp only[as2];rw[sS];simp
   have hz1:=HZ k hk;have hz2:=BJ hx1;have e1:Value.string (bs (aB W (l.take k))++⟨#[32]⟩)=str (aB W (l.take k)++[32]):=jF _ [32];have e2:Value.string (bs (aB W (l.take k)++[32])++bs (dg x))=str ((aB W (l.take k)++[32])++dg x):=jF _ _;have s1:(bs (aB W (l.take k))).size<=2000000000:=by rw[df];exact hz1
   have s2:(bs (aB W (l.take k)++[32])).size<=2000000001:=by rw[df];simp;omega
   have s3:(bs (dg x)).size<=20:=by rw[df];exact hz2
   rw[<-HE.out]at e2;rw[show str (aB W (l.take k))=string (bs (aB W (l.take k)))from rfl];rw[show str (aB W (l.take k)++[32])=string (bs (aB W (l.take k)++[32]))from rfl]at e1;rw[show str (dg x)=string (bs (dg x))from rfl]at HF;generalize bs (aB W (l.take k)++[32])=B1 at *
   generalize bs (aB W (l.take k))=B0 at *
   generalize bs (dg x)=B2 at *
   have e3:B0++⟨#[32]⟩=B1:=by injection e1
   go_wp2_with fail;try rw[e3]
   refine(HF _).mono ?_;rintro e w1 ⟨rfl,G1⟩;have aU:=kH (HG.trans G1);go_wp2_with fail;try rw[e2]
   try go_wp2_with fail
   go_roundw
   case rel=>exact⟨k+1,ab,by go_num,rfl,aU⟩
   case measure=>simp[intOf];omega
  ·have e0:k=n:=ab;have HV:Hid (str (aB W (l.take n))=str (aB W l)):=by
    unfold Hid;rw[ar5 (by rw[HN.out.len];omega)]
   have hlt':¬(k:Int)<(n:Int):=ab;go_wp2_with fail;go_ret;exact⟨congrArg Ending.returned HV,HG⟩
end Vp
namespace Vp
open Mm Hh Hc Mc Ud As
theorem J4 {F:World->Prop}{f:Nat}{x}(h1:F x)(h:∀y,F y->Calls prog f args y R):Calls prog f args x R:=h x h1
theorem qw {W}{x:Nat}(hW:W.length<=1000000000)(hx:x<100000000000000000){V}{b t:Nat}(h:V.heap[b]?=some (cells #[int i64 (x:Int)] t f)):Calls prog 9 #[str W,slice (some ⟨b,0,none⟩) 1 1] V fun e w'=>e=returned (str (aB W [x]))/\Gr V w':=Hu (c:=1) (qp h) (fun y hy=>by rw[arL.1 hy];exact hx) ab hW
theorem YP {v0 v1 v2 v3}(h0:e≠0)(h1:e<=100)(hv:v0.oneCell'=true/\v1.oneCell'=true/\v2.oneCell'=true/\v3.oneCell'=true):Calls prog 11 #[pointer (some ⟨g,0,none⟩),agg #[v0,v1,v2,v3],int i64 e] w fun e' w'=>e'=returned (str (aB qj [e]))/\Gr w w':=by
 have hE:((e:Int) !=0)=true:=by simp;omega
 have hE':¬(e:Int)=0:=ab;have HN:Hid (∀(W:World) (b t:Nat) (f:Nat×Nat),W.heap[b]?=some (cells #[int i64 (e:Int)] t f)->_):=fun W b t f h=>qw (W:=qj) an ab h
 obtain⟨u0,u1,u2,u3⟩:=hv;go_enter func11,ntmps11;go_wp2_with fail;refine(HN _ _ _ _ (Kc.Kq w _ _)).mono ?_;rintro e' w1 ⟨rfl,G1⟩;go_wp2_with fail;go_ret;exact⟨rfl,(br.alloc _).trans G1⟩
theorem TM {oc st:Nat}{ha}{mn hn}(hb:w.heap[g]?=some (cells #[M,H,P,U,fr] 32 (0,0)))(N:Ns .u32 w oa n l)(hx:∀b o,oa=some ⟨b,o,none⟩->0<n->b≠g)(hl:∀x∈l,x<4294967296)(hnn:n<=200000)(hst:st<=200000):Calls prog 11 #[pointer (some ⟨g,0,none⟩),agg #[(slice ma mn mc),(slice ha hn hc),slice oa n oc,int i64 st],int i64 0] w fun e w'=>e=returned (str (aB lV (st::l)))/\w'.heap[g]?=some (cells #[(slice ma mn mc),(slice ha hn hc),slice none 0 0,U,fr] 32 (0,0))/\Ch g w w':=by
 have hgl:=(gs hb).1;have HW:Hid (∀W:World,W=((((w.setCell ⟨g,0,none⟩ (slice ma mn mc)).setCell ⟨g,1,none⟩ (slice ha hn hc)).setCell ⟨g,2,none⟩ (slice none 0 0)).alloc (cells #[(slice ma mn mc),(slice ha hn hc),slice oa n oc,int i64 st] 47))->W.heap[g]?=some (cells #[(slice ma mn mc),(slice ha hn hc),slice none 0 0,U,fr] 32 (0,0))/\W.heap[w.heap.size]?=some (cells #[(slice ma mn mc),(slice ha hn hc),slice oa n oc,int i64 st] 47 (0,0))/\Ch g w W/\Ns .u32 W oa n l):=by
  rintro W rfl;have e1:=hss (i:=0) (v:=(slice ma mn mc)) hb;have e2:=hss (i:=1) (v:=(slice ha hn hc)) e1;have e3:=hss (i:=2) (v:=slice none 0 0) e2;have Q:Ch g w ((((w.setCell ⟨g,0,none⟩ (slice ma mn mc)).setCell ⟨g,1,none⟩ (slice ha hn hc)).setCell ⟨g,2,none⟩ (slice none 0 0)).alloc (cells #[(slice ma mn mc),(slice ha hn hc),slice oa n oc,int i64 st] 47)):=Ch.gr ((((Ch.refl g w).setCell 0 (slice ma mn mc)).setCell 1 (slice ha hn hc)).setCell 2 _) br;refine⟨Hr.ae br (by rw[e3];simp),?_,Q,N.len,fun h0=>?_⟩
  ·have:=awk (((w.setCell ⟨g,0,none⟩ (slice ma mn mc)).setCell ⟨g,1,none⟩ (slice ha hn hc)).setCell ⟨g,2,none⟩ (slice none 0 0)) (cells #[(slice ma mn mc),(slice ha hn hc),slice oa n oc,int i64 st] 47);rwa[show(((w.setCell ⟨g,0,none⟩ (slice ma mn mc)).setCell ⟨g,1,none⟩ (slice ha hn hc)).setCell ⟨g,2,none⟩ (slice none 0 0)).heap.size=w.heap.size by simp]at this
  ·obtain⟨b,o,e,h1,h2⟩:=N.spot h0;exact⟨b,o,e,arD h1 Q.size,fun t x hx'=>(awv (a:=⟨b,o+t,none⟩) (Q.block b h1 (fun h=>by injection h with h;exact hx b o e h0 h))).trans (h2 t x hx')⟩
 have hlen:=N.len;have HN:Hid (∀(W:World) (b t:Nat) (f:Nat×Nat),W.heap[b]?=some (cells #[int i64 (st:Int)] t f)->Calls prog 9 #[string ⟨#[114,97,110]⟩,slice (some ⟨b,0,none⟩) 1 1] W fun e' w'=>e'=returned (str (aB lV (st::l.take 0)))/\Gr W w'):=fun W b t f h=>qw (W:=lV) an ab h
 have HM:Hid (∀(k x:Nat),l[k]?=some x->∀(W:World) (b t:Nat) (f:Nat×Nat),W.heap[b]?=some (cells #[int i64 (x:Int)] t f)->Calls prog 9 #[str (aB lV (st::l.take k)),slice (some ⟨b,0,none⟩) 1 1] W fun e' w'=>e'=returned (str (aB lV (st::l.take (k+1))))/\Gr W w'):=fun k x hk W b t f h=>by
  have hx1:=hl x (arE hk);have h1:=BK (st::l.take k) lV fun y hy=>by
   rcases arG.1 hy with rfl|hy
   ·omega
   ·have:=hl y (asP hy);omega
  have h2:(l.take k).length<=l.length:=by rw[ase];omega
  have h3:=qw (W:=aB lV (st::l.take k)) (x:=x) (by simp only[arM]at h1;have:lV.length=3:=rfl;omega) ab h;have e:aB (aB lV (st::l.take k)) [x]=aB lV (st::l.take (k+1)):=by
   rw[arW,hk];simp only[as2];rw[<-arU,sS];rfl
  rwa[e]at h3
 have HF:Hid (aB lV (st::l.take n)=aB lV (st::l)):=by unfold Hid;rw[ar5 ab]
 have HG:Hid (∀k,k<n->∃x,l[k]?=some x):=fun k hk=>⟨_,arq ab⟩
 have HL:Hid (∀x∈l,x<4294967296):=hl;have HA:Hid (∀W:World,(W.heap[g]?=some (cells #[(slice ma mn mc),(slice ha hn hc),slice none 0 0,U,fr] 32 (0,0))/\W.heap[w.heap.size]?=some (cells #[(slice ma mn mc),(slice ha hn hc),slice oa n oc,int i64 st] 47 (0,0))/\Ch g w W/\Ns .u32 W oa n l)->W.heap.size=w.heap.size+1->((W.alloc (cells #[int i64 (st:Int)] 2)).heap[g]?=some (cells #[(slice ma mn mc),(slice ha hn hc),slice none 0 0,U,fr] 32 (0,0))/\(W.alloc (cells #[int i64 (st:Int)] 2)).heap[w.heap.size]?=some (cells #[(slice ma mn mc),(slice ha hn hc),slice oa n oc,int i64 st] 47 (0,0))/\Ch g w (W.alloc (cells #[int i64 (st:Int)] 2))/\Ns .u32 (W.alloc (cells #[int i64 (st:Int)] 2)) oa n l)/\(W.alloc (cells #[int i64 (st:Int)] 2)).heap[w.heap.size+1]?=some (cells #[int i64 (st:Int)] 2 (0,0))):=fun W ⟨h1,h2,h3,h4⟩ hs=>⟨⟨bS br h1,bS br h2,h3.gr br,h4.of br⟩,by rw[<-hs];exact awk W _⟩
 have z0:=fA hb;have z1:=eH hb;have z2:=uJ hb;have f0:w.frozen? ⟨g,0,none⟩=false:=iA hb;have f1:w.frozen? ⟨g,1,none⟩=false:=iA hb;have f2:w.frozen? ⟨g,2,none⟩=false:=iA hb;have ako:g≠w.heap.size:=ab;clear N hx hl hb hlen;go_enter func11,ntmps11;go_wp2_with fail;refine J4 (F:=fun W=>(W.heap[g]?=some (cells #[(slice ma mn mc),(slice ha hn hc),slice none 0 0,U,fr] 32 (0,0))/\W.heap[w.heap.size]?=some (cells #[(slice ma mn mc),(slice ha hn hc),slice oa n oc,int i64 st] 47 (0,0))/\Ch g w W/\Ns .u32 W oa n l)/\W.heap[w.heap.size+1]?=some (cells #[int i64 (st:Int)] 2 (0,0))) ?fa ?_
 case fa=>exact HA _ (HW _ rfl) aq
 rintro w4 ⟨⟨b1,b2,Q4,N4⟩,b3⟩;have HB1:=kH b1;have HB2:=kH b2;have MV:=kH Q4;have UG:=kH N4;refine(HN _ _ _ _ b3).mono ?_;clear b1 b2 Q4 N4 b3 z0 z1 z2 f0 f1 f2 HW HN HA;rintro e w5 ⟨rfl,G5⟩;have kg:=kH G5;clear G5;generalize w.heap.size=b0 at *
 go_wp2_with fail;go_loopw [7,8] (fun t i wr=>∃k:Nat,k<=n/\i=int i64 k/\t=str (aB lV (st::l.take k))/\Gr w4 wr) (fun _ i _=>n-(intOf i).toNat)
 case atStart=>exact⟨0,arQ _,rfl,rfl,kg⟩
 case round=>
  obtain⟨k,hk,rfl,rfl,G⟩:=hrel;have MJ:Hid (Gr w4 wr):=G;have hb:=bS G HB2;have y2:=uJ hb;clear G;by_cases hlt:k<n
  ·obtain⟨x,hx⟩:=HG k hlt;obtain⟨b,o,rfl,hb4,hc4⟩:=UG.spot ab;have k1:wr.cell? ⟨b,o+k,none⟩=some (int .u32 x):=(MJ.cell _ (by exact hb4)).trans (hc4 k x hx);have hx1:x<4294967296:=HL x (arE hx);have hw1:IntKind.i64.wrap (x:Int)=(x:Int):=by rw[awO];omega
   have UC:Hid _:=HM k x hx;generalize str (aB lV (st::l.take k))=T0 at *
   go_wp2_with fail;refine(UC _ _ _ _ (awk wr _)).mono ?_;rintro e w6 ⟨rfl,G6⟩;have nL:=kH ((MJ.alloc _).trans G6);go_wp2_with fail;go_roundw
   case rel=>exact⟨k+1,ab,by go_num,rfl,nL⟩
   case measure=>simp[intOf];omega
  ·have e0:k=n:=ab;subst e0;rw[HF.out];have hlt':¬(k:Int)<(k:Int):=ab;go_wp2_with fail;go_ret;exact⟨rfl,bS MJ HB1,MV.gr MJ⟩
theorem rM:ZV 32 11:=⟨fun hb N hx hl hn hs _=>TM hb N hx hl hn hs,fun h0 h1 hv _=>YP h0 h1 hv⟩
end Vp
namespace Vp
open Mm Hh Hc Mc Ud As
theorem TN {c:Nat}:∀{A:List Nat},c ∉ A→splitN c A=[A]
 | [],_=>rfl
 |d::t,h=>by
  have h1:d≠c:=fun e=>h (by rw[e];exact asx ..)
  have h2:=TN (c:=c) (A:=t) fun m=>h (aso _ m)
  show(if d=c then _ else _)=_
  rw[awm h1,h2];rfl
def pt (L:List Nat) (f i:Nat):List Nat:=(L.drop f).take (i-f)
theorem ag6 (L)(f i):(bs L).extract f i=bs (pt L f i):=pG (by rw[bV];simp[ByteArray.extract,ByteArray.copySlice,bs,pt,List.map_drop,List.map_take])
structure Sp (c:Nat) (L:List Nat) (D:List (List Nat)) (f i:Nat):Prop where
 fi:f<=i
 il:i<=L.length
 eq:splitN c L=D++splitN c (L.drop f)
 no:c ∉ pt L f i
theorem Sp.start (c)(L):Sp c L [] 0 0:=⟨arA _,arQ _,rfl,by simp[pt]⟩
theorem TP {f}(h:f<=i)(hi:i<=L.length):L.drop f=pt L f i++L.drop i:=by unfold pt;have:=(asr (i-f) (L.drop f)).symm;rwa[asT,show f+(i-f)=i by omega]at this
theorem YQ {f}(h:f<=i)(hi:i<L.length):pt L f (i+1)=pt L f i++[L[i]]:=by unfold pt;rw[show i+1-f=(i-f)+1 by omega,arW,asc,show f+(i-f)=i by omega,arq hi];rfl
theorem Sp.on {f}(S:Sp c L D f i)(hi:i<L.length)(hc:L[i]≠c):Sp c L D f (i+1):=
 ⟨by have:=S.fi;omega,hi,S.eq,by
  rw[YQ S.fi hi];intro m;rcases ar7.1 m with m|m
  ·exact S.no m
  ·rw[arL]at m;exact hc m.symm⟩
theorem Sp.hit {f}(S:Sp c L D f i)(hi:i<L.length)(hc:L[i]=c):Sp c L (D++[pt L f i]) (i+1) (i+1):=
 ⟨arA _,hi,by
  rw[S.eq,TP S.fi S.il,asW hi,hc,yV,TN S.no];simp,by simp[pt]⟩
theorem Sp.last {f}(S:Sp c L D f L.length):splitN c L=D++[pt L f L.length]:=by rw[S.eq,TP S.fi S.il,atK,arP,TN S.no]
theorem Hy (c:Nat):∀L:List Nat,(splitN c L).length≤L.length+1
 | []=>by simp[splitN]
 |d::t=>by
  have h:=Hy c t;show(if d=c then _ else _:List (List Nat)).length<=_
  split
  ·simp only[arM];omega
  ·have:=ji c t;rw[this]at h;simp only[arM]at h ⊢;omega
theorem Ia (c:Nat):∀L:List Nat,∀s∈splitN c L,s.length≤L.length∧∀d∈s,d∈L
 | [],s,h=>by simp[splitN]at h;subst h;simp
 |d::t,s,h=>by
  have ih:=Ia c t;unfold splitN at h;split at h
  ·rcases arG.1 h with rfl|h
   ·simp
   ·exact⟨Nat.le_succ_of_le (ih s h).1,fun x hx=>aso _ ((ih s h).2 x hx)⟩
  ·rcases arG.1 h with rfl|h
   ·have h2:=ih _ (by rw[ji c t];exact asx ..);refine⟨by simp only[arM];omega,fun x hx=>?_⟩;rcases arG.1 hx with rfl|hx
    ·exact asx ..
    ·exact aso _ (h2.2 x hx)
   ·have h2:=ih s (List.mem_of_mem_tail h);exact⟨Nat.le_succ_of_le h2.1,fun x hx=>aso _ (h2.2 x hx)⟩
def Sl (c:Nat) (L:List Nat) (base:Nat) (v:Value) (f i:Nat) (wr:World) (D:List (List Nat)):Prop:=wr.ownsRow base 9 1 v D.length (D.map str)/\D.length<=i/\(Sp c L D f i\/i=L.length+1/\D=splitN c L)
theorem J5 {c:Nat}(hc:c<256)(hl:∀d∈L,d<256)(hs:L.length<=4000000)(w):Calls prog 5 #[str L,int .u8 (c:Int)] w fun e w'=>∃a k,e=returned (slice a (splitN c L).length k)/\w'.ownsRow w.heap.size 9 1 (slice a (splitN c L).length k) (splitN c L).length ((splitN c L).map str)/\Gr w w':=by
 obtain⟨i0,hi,hz0,hz1,hz2⟩:=awS yX;have HL:=kH hl;have hz:((bs L).size:Int)=(L.length:Int):=by rw[df]
 have bA:Hid (Sl c L w.heap.size (slice none 0 0) 0 0 w []):=⟨awG _ _ _ _,arA _,.inl (Sp.start c L)⟩;have HPT:=kH (ag6 L);have HIX:Hid (∀(p:Nat) (hp:p<L.length) (w:World),_):=fun p hp w=>Ei hl hp w
 have hz':=df L;clear hl;rw[show str L=string (bs L)from rfl];generalize bs L=B at *
 go_enter func5,ntmps5;go_wp2_with fail;go_loopw [5,6,7] (fun s f i wr=>∃(f' i':Nat) (D:List (List Nat)),f=int i64 f'/\i=int i64 i'/\(∃a k,s=slice a D.length k)/\Sl c L w.heap.size s f' i' wr D/\Gr w wr) (fun _ _ i _=>L.length+1-(intOf i).toNat)
 case atStart=>exact⟨0,0,[],rfl,rfl,⟨none,0,rfl⟩,bA,Gr.refl _⟩
 case round=>
  obtain⟨f,i,D,rfl,rfl,⟨a1,c1,rfl⟩,⟨O,hDi,S⟩,G⟩:=hrel;have HG:=kH G;have HO:=kH O;clear O G bA;rcases S with S|⟨rfl,rfl⟩
  ·have HSS:=kH S;have hfi:=S.fi;have hil:=S.il;have k0:(i:Int)<=(L.length:Int):=ab;have hsl:=HPT f i;have GY:Hid (∀u∈[Value.string (bs (pt L f i))],u.oneCell'=true):=fun u hu=>by rw[arL.1 hu];rfl
   have HMP:Hid ((D++[pt L f i]).map str=D.map str++[string (bs (pt L f i))]):=by unfold Hid;rw[asl];rfl
   by_cases he:i=L.length
   ·have XK:Hid (splitN c L=D++[pt L f i]):=by subst he;exact S.last
    clear S HIX HPT;generalize bs (pt L f i)=V at *
    generalize hLN:L.length=n at *
    subst he;generalize hM:D.map str=old at *
    have hq:D.length+1<=4000002:=ab;generalize hq1:D.length=q at *
    go_wp2_with (at_builtin;refine awW _ rfl (tmp 25) (tmp 30) 22 rfl w.heap.size 9 i0 (string ⟨#[]⟩) 1 16 underlying22 hi hz0 hz1 hz2 rfl an (slice a1 q c1) q old rfl (aD HO br) ⟨wr.heap.size,0,none⟩ 1 1 [string V] rfl rfl (kM (awk wr _)) ?one bj ab (by have:=HG.size;simp;omega) ?_;(case one=>exact GY);intro v' w2 hown hgrow _;obtain⟨_,_,a2,c2,rfl⟩:=au hown);have kT:=kH hown;have HG2:=kH ((HG.alloc _).grown hgrow (fun b hb=>(HO.lt b hb).1));go_wp2_with fail;go_roundw
    case rel=>exact⟨i+1,i+1,D++[pt L f i],by go_num,by go_num,⟨a2,c2,by rw[ary,hq1];rfl⟩,⟨by rw[HMP.out,ary,hq1];exact kT,by rw[ary,hq1];simp;omega,.inr ⟨by rw[hLN],XK.symm⟩⟩,HG2⟩
    case measure=>simp[intOf]<;>omega
   ·have hlt:i<L.length:=ab;have hix:=HIX i hlt;have b0:(decide ((i:Int)=(L.length:Int)))=false:=awq ab;have hne:((i:Int) ==(L.length:Int))=false:=by simp;omega
    by_cases hcc:L[i]=c
    ·have XK:=kH (S.hit hlt hcc);rw[hcc]at hix;clear S hcc HIX HPT;generalize bs (pt L f i)=V at *
     generalize hLN:L.length=n at *
     generalize hM:D.map str=old at *
     have hq:D.length+1<=4000002:=ab;generalize hq1:D.length=q at *
     go_wp2_with (at_builtin;refine awW _ rfl (tmp 25) (tmp 30) 22 rfl w.heap.size 9 i0 (string ⟨#[]⟩) 1 16 underlying22 hi hz0 hz1 hz2 rfl an (slice a1 q c1) q old rfl (aD HO br) ⟨wr.heap.size,0,none⟩ 1 1 [string V] rfl rfl (kM (awk wr _)) ?one bj ab (by have:=HG.size;simp;omega) ?_;(case one=>exact GY);intro v' w2 hown hgrow _;obtain⟨_,_,a2,c2,rfl⟩:=au hown);have kT:=kH hown;have HG2:=kH ((HG.alloc _).grown hgrow (fun b hb=>(HO.lt b hb).1));go_wp2_with fail;go_roundw
     case rel=>exact⟨i+1,i+1,D++[pt L f i],by go_num,by go_num,⟨a2,c2,by rw[ary,hq1];rfl⟩,⟨by rw[HMP.out,ary,hq1];exact kT,by rw[ary,hq1];simp;omega,.inl XK⟩,HG2⟩
     case measure=>simp[intOf];omega
    ·have XK:=kH (S.on hlt hcc);have hxc:((L[i]:Nat):Int)≠(c:Int):=ab;have hxb:(((L[i]:Nat):Int) ==(c:Int))=false:=by simp;omega
     clear S hcc HIX HPT GY HMP hsl;generalize L[i]=x at *
     generalize hLN:L.length=n at *
     go_wp2_with fail;go_roundw
     case rel=>exact⟨f,i+1,D,rfl,by go_num,⟨a1,c1,rfl⟩,⟨HO,ab,.inl XK⟩,HG⟩
     case measure=>simp[intOf];omega
  ·have hlt':¬((L.length:Int)+1<=(L.length:Int)):=ab;go_wp2_with fail;go_ret;exact⟨a1,c1,rfl,HO,HG⟩
end Vp
namespace Vp
open Mm Hh Hc Mc Ud As
theorem ZZ:∀(l:List Nat) (acc:Nat),(∀d∈l,EX d)→vg acc l<(acc+1)*10 ^ l.length
 | [],acc,_=>by simp[vg]
 |d::t,acc,h=>by
  have hd:=h d (asx ..);unfold EX at hd;have ih:=ZZ t (10*acc+(d-48)) fun x hx=>h x (aso _ hx)
  show vg (10*acc+(d-48)) t<(acc+1)*10 ^ (t.length+1)
  have h2:(10*acc+(d-48)+1)*10^t.length<=(10*(acc+1))*10^t.length:=asN _ ab;rw[atp,show(acc+1)*(10^t.length*10)=10*(acc+1)*10^t.length by rw[asO 10 (acc+1),Nat.mul_assoc,asO 10]];omega
theorem adL (h:∀d∈l,EX d)(hl:l.length<=10):vl l<10000000000:=by
 have h1:=ZZ l 0 h;have h2:10^l.length<=10^10:=asI ab hl;show vg 0 l<_
 omega
def Kn (w:World) (L:List Nat) (e:Ending) (w':World):Prop:=∃z:Nat,e=returned (tuple #[int .u32 z,.bool (gB L).isSome])/\(∀u,gB L=some u->z=u)/\w=w'
theorem adM (w):Calls prog 8 #[str []] w (Kn w []):=by
 have HF:Hid (∀e,e=returned (tuple #[int .u32 0,.bool false])->Kn w [] e w):=fun e he=>⟨0,he,fun u hu=>(by cases hu),rfl⟩
 rw[show str []=string ⟨#[]⟩from rfl];go_enter func8,ntmps8;go_wp2_with fail;go_ret2;exact HF _ rfl
theorem YR (h:10<L.length)(hs:L.length<=4000000)(w):Calls prog 8 #[str L] w (Kn w L):=by
 have HF:Hid (∀e,e=returned (tuple #[int .u32 0,.bool false])->Kn w L e w):=by
  have e:gB L=none:=by unfold gB;rw[eB]
  exact fun e' he=>⟨0,by rw[e];exact he,fun u hu=>(by rw[e]at hu;cases hu),rfl⟩
 have hz:((bs L).size:Int)=(L.length:Int):=by rw[df]
 have k1:¬(L.length:Int)<1:=ab;have k2:(L.length:Int) > 10:=ab;rw[show str L=string (bs L)from rfl];generalize bs L=B at *
 generalize L.length=n at *
 go_enter func8,ntmps8;go_wp2_with fail;go_ret2;exact HF _ rfl
theorem YS (hl:∀d∈L,d<256)(h1:1<L.length)(h2:L.length<=10)(h0:L[0]=48)(w):Calls prog 8 #[str L] w (Kn w L):=by
 have HF:Hid (∀e,e=returned (tuple #[int .u32 0,.bool false])->Kn w L e w):=by
  have e:gB L=none:=by
   unfold gB;rw[awn (Or.inr (Or.inr ⟨by rw[as3,arq ab,h0],h1⟩))]
  exact fun e' he=>⟨0,by rw[e];exact he,fun u hu=>(by rw[e]at hu;cases hu),rfl⟩
 have hz:((bs L).size:Int)=(L.length:Int):=by rw[df]
 have hix:∀w:World,(Instr.index 9 (string (bs L)) (int i64 0)).run prog w=.ok (int .u8 48) w:=fun w=>by
  have:=Ei hl (p:=0) ab w;rwa[h0]at this
 have k1:¬(L.length:Int)<1:=ab;have k2:¬(L.length:Int) > 10:=ab;have k3:(L.length:Int) > 1:=ab;rw[show str L=string (bs L)from rfl];clear hl h0;generalize bs L=B at *
 generalize L.length=n at *
 go_enter func8,ntmps8;go_wp2_with fail;go_ret2;exact HF _ rfl
def Dg (L:List Nat) (k:Nat):Prop:=k<=L.length/\∀d∈L.take k,EX d
theorem Dg.on (h:Dg L k)(hk:k<L.length)(hd:EX L[k]):Dg L (k+1)/\vl (L.take (k+1))=10*vl (L.take k)+(L[k]-48):=by
 have e:L.take (k+1)=L.take k++[L[k]]:=by rw[arW,arq hk];rfl
 refine⟨⟨hk,fun d m=>?_⟩,by rw[e,aaa]⟩;rw[e]at m;rcases ar7.1 m with m|m
 ·exact h.2 d m
 ·rw[arL.1 m];exact hd
theorem YT (hl:∀d∈L,d<256)(h1:1<=L.length)(h2:L.length<=10)(h0:L.length=1\/L[0]≠48)(w):Calls prog 8 #[str L] w (Kn w L):=by
 have hc:¬(L.length<1\/10<L.length\/(L.head?=some 48/\1<L.length)):=by
  rintro(h|h|⟨h,h3⟩)
  ·omega
  ·omega
  ·rw[as3,arq ab]at h;rcases h0 with h0|h0
   ·omega
   ·exact h0 (by injection h)
 have HNO:Hid (∀k,∀hk:k<L.length,¬EX L[k]->∀e,e=returned (tuple #[int .u32 0,.bool false])->Kn w L e w):=by
  intro k hk hd e' he;have e:gB L=none:=by
   unfold gB;rw[awm hc,awm];intro ha;exact hd (uU.1 ha _ (as8 hk))
  exact⟨0,by rw[e];exact he,fun u hu=>(by rw[e]at hu;cases hu),rfl⟩
 have alb:Hid (Dg L L.length->∀e,e=returned (tuple #[int .u32 ((vl L:Nat)%4294967296:Int),.bool (decide ((vl L:Int)<4294967296))])->Kn w L e w):=by
  intro hd e' he;have ha:=uU.2 fun d m=>hd.2 d (by rwa[ash])
  have e:gB L=if vl L<4294967296 then some (vl L)else none:=by
   unfold gB;rw[awm hc,awn ha]
  refine⟨vl L%4294967296,?_,fun u hu=>?_,rfl⟩
  ·rw[he,e];by_cases hv:vl L<4294967296
   ·rw[awn hv,awC ab];simp
   ·rw[awm hv,awq ab];simp
  ·rw[e]at hu;split at hu
   ·injection hu with hu;omega
   ·cases hu
 have HV:Hid (∀k,Dg L k->_):=fun k hk=>adL hk.2 aE
 have HON:Hid (∀k,Dg L k->∀hk:k<L.length,EX L[k]->_):=fun k h hk hd=>h.on hk hd
 have iV:Hid (vl (L.take L.length)=vl L):=by unfold Hid;rw[ash]
 have H00:Hid (Dg L 0/\vl (L.take 0)=0):=⟨⟨arQ _,aq⟩,rfl⟩;have hz:((bs L).size:Int)=(L.length:Int):=by rw[df]
 have HIX:Hid (∀(p:Nat) (hp:p<L.length) (w:World),_):=fun p hp w=>Ei hl hp w
 have alc:∀w:World,(Instr.index 9 (string (bs L)) (int i64 0)).run prog w=.ok (int .u8 ((L[0]:Nat):Int)) w:=fun w=>Ei hl (p:=0) ab w
 have HLB:Hid (∀k,∀hk:k<L.length,_):=fun k hk=>hl _ (as8 hk)
 have k1:¬(L.length:Int)<1:=ab;have k2:¬(L.length:Int) > 10:=ab;have k3:((L[0]:Nat):Int)=48->¬(L.length:Int) > 1:=ab;rw[show str L=string (bs L)from rfl];obtain⟨x0,hx0⟩:∃x0,x0=L[0]:=⟨_,rfl⟩;rw[<-hx0]at alc k3;generalize bs L=B at *
 have HLE:=kH h2;go_enter func8,ntmps8;have hcase:((x0:Int)=48/\¬(L.length:Int) > 1)\/¬(x0:Int)=48:=ab;rcases hcase with⟨hx,hn⟩|hx
 all_goals
  go_wp2_with fail;go_loopw [4,5] (fun v i wr=>∃k:Nat,i=int i64 k/\v=int i64 (vl (L.take k):Nat)/\Dg L k/\wr=w) (fun _ i _=>L.length-(intOf i).toNat)
  case atStart=>exact⟨0,rfl,by rw[H00.out.2];rfl,H00.1,rfl⟩
  case round=>
   obtain⟨k,rfl,rfl,hd,rfl⟩:=hrel;have HD:=kH hd;have hkl:=hd.1;have hv:=HV k hd;by_cases hlt:k<L.length
   ·have hix:=HIX k hlt;have hb:=HLB k hlt;have hlt':(k:Int)<(L.length:Int):=ab;by_cases hdd:EX L[k]
    ·have hon:=HON k HD hlt hdd;have ag8:Hid (Dg L (k+1)/\vl (L.take (k+1))=10*vl (L.take k)+(L[k]-48)):=hon;unfold EX at hdd;have d1:¬((L[k]:Nat):Int)<48:=ab;have d2:¬((L[k]:Nat):Int) > 57:=ab;have hE:(10*(vl (L.take k):Int)+(((L[k]:Nat):Int)-48))=((10*vl (L.take k)+(L[k]-48):Nat):Int):=ab;have HE:Hid _:=hE;clear hon hE;generalize L[k]=x at *
     generalize vl (L.take k)=y at *
     go_wp2_with fail;go_roundw
     case rel=>exact⟨k+1,by go_num,by rw[ag8.out.2,<-HE.out],ag8.1,trivial⟩
     case measure=>simp[intOf];omega
    ·have HN1:=kH (HNO k hlt hdd);unfold EX at hdd;have hor:((L[k]:Nat):Int)<48\/(¬((L[k]:Nat):Int)<48/\((L[k]:Nat):Int) > 57):=ab;generalize L[k]=x at *
     generalize vl (L.take k)=y at *
     rcases hor with d1|⟨d1,d2⟩
     ·go_wp2_with fail;go_ret2;exact HN1 _ rfl
     ·go_wp2_with fail;go_ret2;exact HN1 _ rfl
   ·have e0:k=L.length:=ab;subst e0;have HY:=kH (alb HD);rw[iV.out]at hv ⊢;have hlt':¬(L.length:Int)<(L.length:Int):=ab;generalize vl L=y at *
    go_wp2_with fail;go_ret2;exact HY _ (by first|rfl|simp)
theorem TQ (hl:∀d∈L,d<256)(hs:L.length<=4000000)(w):Calls prog 8 #[str L] w (Kn w L):=by
 by_cases h:L=[]
 ·subst h;exact adM w
 have h1:=atd.2 h;by_cases h2:10<L.length
 ·exact YR h2 hs w
 by_cases h3:1<L.length/\L[0]=48
 ·exact YS hl h3.1 ab h3.2 w
 ·exact YT hl h1 ab (by
   by_cases h4:L[0]=48
   ·left;have:¬1<L.length:=fun q=>h3 ⟨q,h4⟩
    omega
   ·exact .inr h4) w
end Vp
namespace Vp
open Mm Hh Hc Mc Ud As Kc
variable{p:Pl}
theorem Nh (h:gB s=some n)(dn)(t)(e:t=(aS (s::r)).map (dn++·)):t=(aS r).map ((dn++[n])++·):=by rw[e,sW,h];cases aS r<;>simp
theorem TR (h:gB s=none):aS (s::r)=none:=by rw[sW,h]
structure La (w:World) (g B:Nat) (M H P U:Value) (p:Pl) (V:Value) (WS:List (List Nat)) (RES:Pl×List Nat):Prop where
 X:Pr 32 B w g M H P U p
 Q:aS WS.tail=none->RES=(p,aQ)
 SP:Calls prog 5 #[V,int .u8 32] w fun e w'=>∃a k,e=returned (slice a WS.length k)/\w'.ownsRow w.heap.size 9 1 (slice a WS.length k) WS.length (WS.map str)/\Gr w w'
 len:WS.length<=4000001
 ME:∀s∈WS,s.length<=4000000/\∀d∈s,d<256
 NE:WS≠[]
def aV {RES:Pl×List Nat} (A:Hid (La w g B M H P U p V WS RES)):(G:Prop) ×' (Once G->Calls prog 6 #[pointer (some ⟨g,0,none⟩),V] w (bO 32 B w g M H P RES)):=by
 apply PSigma.mk
 case snd=>
  intro jW;obtain⟨i0,hi,hz0,hz1,hz2⟩:=awS vo;have hlen:=A.out.len;go_enter func6,ntmps6;go_wp2_with fail;refine A.out.SP.mono ?_;rintro e w1 ⟨a,k,rfl,O,G1⟩;have T1:=Ts.own O;have hpos:0<WS.length:=atd.2 A.out.NE;obtain⟨b,o,rfl,hb1,hc1⟩:=T1.spot hpos;have jw:Hid (∀(t:Nat) (x:List Nat),WS[t]?=some x->w1.cell? ⟨b,o+t,none⟩=some (str x)):=hc1;have aU:Hid (Gr w w1):=G1;have HB1:Hid (b<w1.heap.size):=hb1;clear O G1 T1 hb1 hc1;go_wp2_with fail;go_loopw [6,7] (fun s i wr=>∃(m:Nat) (dn:List Nat),i=int i64 m/\1<=m/\m<=WS.length/\(∃a c,s=slice a dn.length c)/\dn.length+1=m/\wr.ownsRow w1.heap.size 37 1 s dn.length (dn.map fun x:Nat=>Value.int .u32 (x:Int))/\Gr w1 wr/\aS WS.tail=(aS (WS.drop m)).map (dn++·)) (fun _ i _=>WS.length-(intOf i).toNat)
  case atStart=>exact⟨1,[],rfl,arA _,hpos,⟨none,0,rfl⟩,rfl,awG _ _ _ _,Gr.refl _,by rw[List.drop_one];cases aS WS.tail<;>rfl⟩
  case round=>
   obtain⟨m,dn,rfl,hm1,hm2,⟨a1,c1,rfl⟩,hdl,O,G,hnn⟩:=hrel;have HO:Hid (wr.ownsRow w1.heap.size 37 1 (slice a1 dn.length c1) dn.length (dn.map fun x:Nat=>Value.int .u32 (x:Int))):=O;have HG:Hid (Gr w1 wr):=G;have HN:Hid (aS WS.tail=(aS (WS.drop m)).map (dn++·)):=hnn;have HDL:Hid (dn.length+1=m):=hdl;have hdz:dn.length<=4000000:=ab;clear O G hnn hdl;by_cases hlt:m<WS.length
   ·obtain⟨s,hsx⟩:∃s,WS[m]?=some s:=⟨_,arq hlt⟩;have hdr:WS.drop m=s::WS.drop (m+1):=by
     rw[asW hlt];congr 1;rw[arq hlt]at hsx;injection hsx
    have hmm:=A.out.ME s (arE hsx);have k1:wr.cell? ⟨b,o+m,none⟩=some (str s):=(HG.out.cell _ (by exact HB1.out)).trans (jw.out m s hsx);have HK:Hid (∀W:World,Calls prog 8 #[str s] W (Kn W s)):=fun W=>TQ hmm.2 hmm.1 W
    rw[hdr]at HN;clear hdr hsx hmm;rw[show str s=string (bs s)from rfl]at k1 HK;generalize bs s=BSs at *
    go_wp2_with fail;refine(HK.out _).mono ?_;rintro e w3 ⟨z,rfl,hzz,rfl⟩;clear k1;cases TS:gB s with
    |none=>
     have HR:Hid (RES=(p,aQ)):=A.out.Q (by rw[HN.out,TR TS];rfl);clear TS hzz;go_wp2_with fail;go_ret;rw[HR.out];exact⟨rfl,_,_,_,_,A.out.X.gr (aU.out.trans HG.out),Fx.aJ (aU.out.trans HG.out)⟩
    |some u=>
     have e0:=hzz u TS;subst e0;have HN2:Hid (aS WS.tail=(aS (WS.drop (m+1))).map ((dn++[z])++·)):=Nh TS dn _ HN.out;have HMP:Hid ((dn++[z]).map (fun x:Nat=>Value.int .u32 (x:Int))=dn.map (fun x:Nat=>Value.int .u32 (x:Int))++[int .u32 (z:Int)]):=by unfold Hid;rw[asl];rfl
     have HON:Hid (∀x∈[Value.int .u32 (z:Int)],x.oneCell'=true):=fun x hx=>by rw[arL.1 hx];rfl
     clear TS hzz HN;generalize hM:(dn.map fun x:Nat=>Value.int .u32 (x:Int))=old at *
     generalize hq1:dn.length=q at *
     go_wp2_with (at_builtin;refine awW _ rfl (tmp 49) (tmp 51) 36 rfl w1.heap.size 37 i0 (int .u32 0) 1 4 underlying36 hi hz0 hz1 hz2 rfl an (slice a1 q c1) q old rfl (aD HO.out br) ⟨wr.heap.size,0,none⟩ 1 1 [int .u32 (z:Int)] rfl rfl (kM (awk wr _)) ?one bj ab (by have:=HG.out.size;simp;omega) ?_;(case one=>exact HON.out);intro v' w2 hown hgrow _;obtain⟨_,_,a2,c2,rfl⟩:=au hown);have kT:Hid (w2.ownsRow w1.heap.size 37 1 (slice a2 (q+1) c2) (q+1) (old++[int .u32 (z:Int)])):=hown;have HG2:Hid (Gr w1 w2):=(HG.out.alloc _).grown hgrow (fun b hb=>(HO.out.lt b hb).1);clear hown hgrow;go_wp2_with fail;go_roundw
     case rel=>exact⟨m+1,dn++[z],by go_num,ab,hlt,⟨a2,c2,by rw[ary,hq1];rfl⟩,by have:=HDL.out;rw[ary,hq1];simp;omega,by rw[HMP.out,ary,hq1];exact kT.out,HG2.out,HN2.out⟩
     case measure=>simp[intOf];omega
   ·have e0:m=WS.length:=ab;have hfin:aS WS.tail=some dn:=by
     rw[HN.out,e0,atK];simp[aS]
    have NF:Ns .u32 wr a1 dn.length dn/\∀b o,a1=some ⟨b,o,none⟩->w.heap.size<=b:=⟨Ns.own HO.out,fun b o hb=>by subst hb;exact arF aU.out.size (HO.out.lt b rfl).1⟩;obtain⟨s0,hs0⟩:∃s,WS[0]?=some s:=⟨_,arq hpos⟩;have k0:wr.cell? ⟨b,o,none⟩=some (str s0):=(HG.out.cell _ (by exact HB1.out)).trans (jw.out 0 s0 hs0);have dF:Hid (Gr w wr):=aU.out.trans HG.out;have hbw:b<wr.heap.size:=arD HB1.out HG.out.size;have hlt':¬(m:Int)<(WS.length:Int):=ab;have jl:Hid (WS.headD []=s0):=by unfold Hid;rw[List.headD_eq_head?_getD,as3,hs0];rfl
    have fO:Hid _:=NF;have iV:Hid (aS WS.tail=some dn):=hfin;clear hfin hs0 NF HDL e0 HN HO HG;obtain⟨VV,hV⟩:∃VV,VV=str s0:=⟨_,rfl⟩;rw[<-hV]at k0;have HV:Hid (VV=str s0):=hV;clear hV;go_wp2_with fail;clear hdz k0 hbw hlt' hlt hm1 hm2 jw aU HB1 hpos hi hz0 hz1 hz2 hlen;rename_i Q0 K3 A3 K2 A2 K1 A1 K0 A0;clear A3 K3 Q0
    revert K0
    revert K1
    revert K2
    revert HV jl iV fO dF
    revert VV s0 dn a1 c1 m wr b o k u4 u8 u9 u33 u34 u35 u36 u37 u38 u39 u40 u41 u42 u43 u44 u45 u46 u47 u48 u49 u50 u51 u52
    exact jW.out
end Vp
namespace Vp
open Mm Hh Hc Mc Ud As En Kc
variable{p:Pl}
theorem adN (hw:WS.headD []=uG)(hn:aS WS.tail=some [])(A:Hid (La w g B M H P U p V WS (MG p [])))(T:Tz B w):Calls prog 6 #[pointer (some ⟨g,0,none⟩),V] w (bO 32 B w g M H P (MG p [])):=by
 refine(aV A).2 ⟨?_⟩;unfold aV;dsimp only;intro k b o wr u4 u8 u9 u33 u34 u35 u36 u37 u38 u39 u40 u41 u42 u43 u44 u45 u46 u47 u48 u49 u50 u51 u52 m dn a1 c1 s0 VV dF jl fO iV HV K2 A2 K1 A1 K0 A0;have e0:=iV.out;rw[hn]at e0;obtain rfl:=aws e0;rw[HV.out,<-jl.out,hw,show str uG=string ⟨#[114,117,110]⟩from rfl];have X:=A.X.gr dF.out;obtain⟨ma,mc,ha,hc0,pa,pc,ua,un,uc,rfl,rfl,rfl,rfl, -⟩:=X.open;have z0:=fA X.blk;have z1:=eH X.blk;have z2:=uJ X.blk;have hgl:=(gs X.blk).1;have HU:Hid (∀W:World,Gr wr W->_):=fun W G=>agW X (T.gr dF.out) G
 have HX:=kH X;have HT:=kH (T.gr dF.out);have HE:Hid ((wrong p.m p.hs p.ps).toNat<=100/\((wrong p.m p.hs p.ps).toNat≠0->lY p (gM (gJ p) (ko (gJ p) (nums p.ps))) true=(p,aB qj [(wrong p.m p.hs p.ps).toNat]))):=⟨by have:=l7 p.m p.hs p.ps;omega,fun h=>by unfold lY;rw[ak]⟩;generalize(wrong p.m p.hs p.ps).toNat=E at *
 go_simp;go_wp2_with fail;refine Rg.iT (T:=tS) [Rg.Val (pointer (some ⟨g,0,none⟩)),Rg.Val (pointer (some ⟨g,0,none⟩)),Rg.Val (pointer (some ⟨g,0,none⟩)),Rg.Val (agg #[slice ma p.m.length mc,slice ha p.hs.length hc0]),Rg.Val (pointer (some ⟨g,0,none⟩)),Rg.Val (pointer (some ⟨g,0,none⟩)),Rg.Val (pointer (some ⟨g,2,none⟩)),Rg.Val (slice pa p.ps.length pc),EE xN p E,EE xN p E,NL xN p E,ZT xN p E,Rg.Val (int i64 (E:Nat)),Rg.oP 47 #[slice none 0 0,slice none 0 0,slice none 0 0,int i64 0] 14 10,Rg.oQ 13 10,ZT xN p E,Rg.Val (int i64 (E:Nat))] [[],[0],[1],[2],[],[4],[5],[6],[3,7],[8],[9],[9],[9],[],[13,10],[11],[12]] al al ?_ ?_
 ·simp only[Rg.BZ,Rg.Hd,Rg.dep,Rg.Ob,Rg.at',Rg.Val,Rg.Fa,Rg.nT,Rg.oP,Rg.oQ,Rg.made,Rg.l8,List.replicate,arM,ar8,art,ars,arC,arJ,arV,Act.put,arp,Rg.inT,tS,JW,tM,tB,arG,arL,axq,axr,aw7,EE,NL,ZT];refine⟨?_,?_,?_,?_,?_,?_,?_,?_,?_,?_,?_,?_,?_,?_,?_,?_,?_,trivial⟩
  case refine_15=>exact⟨fun _ _=>trivial,Ri,fun w v ⟨x,e,h⟩=>⟨_,e,rfl,MX h.one⟩⟩
  all_goals intro W hW
  all_goals (have q0:=(hW.cell _ (by exact hgl)).trans z0;have q1:=(hW.cell _ (by exact hgl)).trans z1;have q2:=(hW.cell _ (by exact hgl)).trans z2)
  case refine_9=>
   rintro _ rfl _ rfl K hK;go_simp;refine(HU W hW).mono ?_;rintro e w' ⟨x,rfl,h,G⟩;exact hK.out _ _ G ⟨x,rfl,h⟩ trivial
  all_goals intros
  all_goals rename_i K hK
  all_goals first|(rename_i hh;obtain⟨_,rfl,hf⟩:=hh)|skip
  all_goals subst_vars
  all_goals go_simp
  all_goals first|exact hK.out _ _ (Gr.refl _) rfl trivial|exact hK.out _ _ br ⟨_,rfl,hW.size⟩ ⟨_,rfl,hW.size,awk _ _⟩|exact hK.out _ _ (Gr.refl _) ⟨_,rfl,hf⟩ trivial|exact hK.out _ _ (Gr.refl _) ⟨_,rfl,hf.1⟩ trivial|exact hK.out _ _ (Gr.refl _) ⟨_,rfl,hf.2⟩ trivial
 ·intro w9 G9;simp only[Rg.Fin',Rg.Val,Rg.Fa,Rg.nT,Rg.oP,Rg.oQ,aw5,Act.put,arp,art,ars,arC,arJ,arV,ar6,asi,arT,arU,ast,asu,EE,NL,ZT];rintro _ rfl _ rfl _ rfl _ rfl _ rfl _ rfl _ rfl _ rfl v8-v9-_ ⟨⟨s0,s1,s2,s3⟩,rfl,R⟩ v11-_ rfl _ ⟨b',rfl,hb0⟩ v14 hct _ ⟨u,rfl,hu⟩ _ rfl;have hb:=pF hct;have y0:=fA hb;have y1:=eH hb;have y2:=uJ hb;have y3:=Ca hb;have hk:=(HX.gr G9).blk;have x3:=Ca hk;have x4:=tO hk;have f3:w9.frozen? ⟨g,3,none⟩=false:=iA hk;have f4:w9.frozen? ⟨g,4,none⟩=false:=iA hk;have ne:=rG hk hb an;have ne2:=ne.symm;have HRR:=kH R;have HUU:=kH hu;have HK:=kH hk;have HG:=kH G9;obtain⟨⟨a1,n1,c1,rfl⟩,_⟩:=hu;by_cases hE:E=0
  ·subst hE;have Hg:Hid (Calls prog 11 #[pointer (some ⟨g,0,none⟩),agg #[s0,s1,s2,s3],int i64 0] _ _):=ZV.yes (M:=slice ma p.m.length mc) (H:=slice ha p.hs.length hc0) (P:=slice pa p.ps.length pc) (U:=slice ua un uc) (w8:=(w9.setCell ⟨g,3,none⟩ (slice a1 n1 c1)).setCell ⟨g,4,none⟩ (.bool true)) (fr':=true) (kY:=gM (gJ p) (ko (gJ p) (nums p.ps))) (U':=slice a1 n1 c1) (x:=(s0,s1,s2,s3)) rM HX HT (fun _=>rfl) HG HRR (fun _=>HUU.2 rfl) ⟨_,_,_,rfl⟩ (((Ch.refl g w9).setCell 3 _).setCell 4 _) (by
    have e:=hss (i:=3) (v:=slice a1 n1 c1) HK;rw[hss e];simp)
   go_wp2_with fail;refine Hg.mono ?_;rintro e w' ⟨rfl,h⟩;have HA:Hid (bO 32 B wr g (slice ma p.m.length mc) (slice ha p.hs.length hc0) (slice pa p.ps.length pc) (lY p (gM (gJ p) (ko (gJ p) (nums p.ps))) true) (returned (str (lY p (gM (gJ p) (ko (gJ p) (nums p.ps))) true).2)) w'):=⟨rfl,h⟩;go_wp2_with fail;go_ret;exact bO.pre (D:=(_,_,_)) (Fx.aJ dF.out) HA
  ·have Hg:Hid (Calls prog 11 #[pointer (some ⟨g,0,none⟩),agg #[s0,s1,s2,s3],int i64 (E:Nat)] w9 fun e w'=>e=returned (str (aB qj [E]))/\Gr w9 w'):=rM.n hE HE.1 HRR.one fun G=>(HT.gr (HG.trans G)).Bu
   have hE':¬(E:Int)=0:=ab;have HQ:Hid (MG p []=(p,aB qj [E])):=HE.2 hE;go_wp2_with fail;refine Hg.mono ?_;rintro e w' ⟨rfl,h⟩;have uu:=kH (HG.trans h);go_wp2_with fail;go_ret;rw[HQ.out];exact bO.pre (D:=(_,_,_)) (Fx.aJ dF.out) ⟨rfl,_,_,_,_,HX.gr uu,Fx.aJ uu⟩
theorem YU (hw:WS.headD []=lU)(hn:aS WS.tail=some [x0])(A:Hid (La w g B M H P U p V WS (lZ p [x0])))(T:Tz B w):Calls prog 6 #[pointer (some ⟨g,0,none⟩),V] w (bO 32 B w g M H P (lZ p [x0])):=by
 refine(aV A).2 ⟨?_⟩;unfold aV;dsimp only;intro k b o wr u4 u8 u9 u33 u34 u35 u36 u37 u38 u39 u40 u41 u42 u43 u44 u45 u46 u47 u48 u49 u50 u51 u52 m dn a1 c1 s0 VV dF jl fO iV HV K2 A2 K1 A1 K0 A0;have e0:=iV.out;rw[hn]at e0;obtain rfl:=aws e0;rw[HV.out,<-jl.out,hw,show str lU=string ⟨#[102,97,115,116]⟩from rfl];have X:=A.X.gr dF.out;have hx:=bX hn;have hx0:=hx x0 aq;obtain⟨lb,lo,rfl, -,hc⟩:=fO.out.1.spot aq;have c0:wr.cell? ⟨lb,lo,none⟩=some (int .u32 (x0:Int)):=hc 0 x0 rfl;have hlb:lb<wr.heap.size:=awo _ _ c0;have xP:lb≠g:=fun e=>by
  have h1:=fO.out.2 _ _ rfl;have h2:=(gs A.X.blk).1;omega
 clear hc hx;clear e0 iV jl HV fO hw hn s0 VV;obtain⟨ma,mc,ha,hc0,pa,pc,ua,un,uc,rfl,rfl,rfl,rfl, -⟩:=X.open;obtain⟨X1,F1⟩:=X.down;have f4:wr.frozen? ⟨g,4,none⟩=false:=iA X.blk;have z4:=tO X.blk;have jy:Hid _:=X1;have mO:Hid (Fx _ _ _ _):=F1;have HT1:Hid (Tz B (wr.setCell ⟨g,4,none⟩ (.bool false))):=(T.gr dF.out).below (F1.below (fun k hk=>(X.dom k hk).1) X.le);have jw:Hid ((wr.setCell ⟨g,4,none⟩ (.bool false)).cell? ⟨lb,lo,none⟩=some (int .u32 (x0:Int))):=(awv (a:=⟨lb,lo,none⟩) (hso xP)).trans c0;have hwr:IntKind.i64.wrap (x0:Int)=(x0:Int):=by rw[awO];omega
 have Yu:Hid (∀W1:World,Pr 32 B W1 g (slice ma p.m.length mc) (slice ha p.hs.length hc0) (slice pa p.ps.length pc) (slice ua un uc) { p with fr:=false }->Tz B W1->∀W:World,Gr W1 W->Calls prog 12 #[agg #[slice ma p.m.length mc,slice ha p.hs.length hc0],slice pa p.ps.length pc,int i64 (x0:Int)] W _):=fun W1 X T W G=>agX (p:={ p with fr:=false }) hx0 X T G
 obtain⟨hE1,hq⟩:=EF p x0;have HQ:Hid (lZ p [x0]=_):=hq;have HE:Hid (Bz p x0<=100):=hE1;clear X X1 F1 T hq hE1 c0 hlb xP;rw[show Bz { p with fr:=false } x0=Bz p x0 from rfl]at Yu;generalize Bz p x0=E at *
 go_simp;go_wp2_with fail;refine aK (fun W1=>Pr 32 B W1 g (slice ma p.m.length mc) (slice ha p.hs.length hc0) (slice pa p.ps.length pc) (slice ua un uc) { p with fr:=false }/\Fx (Dm g (slice ma p.m.length mc) (slice ha p.hs.length hc0) (slice pa p.ps.length pc)) (Dm g (slice ma p.m.length mc) (slice ha p.hs.length hc0) (slice pa p.ps.length pc)) wr W1/\Tz B W1/\W1.cell? ⟨lb,lo,none⟩=some (int .u32 (x0:Int))) ⟨jy,mO,HT1,jw⟩ ?_;clear jy mO HT1 jw z4 f4;rintro w1 ⟨X,F,T,c0⟩;have hlb:lb<w1.heap.size:=awo _ _ c0;have HU:Hid _:=Yu w1 X T;have HX:Hid (Pr 32 B w1 g (slice ma p.m.length mc) (slice ha p.hs.length hc0) (slice pa p.ps.length pc) (slice ua un uc) { p with fr:=false }):=X;have HF:Hid (Fx (Dm g (slice ma p.m.length mc) (slice ha p.hs.length hc0) (slice pa p.ps.length pc)) (Dm g (slice ma p.m.length mc) (slice ha p.hs.length hc0) (slice pa p.ps.length pc)) wr w1):=F;have HT:Hid (Tz B w1):=T;have z0:=fA X.blk;have z1:=eH X.blk;have z2:=uJ X.blk;have hgl:g<w1.heap.size:=(gs X.blk).1;clear X F T Yu;refine Rg.iT (T:=JW) [Rg.Val (pointer (some ⟨g,0,none⟩)),Rg.Val (pointer (some ⟨g,0,none⟩)),Rg.Val (pointer (some ⟨g,0,none⟩)),Rg.Val (agg #[slice ma p.m.length mc,slice ha p.hs.length hc0]),Rg.Val (pointer (some ⟨g,0,none⟩)),Rg.Val (pointer (some ⟨g,0,none⟩)),Rg.Val (pointer (some ⟨g,2,none⟩)),Rg.Val (slice pa p.ps.length pc),Rg.Val (slice (some ⟨lb,lo,none⟩) 1 c1),Rg.Val (pointer (some ⟨lb,lo,none⟩)),Rg.Val (int .u32 (x0:Int)),Rg.Val (int i64 (x0:Int)),uq zi { p with fr:=false } E,uq zi { p with fr:=false } E,NL zi { p with fr:=false } E,kCa,Rg.Val (int i64 (E:Nat)),Rg.oP 47 #[slice none 0 0,slice none 0 0,slice none 0 0,int i64 0] 19 14,Rg.oP 54 #[int i64 0,slice none 0 0,int i64 0,int i64 0] 20 15,Rg.oQ 17 14,Rg.oQ 18 15,Rg.Val (int i64 (E:Nat))] [[],[0],[1],[2],[],[4],[5],[6],[],[8],[9],[10],[3,7,11],[12],[13],[13],[13],[],[],[17,14],[18,15],[16]] al al ?_ ?_
 ·simp only[Rg.BZ,Rg.Hd,Rg.dep,Rg.Ob,Rg.at',Rg.Val,Rg.Fa,Rg.nT,Rg.oP,Rg.oQ,Rg.made,Rg.l8,List.replicate,arM,ar8,art,ars,arC,arJ,arV,Act.put,arp,Rg.inT,tS,JW,tM,tB,arG,arL,axq,axr,aw7,uq,NL,kCa];refine⟨?_,?_,?_,?_,?_,?_,?_,?_,?_,?_,?_,?_,?_,?_,?_,?_,?_,?_,?_,?_,?_,?_,trivial⟩
  case refine_20=>exact⟨fun _ _=>trivial,Ri,fun w v ⟨x,e,h⟩=>⟨_,e,rfl,MX h.one⟩⟩
  case refine_21=>exact⟨fun _ _=>trivial,xB,fun w v ⟨x,e,h⟩=>⟨_,e,rfl,MX h⟩⟩
  all_goals intro W hW
  all_goals (have q0:=(hW.cell _ (by exact hgl)).trans z0;have q1:=(hW.cell _ (by exact hgl)).trans z1;have q2:=(hW.cell _ (by exact hgl)).trans z2;have r0:=(hW.cell _ (by exact hlb)).trans c0)
  case refine_13=>
   rintro _ rfl _ rfl _ rfl K hK;go_simp;refine(HU W hW).mono ?_;rintro e w' ⟨x,rfl,h,G⟩;exact hK.out _ _ G ⟨x,rfl,h⟩ trivial
  all_goals intros
  all_goals rename_i K hK
  all_goals first|(rename_i hh;obtain⟨_,rfl,hf⟩:=hh)|skip
  all_goals subst_vars
  all_goals go_simp
  all_goals first|exact hK.out _ _ (Gr.refl _) rfl trivial|exact hK.out _ _ br ⟨_,rfl,hW.size⟩ ⟨_,rfl,hW.size,awk _ _⟩|exact hK.out _ _ (Gr.refl _) ⟨_,rfl,hf⟩ trivial|exact hK.out _ _ (Gr.refl _) ⟨_,rfl,hf.1⟩ trivial|exact hK.out _ _ (Gr.refl _) ⟨_,rfl,hf.2⟩ trivial
 ·intro w9 G9;simp only[Rg.Fin',Rg.Val,Rg.Fa,Rg.nT,Rg.oP,Rg.oQ,aw5,Act.put,arp,art,ars,arC,arJ,arV,ar6,asi,arT,arU,ast,asu,uq,NL,kCa];rintro _ rfl _ rfl _ rfl _ rfl _ rfl _ rfl _ rfl _ rfl _ rfl _ rfl _ rfl _ rfl v10-v11-_ ⟨⟨s0,s1,s2,s3⟩,rfl,R⟩ v13-_ rfl _ ⟨b',rfl,hb0⟩ v16-v17 hct v18-_ rfl;have hb:=pF hct;have y0:=fA hb;have y1:=eH hb;have y2:=uJ hb;have y3:=Ca hb;have hk:=(HX.gr G9).blk;have HRR:Hid _:=R;have HK:Hid _:=hk;have HG:Hid (Gr w1 w9):=G9;clear hct hb hb0 hk G9 R;by_cases hE:E=0
  ·subst hE;have HA:=ZV.yes (p:={ p with fr:=false }) (fr':=false) (kY:=p.us) (x:=(s0,s1,s2,s3)) rM HX HT (fun h=>by cases h) HG HRR (fun h=>by cases h) ⟨ua,un,uc,rfl⟩ (Ch.refl g w9) HK;rw[awn rfl]at HQ;rw[<-HQ.out]at HA;have Hg:Hid (Calls prog 11 #[pointer (some ⟨g,0,none⟩),agg #[s0,s1,s2,s3],int i64 0] _ _):=HA;clear HA;go_wp2_with fail;refine Hg.mono ?_;rintro e w' ⟨rfl,h⟩;have HA:Hid (bO 32 B w1 g (slice ma p.m.length mc) (slice ha p.hs.length hc0) (slice pa p.ps.length pc) (lZ p [x0]) (returned (str (lZ p [x0]).2)) w'):=⟨rfl,h⟩;clear h;go_wp2_with fail;go_ret;exact bO.pre (D:=(_,_,_)) (Fx.aJ dF.out) (bO.pre (D:=(_,_,_)) HF HA)
  ·have Hg:Hid (Calls prog 11 #[pointer (some ⟨g,0,none⟩),agg #[s0,s1,s2,s3],int i64 (E:Nat)] w9 fun e w'=>e=returned (str (aB qj [E]))/\Gr w9 w'):=rM.n hE HE HRR.one fun G=>(HT.gr (HG.trans G)).Bu
   have hE':¬(E:Int)=0:=ab;rw[awm hE]at HQ;go_wp2_with fail;refine Hg.mono ?_;rintro e w' ⟨rfl,h⟩;have uu:Hid (Gr w1 w'):=HG.trans h;clear h;go_wp2_with fail;go_ret;rw[HQ.out];exact bO.pre (D:=(_,_,_)) (Fx.aJ dF.out) (bO.pre (D:=(_,_,_)) HF ⟨rfl,_,_,_,_,HX.gr uu,Fx.aJ uu⟩)
end Vp
namespace Vp
open Mm Hh Hc Mc Ud As En Kc
variable{p:Pl}
theorem TU (l:List UInt8)(pc:Int):∀n k,(Bk.blk l pc n k).length≤n
 |0,_=>arA _
 |n+1,k=>by
  unfold Bk.blk;split
  ·simp only[arM];split
   ·simp
   ·have:=TU l pc n (k+1);omega
  ·simp
structure Ik (N:Nat) (L:List Int) (w:World) (x:Int×Value):Prop where
 sl:∃a c,x.2=slice a L.length c
 row:w.ownsRow N 59 5 x.2 L.length (Bk.uQ L)
def BM (L:List Int):Rg.Kd N tB:=Rg.nT (fun x:Int×Value=>agg #[int .u32 x.1,x.2]) (fun w x=>Ik N L w x) (fun g h=>⟨h.sl,aD h.row g⟩) fun hb ht _ h=>⟨h.sl,aj h.row fun k o f e=>uI (aa e hb (by have:=arL.1 ht;injection this with h1 _;rw[h1];decide))⟩
theorem BN {W}{mc}{l}{x0:Nat}(M:Mem W ma l.length l)(T:Dw.oV W)(hn:l.length<=4096)(hx:x0<4294967296)(hN:N<=W.heap.size):Calls prog 15 #[slice ma l.length mc,int .u32 (x0:Int)] W fun e w'=>∃x,e=returned (agg #[int .u32 x.1,x.2])/\Ik N (Bk.blk l x0 16 0) w' x/\Gr W w':=by
 refine(Bk.wG mc (x0:Int) M T hn ab ab).mono ?_;rintro e w' ⟨v,rfl,h,G⟩;rw[show Bk.bkX l.length l x0=Bk.blk l x0 16 0 from ak]at h;obtain⟨a,c,rfl⟩:=Bk.oK h;refine⟨(_,_),rfl,⟨⟨a,c,rfl⟩,?_⟩,G⟩;rcases h with⟨h1,h2|⟨k,cap,cur,hv,hk,r⟩⟩
 ·exact⟨h1,.inl h2⟩
 ·exact⟨h1,.inr ⟨k,cap,cur,hv,arF hN hk,r⟩⟩
theorem Ni (hw:WS.headD []=jk)(hn:aS WS.tail=some [x0])(A:Hid (La w g B M H P U p V WS (gm p [x0])))(hf:p.fr=true/\x0<=p.us.length):Calls prog 6 #[pointer (some ⟨g,0,none⟩),V] w (bO 32 B w g M H P (gm p [x0])):=by
 refine(aV A).2 ⟨?_⟩;unfold aV;dsimp only;intro k b o wr u4 u8 u9 u33 u34 u35 u36 u37 u38 u39 u40 u41 u42 u43 u44 u45 u46 u47 u48 u49 u50 u51 u52 m dn a1 c1 s0 VV dF jl fO iV HV K2 A2 K1 A1 K0 A0;have e0:=iV.out;rw[hn]at e0;obtain rfl:=aws e0;rw[HV.out,<-jl.out,hw,show str jk=string ⟨#[98,97,99,107]⟩from rfl];have X:=A.X.gr dF.out;have hx:=bX hn;have hx0:=hx x0 aq;obtain⟨lb,lo,rfl, -,hc⟩:=fO.out.1.spot aq;have c0:wr.cell? ⟨lb,lo,none⟩=some (int .u32 (x0:Int)):=hc 0 x0 rfl;have hlb:=awo _ _ c0;have xP:lb≠g:=fun e=>by
  have h1:=fO.out.2 _ _ rfl;have h2:=(gs A.X.blk).1;omega
 obtain⟨N,n1,n2,n3,n4⟩:=X.row;obtain⟨ua,uc,rfl,hlc,Yt⟩:=(n4 hf.1).us;obtain⟨ma,mc,ha,hc0,pa,pc,_,_,_,rfl,rfl,rfl, -⟩:=X.open;have z3:=Ca X.blk;have z4:=tO X.blk;have hgl:=(gs X.blk).1;rw[hf.1]at z4;have HX0:=kH X;have Yu:Hid (∀W:World,Gr wr W->Pr 32 B W g (slice ma p.m.length mc) (slice ha p.hs.length hc0) (slice pa p.ps.length pc) (slice ua p.us.length uc) p->_):=fun W G Y=>ubk (n:=x0) Y hf.1 (Yt.of G) hlc (Gr.refl W)
 have hwr:IntKind.i64.wrap (x0:Int)=(x0:Int):=by rw[awO];omega
 have hcmp:(x0:Int)<=(p.us.length:Int):=by have:=hf.2;omega
 have TV:_=true:=awC hcmp;have Yw:=kH hf;go_simp;go_wp2_with fail;go_quiet (fail);go_wp2_with fail;refine aK (fun W=>Gr wr W) ((Gr.refl wr).drewN _) ?_;rintro wd Gd;have HGD:=kH (dF.out.trans Gd);have X:=HX0.gr Gd;have HX:=kH X;have c0:=(Gd.cell _ (by exact hlb)).trans c0;have hlb:=awo _ _ c0;have z0:=fA X.blk;have z1:=eH X.blk;have z3:=Ca X.blk;have hgl:=(gs X.blk).1;have HU:Hid (∀W:World,Gr wd W->Calls prog 17 #[agg #[slice ma p.m.length mc,slice ha p.hs.length hc0],slice ua p.us.length uc,int i64 (x0:Int)] W fun e w'=>∃x:Value×Value,e=returned (tuple #[agg #[x.1,x.2],int i64 ((0:Nat):Int)])/\Bf p x0 wd.heap.size w' x/\Gr W w'):=fun W G=>(Yu W (Gd.trans G) (X.gr G)).mono fun e w' ⟨x,he,R,G2⟩=>⟨x,by rw[he,awn Yw.out.2],⟨R.one,fun hn=>by
  obtain⟨a,b,c,d,h1,h2⟩:=R.yes hn;exact⟨a,b,c,d,h1,JU h2 G.size⟩⟩,G2⟩
 have HP:Hid (∀(w9 w':World) (x:Value×Value),Gr wd w9->Bf p x0 wd.heap.size w9 x->Ch g w9 w'->w'.heap[g]?=some (cells #[x.1,x.2,slice pa p.ps.length pc,slice ua p.us.length uc,.bool false] 32 (0,0))->bO 32 B wd g (slice ma p.m.length mc) (slice ha p.hs.length hc0) (slice pa p.ps.length pc) (gm p [x0]) (returned (str sU)) w'):=fun w9 w' x G R Q hb=>by
  obtain⟨ma1,mc1,ha1,hc1,rfl,Y⟩:=R.yes Yw.2;exact JV X Yw.1 Yw.2 G Y Q hb rfl
 refine Rg.iT (T:=tM) [Rg.Val (pointer (some ⟨g,0,none⟩)),Rg.Val (pointer (some ⟨g,0,none⟩)),Rg.Val (pointer (some ⟨g,0,none⟩)),Rg.Val (agg #[slice ma p.m.length mc,slice ha p.hs.length hc0]),Rg.Val (pointer (some ⟨g,0,none⟩)),Rg.Val (pointer (some ⟨g,0,none⟩)),Rg.Val (pointer (some ⟨g,3,none⟩)),Rg.Val (slice ua p.us.length uc),Rg.Val (slice (some ⟨lb,lo,none⟩) 1 c1),Rg.Val (pointer (some ⟨lb,lo,none⟩)),Rg.Val (int .u32 (x0:Int)),Rg.Val (int i64 (x0:Int)),ZU notM p x0 0,ZU notM p x0 0,kMa notM p x0,Rg.Val (int i64 (0:Nat)),Rg.oP 28 #[slice none 0 0,slice none 0 0] 17 14,Rg.oQ 16 14,Rg.Val (int i64 (0:Nat))] [[],[0],[1],[2],[],[4],[5],[6],[],[8],[9],[10],[3,7,11],[12],[13],[13],[],[16,14],[15]] al al ?_ ?_
 ·simp only[Rg.BZ,Rg.Hd,Rg.dep,Rg.Ob,Rg.at',Rg.Val,Rg.Fa,Rg.nT,Rg.oP,Rg.oQ,Rg.made,Rg.l8,List.replicate,arM,ar8,art,ars,arC,arJ,arV,Act.put,arp,Rg.inT,tS,JW,tM,tB,arG,arL,axq,axr,aw7,ZU,kMa];refine⟨?_,?_,?_,?_,?_,?_,?_,?_,?_,?_,?_,?_,?_,?_,?_,?_,?_,?_,?_,trivial⟩
  case refine_18=>exact⟨fun _ _=>trivial,Ud.GM,fun w v ⟨x,e,h⟩=>⟨_,e,rfl,all2 h.one⟩⟩
  all_goals intro W hW
  all_goals (have q0:=(hW.cell _ (by exact hgl)).trans z0;have q1:=(hW.cell _ (by exact hgl)).trans z1;have q3:=(hW.cell _ (by exact hgl)).trans z3;have r0:=(hW.cell _ (by exact hlb)).trans c0)
  case refine_13=>
   rintro _ rfl _ rfl _ rfl K hK;go_simp;refine(HU W hW).mono ?_;rintro e w' ⟨x,rfl,h,G⟩;exact hK.out _ _ G ⟨x,rfl,h⟩ trivial
  all_goals intros
  all_goals rename_i K hK
  all_goals first|(rename_i hh;obtain⟨_,rfl,hf⟩:=hh)|skip
  all_goals subst_vars
  all_goals go_simp
  all_goals first|exact hK.out _ _ (Gr.refl _) rfl trivial|exact hK.out _ _ br ⟨_,rfl,hW.size⟩ ⟨_,rfl,hW.size,awk _ _⟩|exact hK.out _ _ (Gr.refl _) ⟨_,rfl,hf⟩ trivial|exact hK.out _ _ (Gr.refl _) ⟨_,rfl,hf.1⟩ trivial|exact hK.out _ _ (Gr.refl _) ⟨_,rfl,hf.2⟩ trivial
 ·intro w9 G9;simp only[Rg.Fin',Rg.Val,Rg.Fa,Rg.nT,Rg.oP,Rg.oQ,aw5,Act.put,arp,art,ars,arC,arJ,arV,ar6,asi,arT,arU,ast,asu,ZU,kMa];rintro _ rfl _ rfl _ rfl _ rfl _ rfl _ rfl _ rfl _ rfl _ rfl _ rfl _ rfl _ rfl v10-v11-_ ⟨⟨s0,s1⟩,rfl,R⟩ _ rfl _ ⟨b',rfl,hb0⟩ v15 hct _ rfl;have hb:=pF hct;have y0:=fA hb;have y1:=eH hb;have hk:=(HX.gr G9).blk;rw[Yw.out.1]at hk;have x0':=fA hk;have x1:=eH hk;have x4:=tO hk;have f0:w9.frozen? ⟨g,0,none⟩=false:=iA hk;have f1:w9.frozen? ⟨g,1,none⟩=false:=iA hk;have f4:w9.frozen? ⟨g,4,none⟩=false:=iA hk;have ne:=rG hk hb an;have ne2:=ne.symm;obtain⟨⟨a1,n1,c1,rfl⟩,a2,n2,c2,rfl⟩:(∃a n c,s0=slice a n c)/\∃a n c,s1=slice a n c:=by
   obtain⟨_,_,_,_,hx, -⟩:=R.yes Yw.2;obtain⟨rfl,rfl⟩:=Prod.mk.inj hx;exact⟨⟨_,_,_,rfl⟩,_,_,_,rfl⟩
  have HA:Hid (bO 32 B wd g (slice ma p.m.length mc) (slice ha p.hs.length hc0) (slice pa p.ps.length pc) (gm p [x0]) (returned (str sU)) (((w9.setCell ⟨g,0,none⟩ (slice a1 n1 c1)).setCell ⟨g,1,none⟩ (slice a2 n2 c2)).setCell ⟨g,4,none⟩ (.bool false))):=HP w9 _ (_,_) G9 R ((((Ch.refl g w9).setCell 0 _).setCell 1 _).setCell 4 _) (by
   have e0:=hss (i:=0) (v:=slice a1 n1 c1) hk;have e1:=hss (i:=1) (v:=slice a2 n2 c2) e0;rw[hss e1];simp)
  have HQ:Hid (∃RR,gm p [x0]=(RR,sU)):=⟨(gm p [x0]).1,by simp only[gm,awn Yw.out]⟩;go_wp2_with fail;go_ret;obtain⟨RR,hq⟩:=HQ;have h:=bO.pre (D:=(_,_,_)) (Fx.aJ HGD) HA;rw[hq]at h ⊢;exact h
theorem TW (hw:WS.headD []=iP)(hn:aS WS.tail=some [x0])(A:Hid (La w g B M H P U p V WS ((p,sV p [x0]))))(T:Tz B w):Calls prog 6 #[pointer (some ⟨g,0,none⟩),V] w (bO 32 B w g M H P ((p,sV p [x0]))):=by
 refine(aV A).2 ⟨?_⟩;unfold aV;dsimp only;intro k b o wr u4 u8 u9 u33 u34 u35 u36 u37 u38 u39 u40 u41 u42 u43 u44 u45 u46 u47 u48 u49 u50 u51 u52 m dn a1 c1 s0 VV dF jl fO iV HV K2 A2 K1 A1 K0 A0;have e0:=iV.out;rw[hn]at e0;obtain rfl:=aws e0;rw[HV.out,<-jl.out,hw,show str iP=string ⟨#[98,108,111,99,107]⟩from rfl];have X:=A.X.gr dF.out;have hx:=bX hn;have hx0:=hx x0 aq;obtain⟨lb,lo,rfl, -,hc⟩:=fO.out.1.spot aq;have c0:wr.cell? ⟨lb,lo,none⟩=some (int .u32 (x0:Int)):=hc 0 x0 rfl;have hlb:=awo _ _ c0;have xP:lb≠g:=fun e=>by
  have h1:=fO.out.2 _ _ rfl;have h2:=(gs A.X.blk).1;omega
 obtain⟨ma,mc,ha,hc0,pa,pc,ua,un,uc,rfl,rfl,rfl,rfl,NM, -⟩:=X.open;have z0:=fA X.blk;have hgl:=(gs X.blk).1;have HX:=kH X;have HU:Hid (∀W:World,Gr wr W->_):=fun W G=>BN (mc:=mc) (x0:=x0) (NM.of G) ((T.gr dF.out).gr G).Bu.tb X.ok.m4 hx0 G.size
 have HL:Hid ((Bk.blk p.m x0 16 0).length<=16):=TU _ _ _ _;have HQ:Hid (sV p [x0]=dg (Bk.blk p.m x0 16 0).length):=rfl;generalize Bk.blk p.m x0 16 0=L at *
 go_simp;go_wp2_with fail;refine Rg.iT (T:=tB) [Rg.Val (pointer (some ⟨g,0,none⟩)),Rg.Val (pointer (some ⟨g,0,none⟩)),Rg.Val (pointer (some ⟨g,0,none⟩)),Rg.Val (pointer (some ⟨g,0,none⟩)),Rg.Val (slice ma p.m.length mc),Rg.Val (slice (some ⟨lb,lo,none⟩) 1 c1),Rg.Val (pointer (some ⟨lb,lo,none⟩)),Rg.Val (int .u32 (x0:Int)),BM L,Rg.oP 64 #[int .u32 0,slice none 0 0] 10 8,Rg.oQ 9 8] [[],[0],[1],[2],[3],[],[5],[6],[4,7],[],[9,8]] al al ?_ ?_
 ·simp only[Rg.BZ,Rg.Hd,Rg.dep,Rg.Ob,Rg.at',Rg.Val,Rg.Fa,Rg.nT,Rg.oP,Rg.oQ,Rg.made,Rg.l8,List.replicate,arM,ar8,art,ars,arC,arJ,arV,Act.put,arp,Rg.inT,tS,JW,tM,tB,arG,arL,axq,axr,aw7,BM];refine⟨?_,?_,?_,?_,?_,?_,?_,?_,?_,?_,?_,trivial⟩
  case refine_11=>exact⟨fun _ _=>trivial,Bk.iB,fun w v ⟨x,e,h⟩=>⟨_,e,rfl,by obtain⟨a,c,h1⟩:=h.sl;simp[h1,Value.oneCell']⟩⟩
  all_goals intro W hW
  all_goals (have q0:=(hW.cell _ (by exact hgl)).trans z0;have r0:=(hW.cell _ (by exact hlb)).trans c0)
  case refine_9=>
   rintro _ rfl _ rfl K hK;go_simp;refine(HU W hW).mono ?_;rintro e w' ⟨x,rfl,h,G⟩;exact hK.out _ _ G ⟨x,rfl,h⟩ trivial
  all_goals intros
  all_goals rename_i K hK
  all_goals first|(rename_i hh;obtain⟨_,rfl,hf⟩:=hh)|skip
  all_goals subst_vars
  all_goals go_simp
  all_goals first|exact hK.out _ _ (Gr.refl _) rfl trivial|exact hK.out _ _ br ⟨_,rfl,hW.size⟩ ⟨_,rfl,hW.size,awk _ _⟩|exact hK.out _ _ (Gr.refl _) ⟨_,rfl,hf⟩ trivial|exact hK.out _ _ (Gr.refl _) ⟨_,rfl,hf.1⟩ trivial|exact hK.out _ _ (Gr.refl _) ⟨_,rfl,hf.2⟩ trivial
 ·intro w9 G9;simp only[Rg.Fin',Rg.Val,Rg.Fa,Rg.nT,Rg.oP,Rg.oQ,aw5,Act.put,arp,art,ars,arC,arJ,arV,ar6,asi,arT,arU,ast,asu,BM];rintro _ rfl _ rfl _ rfl _ rfl _ rfl _ rfl _ rfl _ rfl _ ⟨⟨s0,s1⟩,rfl,R⟩ _ ⟨b',rfl,hb0⟩ v10 hct;have hb:=pF hct;have HR:=kH R;obtain⟨a1,c2,h1⟩:=R.sl;dsimp only at h1;subst h1;have y1:=eH hb;have HG:=kH G9;have HD:Hid (∀W:World,Calls prog 13 #[int i64 (L.length:Int)] W _):=fun W=>Ht (by have:=HL.out;omega) W
  go_wp2_with fail;refine(HD _).mono ?_;rintro e w' ⟨rfl,G⟩;have uu:=kH (HG.trans G);go_wp2_with fail;go_ret;rw[HQ.out];exact bO.pre (D:=(_,_,_)) (Fx.aJ dF.out) ⟨rfl,_,_,_,_,HX.gr uu,Fx.aJ uu⟩
theorem Nj (hw:WS.headD []=j3)(hn:aS WS.tail=some [x0])(A:Hid (La w g B M H P U p V WS ((p,gY p [x0]))))(T:Tz B w)(hf:Bk.blk p.m x0 16 0=[]):Calls prog 6 #[pointer (some ⟨g,0,none⟩),V] w (bO 32 B w g M H P ((p,gY p [x0]))):=by
 refine(aV A).2 ⟨?_⟩;unfold aV;dsimp only;intro k b o wr u4 u8 u9 u33 u34 u35 u36 u37 u38 u39 u40 u41 u42 u43 u44 u45 u46 u47 u48 u49 u50 u51 u52 m dn a1 c1 s0 VV dF jl fO iV HV K2 A2 K1 A1 K0 A0;have e0:=iV.out;rw[hn]at e0;obtain rfl:=aws e0;rw[HV.out,<-jl.out,hw,show str j3=string ⟨#[115,104,111,119]⟩from rfl];have X:=A.X.gr dF.out;have hx:=bX hn;have hx0:=hx x0 aq;obtain⟨lb,lo,rfl, -,hc⟩:=fO.out.1.spot aq;have c0:wr.cell? ⟨lb,lo,none⟩=some (int .u32 (x0:Int)):=hc 0 x0 rfl;have hlb:=awo _ _ c0;have xP:lb≠g:=fun e=>by
  have h1:=fO.out.2 _ _ rfl;have h2:=(gs A.X.blk).1;omega
 obtain⟨ma,mc,ha,hc0,pa,pc,ua,un,uc,rfl,rfl,rfl,rfl,NM, -⟩:=X.open;have z0:=fA X.blk;have hgl:=(gs X.blk).1;have HX:=kH X;have HU:Hid (∀W:World,Gr wr W->_):=fun W G=>BN (mc:=mc) (x0:=x0) (NM.of G) ((T.gr dF.out).gr G).Bu.tb X.ok.m4 hx0 G.size
 have HQ:Hid (gY p [x0]=ZG):=by unfold Hid gY;simp only[hf]
 rw[hf]at HU;obtain⟨L,hL⟩:∃L:List Int,L=[]:=⟨_,rfl⟩;rw[<-hL]at HU;have hL0:L.length=0:=by rw[hL];rfl
 go_simp;go_wp2_with fail;refine Rg.iT (T:=tB) [Rg.Val (pointer (some ⟨g,0,none⟩)),Rg.Val (pointer (some ⟨g,0,none⟩)),Rg.Val (pointer (some ⟨g,0,none⟩)),Rg.Val (pointer (some ⟨g,0,none⟩)),Rg.Val (slice ma p.m.length mc),Rg.Val (slice (some ⟨lb,lo,none⟩) 1 c1),Rg.Val (pointer (some ⟨lb,lo,none⟩)),Rg.Val (int .u32 (x0:Int)),BM L,Rg.oP 64 #[int .u32 0,slice none 0 0] 10 8,Rg.oQ 9 8] [[],[0],[1],[2],[3],[],[5],[6],[4,7],[],[9,8]] al al ?_ ?_
 ·simp only[Rg.BZ,Rg.Hd,Rg.dep,Rg.Ob,Rg.at',Rg.Val,Rg.Fa,Rg.nT,Rg.oP,Rg.oQ,Rg.made,Rg.l8,List.replicate,arM,ar8,art,ars,arC,arJ,arV,Act.put,arp,Rg.inT,tS,JW,tM,tB,arG,arL,axq,axr,aw7,BM];refine⟨?_,?_,?_,?_,?_,?_,?_,?_,?_,?_,?_,trivial⟩
  case refine_11=>exact⟨fun _ _=>trivial,Bk.iB,fun w v ⟨x,e,h⟩=>⟨_,e,rfl,by obtain⟨a,c,h1⟩:=h.sl;simp[h1,Value.oneCell']⟩⟩
  all_goals intro W hW
  all_goals (have q0:=(hW.cell _ (by exact hgl)).trans z0;have r0:=(hW.cell _ (by exact hlb)).trans c0)
  case refine_9=>
   rintro _ rfl _ rfl K hK;go_simp;refine(HU W hW).mono ?_;rintro e w' ⟨x,rfl,h,G⟩;exact hK.out _ _ G ⟨x,rfl,h⟩ trivial
  all_goals intros
  all_goals rename_i K hK
  all_goals first|(rename_i hh;obtain⟨_,rfl,hf⟩:=hh)|skip
  all_goals subst_vars
  all_goals go_simp
  all_goals first|exact hK.out _ _ (Gr.refl _) rfl trivial|exact hK.out _ _ br ⟨_,rfl,hW.size⟩ ⟨_,rfl,hW.size,awk _ _⟩|exact hK.out _ _ (Gr.refl _) ⟨_,rfl,hf⟩ trivial|exact hK.out _ _ (Gr.refl _) ⟨_,rfl,hf.1⟩ trivial|exact hK.out _ _ (Gr.refl _) ⟨_,rfl,hf.2⟩ trivial
 ·intro w9 G9;simp only[Rg.Fin',Rg.Val,Rg.Fa,Rg.nT,Rg.oP,Rg.oQ,aw5,Act.put,arp,art,ars,arC,arJ,arV,ar6,asi,arT,arU,ast,asu,BM];rintro _ rfl _ rfl _ rfl _ rfl _ rfl _ rfl _ rfl _ rfl _ ⟨⟨s0,s1⟩,rfl,R⟩ _ ⟨b',rfl,hb0⟩ v10 hct;have hb:=pF hct;have HR:=kH R;obtain⟨a1,c2,h1⟩:=R.sl;dsimp only at h1;subst h1;have y1:=eH hb;have HG:=kH G9;rw[hL0]at y1;go_wp2_with fail;go_ret;rw[HQ.out];exact bO.pre (D:=(_,_,_)) (Fx.aJ dF.out) ⟨rfl,_,_,_,_,HX.gr HG,Fx.aJ HG⟩
theorem Nk (hw:WS.headD []=j3)(hn:aS WS.tail=some [x0])(A:Hid (La w g B M H P U p V WS ((p,gY p [x0]))))(T:Tz B w){r}(hf:Bk.blk p.m x0 16 0=z::r)(hz:0<=z/\z<4294967296)(hd:¬Dc.aO z=0):Calls prog 6 #[pointer (some ⟨g,0,none⟩),V] w (bO 32 B w g M H P ((p,gY p [x0]))):=by
 refine(aV A).2 ⟨?_⟩;unfold aV;dsimp only;intro k b o wr u4 u8 u9 u33 u34 u35 u36 u37 u38 u39 u40 u41 u42 u43 u44 u45 u46 u47 u48 u49 u50 u51 u52 m dn a1 c1 s0 VV dF jl fO iV HV K2 A2 K1 A1 K0 A0;have e0:=iV.out;rw[hn]at e0;obtain rfl:=aws e0;rw[HV.out,<-jl.out,hw,show str j3=string ⟨#[115,104,111,119]⟩from rfl];have X:=A.X.gr dF.out;have hx:=bX hn;have hx0:=hx x0 aq;obtain⟨lb,lo,rfl, -,hc⟩:=fO.out.1.spot aq;have c0:wr.cell? ⟨lb,lo,none⟩=some (int .u32 (x0:Int)):=hc 0 x0 rfl;have hlb:=awo _ _ c0;have xP:lb≠g:=fun e=>by
  have h1:=fO.out.2 _ _ rfl;have h2:=(gs A.X.blk).1;omega
 obtain⟨ma,mc,ha,hc0,pa,pc,ua,un,uc,rfl,rfl,rfl,rfl,NM, -⟩:=X.open;have z0:=fA X.blk;have hgl:=(gs X.blk).1;have HX:=kH X;have HU:Hid (∀W:World,Gr wr W->_):=fun W G=>BN (mc:=mc) (x0:=x0) (NM.of G) ((T.gr dF.out).gr G).Bu.tb X.ok.m4 hx0 G.size
 have HQ:Hid (gY p [x0]=uH z):=by unfold Hid gY;simp only[hf]
 rw[hf]at HU;have hP:=BI hz.1 hz.2 hd;have ib:=sK (Dc.aM (Dc.aO z)) hz.1 hz.2;have HP:Hid (∀W:World,Gr wr W->Calls prog 16 #[Dw.kv z] W fun e w'=>e=returned (tuple #[str (uH z),int i64 0])/\Gr W w'):=fun W G=>zo ib.1 ib.2 hP ((T.gr dF.out).gr G).Bu
 obtain⟨L,hL⟩:∃L:List Int,L=z::r:=⟨_,rfl⟩;rw[<-hL]at HU;have hq1:0<L.length:=by rw[hL];simp
 have Jk:Hid (∀i v,(Bk.sJ z)[i]?=some v->(Bk.uQ L)[i]?=some v):=fun i v h=>by
  have hi:=(arw.1 h).1;rw[hL];show(Bk.sJ z++_)[i]?=_
  rw[arO hi];exact h
 unfold Dw.kv Dw.dm at HP;unfold Bk.sJ at Jk;generalize uH z=V0 at *
 generalize Dc.jd (Dc.aM (Dc.aO z)) z=i1 at *
 generalize Dc.dh (Dc.aM (Dc.aO z)) z=i2 at *
 generalize Dc.cz (Dc.aM (Dc.aO z)) z=i3 at *
 generalize Dc.bU (Dc.aM (Dc.aO z)) z=i4 at *
 generalize Dc.aO z=i0 at *
 go_simp;go_wp2_with fail;refine Rg.iT (T:=tB) [Rg.Val (pointer (some ⟨g,0,none⟩)),Rg.Val (pointer (some ⟨g,0,none⟩)),Rg.Val (pointer (some ⟨g,0,none⟩)),Rg.Val (pointer (some ⟨g,0,none⟩)),Rg.Val (slice ma p.m.length mc),Rg.Val (slice (some ⟨lb,lo,none⟩) 1 c1),Rg.Val (pointer (some ⟨lb,lo,none⟩)),Rg.Val (int .u32 (x0:Int)),BM L,Rg.oP 64 #[int .u32 0,slice none 0 0] 10 8,Rg.oQ 9 8] [[],[0],[1],[2],[3],[],[5],[6],[4,7],[],[9,8]] al al ?_ ?_
 ·simp only[Rg.BZ,Rg.Hd,Rg.dep,Rg.Ob,Rg.at',Rg.Val,Rg.Fa,Rg.nT,Rg.oP,Rg.oQ,Rg.made,Rg.l8,List.replicate,arM,ar8,art,ars,arC,arJ,arV,Act.put,arp,Rg.inT,tS,JW,tM,tB,arG,arL,axq,axr,aw7,BM];refine⟨?_,?_,?_,?_,?_,?_,?_,?_,?_,?_,?_,trivial⟩
  case refine_11=>exact⟨fun _ _=>trivial,Bk.iB,fun w v ⟨x,e,h⟩=>⟨_,e,rfl,by obtain⟨a,c,h1⟩:=h.sl;simp[h1,Value.oneCell']⟩⟩
  all_goals intro W hW
  all_goals (have q0:=(hW.cell _ (by exact hgl)).trans z0;have r0:=(hW.cell _ (by exact hlb)).trans c0)
  case refine_9=>
   rintro _ rfl _ rfl K hK;go_simp;refine(HU W hW).mono ?_;rintro e w' ⟨x,rfl,h,G⟩;exact hK.out _ _ G ⟨x,rfl,h⟩ trivial
  all_goals intros
  all_goals rename_i K hK
  all_goals first|(rename_i hh;obtain⟨_,rfl,hf⟩:=hh)|skip
  all_goals subst_vars
  all_goals go_simp
  all_goals first|exact hK.out _ _ (Gr.refl _) rfl trivial|exact hK.out _ _ br ⟨_,rfl,hW.size⟩ ⟨_,rfl,hW.size,awk _ _⟩|exact hK.out _ _ (Gr.refl _) ⟨_,rfl,hf⟩ trivial|exact hK.out _ _ (Gr.refl _) ⟨_,rfl,hf.1⟩ trivial|exact hK.out _ _ (Gr.refl _) ⟨_,rfl,hf.2⟩ trivial
 ·intro w9 G9;simp only[Rg.Fin',Rg.Val,Rg.Fa,Rg.nT,Rg.oP,Rg.oQ,aw5,Act.put,arp,art,ars,arC,arJ,arV,ar6,asi,arT,arU,ast,asu,BM];rintro _ rfl _ rfl _ rfl _ rfl _ rfl _ rfl _ rfl _ rfl _ ⟨⟨s0,s1⟩,rfl,R⟩ _ ⟨b',rfl,hb0⟩ v10 hct;have hb:=pF hct;have HR:=kH R;obtain⟨a1,c2,h1⟩:=R.sl;dsimp only at h1;subst h1;have y1:=eH hb;have HG:=kH G9;obtain⟨gb,hgb,hcl⟩:∃gb,a1=some ⟨gb,0,none⟩/\∀j u,(Bk.uQ L)[j]?=some u->w9.cell? ⟨gb,0+j,none⟩=some u:=by
   rcases R.row.2 with⟨_,h0⟩|⟨k,cap,cur,hv,_⟩
   ·omega
   ·injection hv with hv;refine⟨k,hv,fun j u hj=>?_⟩;have:=R.row.cells (g:=k) (by rw[hv];rfl) j u hj;rwa[cK]at this
  subst hgb;have d0:=hcl 0 _ (Jk 0 _ rfl);have d1:=hcl 1 _ (Jk 1 _ rfl);have d2:=hcl 2 _ (Jk 2 _ rfl);have d3:=hcl 3 _ (Jk 3 _ rfl);have d4:=hcl 4 _ (Jk 4 _ rfl);simp only[arH]at d0 d1 d2 d3 d4;generalize hq:L.length=q at *
  have hq2:(0:Int)<(q:Int):=ab;have hq3:¬(q:Int)=0:=ab;go_wp2_with fail;refine(HP _ HG).mono ?_;rintro e w' ⟨rfl,G⟩;have uu:=kH (HG.trans G);go_wp2_with fail;go_ret;rw[HQ.out];exact bO.pre (D:=(_,_,_)) (Fx.aJ dF.out) ⟨rfl,_,_,_,_,HX.gr uu,Fx.aJ uu⟩
end Vp
namespace Vp
open Mm Hh Hc Mc Ud As En Kc
variable{p:Pl}
def zH:Array Value:=#[int .u32 0,int .u32 0,int .u32 0,int .u32 0,int .u32 0,int .u32 0,int .u32 0,int .u32 0,int .u32 0,int .u32 0,int .u32 0,int .u32 0,int .u32 0,int .u32 0,int .u32 0,int .u32 0,int .u32 0,int .u32 0,int .u32 0,int .u32 0,int .u32 0,int .u32 0,int .u32 0,int .u32 0,int .u32 0,int .u32 0,int .u32 0,int .u32 0,int .u32 0,int .u32 0,int .u32 0,int .u32 0,int .u32 0,.bool false,int .u32 0,int i64 0,int i64 0]
def tH:List (TypeId×Array Value):=[(43,zH)]
theorem TY (hw:WS.headD []=qi)(hn:aS WS.tail=some [x0])(A:Hid (La w g B M H P U p V WS ((p,rz p [x0]))))  (hk:x0<p.hs.length):Calls prog 6 #[pointer (some ⟨g,0,none⟩),V] w (bO 32 B w g M H P ((p,rz p [x0]))):=by
 refine(aV A).2 ⟨?_⟩;unfold aV;dsimp only;intro k b o wr u4 u8 u9 u33 u34 u35 u36 u37 u38 u39 u40 u41 u42 u43 u44 u45 u46 u47 u48 u49 u50 u51 u52 m dn a1 c1 s0 VV dF jl fO iV HV K2 A2 K1 A1 K0 A0;have e0:=iV.out;rw[hn]at e0;obtain rfl:=aws e0;rw[HV.out,<-jl.out,hw,show str qi=string ⟨#[104,97,114,116,63]⟩from rfl];have X:=A.X.gr dF.out;have hx:=bX hn;have hx0:=hx x0 aq;obtain⟨lb,lo,rfl, -,hc⟩:=fO.out.1.spot aq;have c0:wr.cell? ⟨lb,lo,none⟩=some (int .u32 (x0:Int)):=hc 0 x0 rfl;have hlb:lb<wr.heap.size:=awo _ _ c0;have xP:lb≠g:=fun e=>by
  have h1:=fO.out.2 _ _ rfl;have h2:=(gs A.X.blk).1;omega
 clear hc hx;clear e0 iV jl HV fO hw hn s0 VV;have h4:=X.ok.h4;have HX0:Hid _:=X;obtain⟨ma,mc,ha,hc0,pa,pc,ua,un,uc,rfl,rfl,rfl,rfl, -⟩:=X.open;have z1:=eH X.blk;have hgl:g<wr.heap.size:=(gs X.blk).1;have hwr:IntKind.i64.wrap (x0:Int)=(x0:Int):=by rw[awO];omega
 have hcmp:(x0:Int)<(p.hs.length:Int):=ab;have TV:decide ((x0:Int)<(p.hs.length:Int))=true:=awC hcmp;have HK:Hid (x0<p.hs.length):=hk;clear X hk;go_simp;go_wp2_with fail;go_quiet (fail);go_wp2_with fail;refine aK (fun W=>Gr wr W) ((Gr.refl wr).drewN _) ?_;rintro wd Gd;have HGD:=kH (dF.out.trans Gd);have X:=HX0.gr Gd;obtain⟨gh,hc1,st,cs,gP,rs,L0,e1,hrg,A0⟩:=JX X HK;injection e1 with e1 _ e2;subst e1 e2;have HQ:=kH A0.res;have HX:=kH X;have HA:=kH A0;have HRG:=kH hrg;have c0:=(Gd.cell _ (by exact hlb)).trans c0;have hlb:=awo _ _ c0;have z1:=eH X.blk;have hgl:=(gs X.blk).1;obtain⟨⟨s1,s2,s3,s4⟩,hrw,hll, -, -, -⟩:=A0;have qY:=kH hll;have HRW:=kH hrw;refine Rg.iT (T:=tH) [Rg.Val (pointer (some ⟨g,0,none⟩)),Rg.Val (pointer (some ⟨g,0,none⟩)),Rg.Val (pointer (some ⟨g,0,none⟩)),Rg.Val (pointer (some ⟨g,1,none⟩)),Rg.Val (slice (some ⟨gh,0,none⟩) p.hs.length hc0),Rg.Val (slice (some ⟨lb,lo,none⟩) 1 c1),Rg.Val (pointer (some ⟨lb,lo,none⟩)),Rg.Val (int .u32 (x0:Int)),Rg.Val (pointer (some ⟨gh,x0*37,none⟩)),Rg.Val (agg L0.toArray),Rg.oP 43 zH 11 9,Rg.oQ 10 9] [[],[0],[1],[2],[3],[],[5],[6],[4,7],[8],[],[10,9]] al al ?_ ?_
 ·simp only[Rg.BZ,Rg.Hd,Rg.dep,Rg.Ob,Rg.at',Rg.Val,Rg.Fa,Rg.nT,Rg.oP,Rg.oQ,Rg.made,Rg.l8,List.replicate,arM,ar8,art,ars,arC,arJ,arV,Act.put,arp,Rg.inT,tS,JW,tM,tB,arG,arL,axq,axr,aw7,tH,Rg.JP];refine⟨?_,?_,?_,?_,?_,?_,?_,?_,?_,?_,?_,?_,trivial⟩
  case refine_12=>exact⟨fun _ _=>trivial,Mc.iH,fun w v e=>⟨_,e,by rw[asb,qY.out];rfl,HA.one⟩⟩
  all_goals intro W hW
  all_goals (have q1:=(hW.cell _ (by exact hgl)).trans z1;have r0:=(hW.cell _ (by exact hlb)).trans c0)
  case refine_10=>
   rintro _ rfl K hK;exact wp_load_mid 43 _ rfl gh (x0*37) rfl L0 _ (fun j u hj=>(hW.cell _ (by exact awo _ _ (HRG j u hj))).trans (HRG j u hj)) underlying43 rfl (by rw[qY.out];exact Mc.iH) (hK.out _ _ (Gr.refl _) rfl trivial)
  all_goals intros
  all_goals rename_i K hK
  all_goals subst_vars
  all_goals go_simp
  all_goals first|exact hK.out _ _ (Gr.refl _) rfl trivial|exact hK.out _ _ br ⟨_,rfl,hW.size⟩ ⟨_,rfl,hW.size,awk _ _⟩
 ·intro w9 G9;simp only[Rg.Fin',Rg.Val,Rg.Fa,Rg.nT,Rg.oP,Rg.oQ,aw5,Act.put,arp,art,ars,arC,arJ,arV,ar6,asi,arT,arU,ast,asu];rintro _ rfl _ rfl _ rfl _ rfl _ rfl _ rfl _ rfl _ rfl _ rfl _ rfl _ ⟨b',rfl,hb0⟩ v11 hct;have hb:=pF hct;have HG:=kH G9;obtain⟨y0,y1,y2,N4⟩:=HA.NJ w9 b' hb;have UG:=kH N4;have hw4:=(gs hb).1;generalize L0.toArray=D0 at *
  go_wp2_with fail;refine Rg.iT (T:=[]) [Rg.Val (pointer (some ⟨b',35,none⟩)),Rg.Val (int i64 st),Rg.Val (str (dg st)),Rg.Val (pointer (some ⟨b',36,none⟩)),Rg.Val (int i64 cs),Rg.Val (pointer (some ⟨b',32,none⟩)),Rg.Val (int .u32 gP),Rg.Val (int i64 gP),Rg.JP #[int i64 (cs:Int),int i64 (gP:Int)] 2 2,Rg.Val (str (aB (dg st) [cs,gP])),Rg.Val (str (aB (dg st) [cs,gP]))] [[],[0],[1],[],[3],[],[5],[6],[4,7],[2,8],[9]] al al ?_ ?_
  ·simp only[Rg.BZ,Rg.Hd,Rg.dep,Rg.Ob,Rg.at',Rg.Val,Rg.Fa,Rg.nT,Rg.oP,Rg.oQ,Rg.made,Rg.l8,List.replicate,arM,ar8,art,ars,arC,arJ,arV,Act.put,arp,Rg.inT,tS,JW,tM,tB,arG,arL,axq,axr,aw7,tH,Rg.JP];refine⟨?_,?_,?_,?_,?_,?_,?_,?_,?_,?_,?_,trivial⟩;all_goals intro W hW
   all_goals (have q0:=(hW.cell _ (by exact hw4)).trans y0;have q1:=(hW.cell _ (by exact hw4)).trans y1;have q2:=(hW.cell _ (by exact hw4)).trans y2;have hw:=(show IntKind.i64.wrap (gP:Int)=(gP:Int)by rw[awO];omega))
   case refine_3=>
    rintro _ rfl K hK;go_simp;refine(Ht (n:=st) ab W).mono ?_;rintro e w' ⟨rfl,G⟩;exact hK.out _ _ G rfl trivial
   case refine_10=>
    rintro _ rfl _ ⟨b,rfl,hb⟩ K hK;go_simp;refine(Hu (c:=2) (W:=dg st) (SE hb) (fun y hy=>by simp only[arG,arN,awQ]at hy;rcases hy with rfl|rfl<;>omega) ab (by have:=BJ (x:=st) ab;omega)).mono ?_;rintro e w' ⟨rfl,G⟩;exact hK.out _ _ G rfl trivial
   all_goals intros
   all_goals subst_vars
   all_goals rename_i K hK
   all_goals go_simp
   all_goals first|exact hK.out _ _ (Gr.refl _) rfl trivial|exact hK.out _ _ br ⟨_,rfl,awk _ _⟩ trivial
  ·intro w8 G8;simp only[Rg.Fin',Rg.Val,Rg.Fa,Rg.nT,Rg.oP,Rg.oQ,aw5,Act.put,arp,art,ars,arC,arJ,arV,ar6,asi,arT,arU,ast,asu,Rg.JP];rintro _-_-_-_-_-_-_-_-_-_-_ rfl;have HM:Hid (∀(k x:Nat),rs[k]?=some x->∀(W:World) (b t:Nat) (f:Nat×Nat),W.heap[b]?=some (cells #[int i64 (x:Int)] t f)->Calls prog 9 #[str (aB (dg st) (cs::gP::rs.take k)),slice (some ⟨b,0,none⟩) 1 1] W fun e' w'=>e'=returned (str (aB (dg st) (cs::gP::rs.take (k+1))))/\Gr W w'):=fun k x hk W b t f h=>by
    have hx1:=HRW x (arE hk);have h1:=BK (cs::gP::rs.take k) (dg st) fun y hy=>by
     rcases arG.1 hy with rfl|hy
     ·omega
     rcases arG.1 hy with rfl|hy
     ·omega
     ·have:=HRW y (asP hy);omega
    have h2:(rs.take k).length<=rs.length:=by rw[ase];omega
    have h4:=BJ (x:=st) ab;have h3:=qw (W:=aB (dg st) (cs::gP::rs.take k)) (x:=x) (by simp only[arM]at h1;omega) ab h;have e:aB (aB (dg st) (cs::gP::rs.take k)) [x]=aB (dg st) (cs::gP::rs.take (k+1)):=by
     rw[arW,hk];simp only[as2];rw[<-arU,<-arU,sS];rfl
    rwa[e]at h3
   have HF:Hid (aB (dg st) (cs::gP::rs.take 32)=aB (dg st) (cs::gP::rs)):=by unfold Hid;rw[ar5 ab]
   have HGX:Hid (∀k,k<32->∃x,rs[k]?=some x):=fun k hk=>⟨_,arq ab⟩
   have NK:=kH G8;go_wp2_with fail;go_loopw [21,22] (fun t i wz=>∃k:Nat,k<=32/\i=int i64 k/\t=str (aB (dg st) (cs::gP::rs.take k))/\Gr w9 wz) (fun _ i _=>32-(intOf i).toNat)
   case atStart=>exact⟨0,ab,rfl,rfl,NK⟩
   case round=>
    obtain⟨k,hk,rfl,rfl,G⟩:=hrel;have MJ:=kH G;by_cases hlt:k<32
    ·obtain⟨x,hx⟩:=HGX k hlt;obtain⟨b,o,eb,hb4,hc4⟩:=UG.spot ab;injection eb with eb;injection eb with eb eo;subst eb eo;have k1:=(MJ.cell _ (by exact hb4)).trans (hc4 k x hx);rw[arH]at k1;have hx1:=HRW x (arE hx);have hw1:IntKind.i64.wrap (x:Int)=(x:Int):=by rw[awO];omega
     have UC:Hid _:=HM k x hx;have hlt':(k:Int)<32:=ab;generalize str (aB (dg st) (cs::gP::rs.take k))=T0 at *
     go_wp2_with fail;refine(UC _ _ _ _ (awk wr _)).mono ?_;rintro e w6 ⟨rfl,G6⟩;have nL:=kH ((MJ.alloc _).trans G6);go_wp2_with fail;go_roundw
     case rel=>exact⟨k+1,ab,by go_num,rfl,nL⟩
     case measure=>simp[intOf];omega
    ·have e0:k=32:=ab;subst e0;rw[HF.out];have uu:=kH (HG.trans MJ);go_wp2_with fail;go_ret;rw[HQ.out];exact bO.pre (D:=(_,_,_)) (Fx.aJ HGD) ⟨rfl,_,_,_,_,HX.gr uu,Fx.aJ uu⟩
end Vp
namespace Vp
open Mm Hh Hc Mc Ud As En Kc
variable{p:Pl}
theorem ag9 {K}{b t:Nat}{l}(h:w.heap[b]?=some (cells (l.map fun x:Nat=>Value.int K (x:Int)).toArray t f)):Ns K w (some ⟨b,0,none⟩) l.length l:=⟨rfl,fun _=>⟨b,0,rfl,(gs h).1,fun i x hi=>by rw[arH,cr h,arB,ar3,hi];rfl⟩⟩
theorem Nl (hw:WS.headD []=jZ)(hn:aS WS.tail=some [x0])(A:Hid (La w g B M H P U p V WS ((p,iy [x0]))))(T:Tz B w)(hd:Dc.aO x0≠0):Calls prog 6 #[pointer (some ⟨g,0,none⟩),V] w (bO 32 B w g M H P ((p,iy [x0]))):=by
 refine(aV A).2 ⟨?_⟩;unfold aV;dsimp only;intro k b o wr u4 u8 u9 u33 u34 u35 u36 u37 u38 u39 u40 u41 u42 u43 u44 u45 u46 u47 u48 u49 u50 u51 u52 m dn a1 c1 s0 VV dF jl fO iV HV K2 A2 K1 A1 K0 A0;have e0:=iV.out;rw[hn]at e0;obtain rfl:=aws e0;rw[HV.out,<-jl.out,hw,show str jZ=string ⟨#[119,104,97,116]⟩from rfl];have X:=A.X.gr dF.out;have hx:=bX hn;have hx0:=hx x0 aq;obtain⟨lb,lo,rfl, -,hc⟩:=fO.out.1.spot aq;have c0:wr.cell? ⟨lb,lo,none⟩=some (int .u32 (x0:Int)):=hc 0 x0 rfl;have hlb:lb<wr.heap.size:=awo _ _ c0;have xP:lb≠g:=fun e=>by
  have h1:=fO.out.2 _ _ rfl;have h2:=(gs A.X.blk).1;omega
 clear hc hx;clear e0 iV jl HV fO hw hn s0 VV;obtain⟨i0,i1,i2,i3,i4,Q⟩:=Hl hx0;have ib:=sK (Dc.aM (Dc.aO x0)) (show(0:Int)<=x0 by omega) (show(x0:Int)<4294967296 by omega);have HQ:Hid (iy [x0]=aB XE [i0,i1,i2,i3,i4]):=by
  unfold Hid iy;simp only[awm hd];rw[Q.e4,Q.e1,Q.e2,Q.e3,Q.e0];simp
 have HD:Hid (Calls prog 14 #[int .u32 x0] wr fun e w'=>e=returned (tuple #[agg #[int i64 (i0:Int),int i64 (i1:Int),int i64 (i2:Int),int i64 (i3:Int),int i32 (Dc.bU (Dc.aM (Dc.aO x0)) x0)],.bool true])/\Gr wr w'):=by
  refine(Dw.gz (x0:Int) wr (T.gr dF.out).Bu.tb ab ab).mono fun e w' ⟨he,G⟩=>⟨?_,G.1⟩
  rw[he];unfold Dw.kv Dw.dm Dw.gI;rw[awC hd,Q.e1,Q.e2,Q.e3,Q.e0]
 have q4:=Q.e4;have b0:=Q.b0;have b1:=Q.b1;have b2:=Q.b2;have b3:=Q.b3;have b4:=Q.b4;have HX:Hid _:=X;clear X T Q hd;generalize Dc.bU (Dc.aM (Dc.aO x0)) x0=z4 at *
 have akV:IntKind.u32.wrap z4=(i4:Int):=by rw[axx];omega
 have hw4:IntKind.i64.wrap (i4:Int)=(i4:Int):=by rw[awO];omega
 go_simp;go_wp2_with fail;refine HD.mono ?_;rintro e w1 ⟨rfl,G1⟩;have aU:Hid (Gr wr w1):=G1;have hb:((w1.alloc (cells #[int i64 0,int i64 0,int i64 0,int i64 0,int i32 0] 59)).setRow w1.heap.size #[int i64 (i0:Int),int i64 (i1:Int),int i64 (i2:Int),int i64 (i3:Int),int i32 z4]).heap[w1.heap.size]?=some (cells #[int i64 (i0:Int),int i64 (i1:Int),int i64 (i2:Int),int i64 (i3:Int),int i32 z4] 59 (0,0)):=awJ _ _ _ _ _ (0,0) (awk w1 _);have y0:=fA hb;have y1:=eH hb;have y2:=uJ hb;have y3:=Ca hb;have y4:=tO hb;have HS:Hid (∀(W:World) (b t:Nat) (f:Nat×Nat),W.heap[b]?=some (cells #[int i64 (i0:Int),int i64 (i1:Int),int i64 (i2:Int),int i64 (i3:Int),int i64 (i4:Int)] t f)->_):=fun W b t f h=>Hu (c:=5) (W:=XE) (ag9 (l:=[i0,i1,i2,i3,i4]) h) (fun y hy=>by simp only[arG,arN,awQ]at hy;rcases hy with rfl|rfl|rfl|rfl|rfl<;>omega) aq an
 have HF:Hid ((((w1.alloc (cells #[int i64 0,int i64 0,int i64 0,int i64 0,int i32 0] 59)).setRow w1.heap.size #[int i64 (i0:Int),int i64 (i1:Int),int i64 (i2:Int),int i64 (i3:Int),int i32 z4]).alloc (cells #[int i64 (i0:Int),int i64 (i1:Int),int i64 (i2:Int),int i64 (i3:Int),int i64 (i4:Int)] 2)).heap[w1.heap.size+1]?=some (cells #[int i64 (i0:Int),int i64 (i1:Int),int i64 (i2:Int),int i64 (i3:Int),int i64 (i4:Int)] 2 (0,0))/\Gr wr (((w1.alloc (cells #[int i64 0,int i64 0,int i64 0,int i64 0,int i32 0] 59)).setRow w1.heap.size #[int i64 (i0:Int),int i64 (i1:Int),int i64 (i2:Int),int i64 (i3:Int),int i32 z4]).alloc (cells #[int i64 (i0:Int),int i64 (i1:Int),int i64 (i2:Int),int i64 (i3:Int),int i64 (i4:Int)] 2))):=⟨by
  have:=awk ((w1.alloc (cells #[int i64 0,int i64 0,int i64 0,int i64 0,int i32 0] 59)).setRow w1.heap.size #[int i64 (i0:Int),int i64 (i1:Int),int i64 (i2:Int),int i64 (i3:Int),int i32 z4]) (cells #[int i64 (i0:Int),int i64 (i1:Int),int i64 (i2:Int),int i64 (i3:Int),int i64 (i4:Int)] 2);simpa using this,(ag (aU.alloc _) aU.size _).alloc _⟩
 go_wp2_with (refine awx rfl 59 _ _ rfl w1.heap.size #[int i64 (i0:Int),int i64 (i1:Int),int i64 (i2:Int),int i64 (i3:Int),int i32 z4] rfl ar 59 #[int i64 0,int i64 0,int i64 0,int i64 0,int i32 0] ?r3 Hf.iI rfl (Hf.kK _ _ _ _ _) ?_;(case r3=>exact awk w1 _));refine J4 (F:=fun W=>W.heap[w1.heap.size+1]?=some (cells #[int i64 (i0:Int),int i64 (i1:Int),int i64 (i2:Int),int i64 (i3:Int),int i64 (i4:Int)] 2 (0,0))/\Gr wr W) ?fa ?_
 case fa=>exact HF
 rintro w4 ⟨hb,G4⟩;have fM:=kH G4;refine(HS _ _ _ _ hb).mono ?_;rintro e w5 ⟨rfl,G5⟩;have uu:=kH (fM.trans G5);go_wp2_with fail;go_ret;rw[HQ.out];exact bO.pre (D:=(_,_,_)) (Fx.aJ dF.out) ⟨rfl,_,_,_,_,HX.gr uu,Fx.aJ uu⟩
theorem Np (hw:WS.headD []=jZ)(hn:aS WS.tail=some [x0])(A:Hid (La w g B M H P U p V WS ((p,iy [x0]))))(T:Tz B w)(hd:Dc.aO x0=0):Calls prog 6 #[pointer (some ⟨g,0,none⟩),V] w (bO 32 B w g M H P ((p,iy [x0]))):=by
 refine(aV A).2 ⟨?_⟩;unfold aV;dsimp only;intro k b o wr u4 u8 u9 u33 u34 u35 u36 u37 u38 u39 u40 u41 u42 u43 u44 u45 u46 u47 u48 u49 u50 u51 u52 m dn a1 c1 s0 VV dF jl fO iV HV K2 A2 K1 A1 K0 A0;have e0:=iV.out;rw[hn]at e0;obtain rfl:=aws e0;rw[HV.out,<-jl.out,hw,show str jZ=string ⟨#[119,104,97,116]⟩from rfl];have X:=A.X.gr dF.out;have hx:=bX hn;have hx0:=hx x0 aq;obtain⟨lb,lo,rfl, -,hc⟩:=fO.out.1.spot aq;have c0:wr.cell? ⟨lb,lo,none⟩=some (int .u32 (x0:Int)):=hc 0 x0 rfl;have hlb:lb<wr.heap.size:=awo _ _ c0;have xP:lb≠g:=fun e=>by
  have h1:=fO.out.2 _ _ rfl;have h2:=(gs A.X.blk).1;omega
 clear hc hx;clear e0 iV jl HV fO hw hn s0 VV;have HQ:Hid (iy [x0]=ZG):=by
  unfold Hid iy;simp only[awn hd]
 have HD:Hid (Calls prog 14 #[int .u32 x0] wr fun e w'=>e=returned (tuple #[agg #[int i64 0,int i64 0,int i64 0,int i64 0,int i32 0],.bool false])/\Gr wr w'):=by
  refine(Dw.gz (x0:Int) wr (T.gr dF.out).Bu.tb ab ab).mono fun e w' ⟨he,G⟩=>⟨?_,G.1⟩
  rw[he,(Dw.jf hd).1,(Dw.jf hd).2];rfl
 have HX:Hid _:=X;clear X T hd;go_simp;go_wp2_with fail;refine HD.mono ?_;rintro e w1 ⟨rfl,G1⟩;have aU:Hid (Gr wr w1):=G1;go_wp2_with (refine awx rfl 59 _ _ rfl w1.heap.size #[int i64 0,int i64 0,int i64 0,int i64 0,int i32 0] rfl ar 59 #[int i64 0,int i64 0,int i64 0,int i64 0,int i32 0] ?r3 Hf.iI rfl (Hf.kK _ _ _ _ _) ?_;(case r3=>exact awk w1 _));have uu:Hid (Gr wr ((w1.alloc (cells #[int i64 0,int i64 0,int i64 0,int i64 0,int i32 0] 59)).setRow w1.heap.size #[int i64 0,int i64 0,int i64 0,int i64 0,int i32 0])):=ag (aU.alloc _) aU.size _;go_ret;rw[HQ.out];exact bO.pre (D:=(_,_,_)) (Fx.aJ dF.out) ⟨rfl,_,_,_,_,HX.gr uu,Fx.aJ uu⟩
end Vp
namespace Vp
open Mm Hh Hc Mc Ud As En Kc
variable{p:Pl}
theorem adO (hd:∀d∈WS.headD [],d<256)(hn:∀x∈[gX,jY,nQ,jB,uG,lU,qi,jZ,j3,jk,iP],WS.headD []≠x)(A:Hid (La w g B M H P U p V WS (p,aQ))):Calls prog 6 #[pointer (some ⟨g,0,none⟩),V] w (bO 32 B w g M H P (p,aQ)):=by
 refine(aV A).2 ⟨?_⟩;unfold aV;dsimp only;intro k b o wr u4 u8 u9 u33 u34 u35 u36 u37 u38 u39 u40 u41 u42 u43 u44 u45 u46 u47 u48 u49 u50 u51 u52 m dn a1 c1 s0 VV dF jl fO iV HV K2 A2 K1 A1 K0 A0;have HX:Hid _:=A.X.gr dF.out;rw[HV.out,<-jl.out];have w0:((bs (WS.headD [])).toList ==[119,111,114,100,115])=false:=by
  have h:=hn gX aq;have:=jr hd (B:=gX) an;rw[awq h,ar1 (bs gX)]at this;exact this
 have w1:((bs (WS.headD [])).toList ==[104,97,114,116])=false:=by
  have h:=hn jY aq;have:=jr hd (B:=jY) an;rw[awq h,ar1 (bs jY)]at this;exact this
 have w2:((bs (WS.headD [])).toList ==[115,101,116])=false:=by
  have h:=hn nQ aq;have:=jr hd (B:=nQ) an;rw[awq h,ar1 (bs nQ)]at this;exact this
 have w3:((bs (WS.headD [])).toList ==[112,105,99,107])=false:=by
  have h:=hn jB aq;have:=jr hd (B:=jB) an;rw[awq h,ar1 (bs jB)]at this;exact this
 have w4:((bs (WS.headD [])).toList ==[114,117,110])=false:=by
  have h:=hn uG aq;have:=jr hd (B:=uG) an;rw[awq h,ar1 (bs uG)]at this;exact this
 have w5:((bs (WS.headD [])).toList ==[102,97,115,116])=false:=by
  have h:=hn lU aq;have:=jr hd (B:=lU) an;rw[awq h,ar1 (bs lU)]at this;exact this
 have w6:((bs (WS.headD [])).toList ==[104,97,114,116,63])=false:=by
  have h:=hn qi aq;have:=jr hd (B:=qi) an;rw[awq h,ar1 (bs qi)]at this;exact this
 have w7:((bs (WS.headD [])).toList ==[119,104,97,116])=false:=by
  have h:=hn jZ aq;have:=jr hd (B:=jZ) an;rw[awq h,ar1 (bs jZ)]at this;exact this
 have w8:((bs (WS.headD [])).toList ==[115,104,111,119])=false:=by
  have h:=hn j3 aq;have:=jr hd (B:=j3) an;rw[awq h,ar1 (bs j3)]at this;exact this
 have w9:((bs (WS.headD [])).toList ==[98,97,99,107])=false:=by
  have h:=hn jk aq;have:=jr hd (B:=jk) an;rw[awq h,ar1 (bs jk)]at this;exact this
 have w10:((bs (WS.headD [])).toList ==[98,108,111,99,107])=false:=by
  have h:=hn iP aq;have:=jr hd (B:=iP) an;rw[awq h,ar1 (bs iP)]at this;exact this
 rw[show str (WS.headD [])=string (bs (WS.headD []))from rfl];generalize bs (WS.headD [])=BS at *
 go_simp;go_wp2_with fail;go_ret;exact bO.pre (D:=(_,_,_)) (Fx.aJ dF.out) ⟨rfl,_,_,_,_,HX,Fx.refl _ _⟩
theorem Nq (hw:WS.headD []=jY)(hn:aS WS.tail=some [x0])(A:Hid (La w g B M H P U p V WS (p,aQ)))(h4:¬p.hs.length<4):Calls prog 6 #[pointer (some ⟨g,0,none⟩),V] w (bO 32 B w g M H P (p,aQ)):=by
 refine(aV A).2 ⟨?_⟩;unfold aV;dsimp only;intro k b o wr u4 u8 u9 u33 u34 u35 u36 u37 u38 u39 u40 u41 u42 u43 u44 u45 u46 u47 u48 u49 u50 u51 u52 m dn a1 c1 s0 VV dF jl fO iV HV K2 A2 K1 A1 K0 A0;have e0:=iV.out;rw[hn]at e0;obtain rfl:=aws e0;rw[HV.out,<-jl.out,hw,show str jY=string ⟨#[104,97,114,116]⟩from rfl];have X:=A.X.gr dF.out;have hx:=bX hn;have hx0:=hx x0 aq;obtain⟨lb,lo,rfl, -,hc⟩:=fO.out.1.spot aq;have c0:=hc 0 x0 rfl;have hlb:=awo _ _ c0;have xP:lb≠g:=fun e=>by
  have h1:=fO.out.2 _ _ rfl;have h2:=(gs A.X.blk).1;omega
 obtain⟨ma,mc,ha,hc0,pa,pc,ua,un,uc,rfl,rfl,rfl,rfl, -⟩:=X.open;have z1:=eH X.blk;have hgl:=(gs X.blk).1;have hcmp:¬(p.hs.length:Int)<4:=ab;have HX:=kH X;go_simp;go_wp2_with fail;go_ret;exact bO.pre (D:=(_,_,_)) (Fx.aJ dF.out) ⟨rfl,_,_,_,_,HX,Fx.refl _ _⟩
theorem Nr (hw:WS.headD []=jB)(hn:aS WS.tail=some [x0,x1])(A:Hid (La w g B M H P U p V WS (p,aQ)))(h4:¬p.ps.length<300):Calls prog 6 #[pointer (some ⟨g,0,none⟩),V] w (bO 32 B w g M H P (p,aQ)):=by
 refine(aV A).2 ⟨?_⟩;unfold aV;dsimp only;intro k b o wr u4 u8 u9 u33 u34 u35 u36 u37 u38 u39 u40 u41 u42 u43 u44 u45 u46 u47 u48 u49 u50 u51 u52 m dn a1 c1 s0 VV dF jl fO iV HV K2 A2 K1 A1 K0 A0;have e0:=iV.out;rw[hn]at e0;obtain rfl:=aws e0;rw[HV.out,<-jl.out,hw,show str jB=string ⟨#[112,105,99,107]⟩from rfl];have X:=A.X.gr dF.out;have hx:=bX hn;have hx0:=hx x0 aq;have hx1:=hx x1 aq;obtain⟨lb,lo,rfl, -,hc⟩:=fO.out.1.spot aq;have c0:=hc 0 x0 rfl;have c1:=hc 1 x1 rfl;have hlb:=awo _ _ c0;have xP:lb≠g:=fun e=>by
  have h1:=fO.out.2 _ _ rfl;have h2:=(gs A.X.blk).1;omega
 obtain⟨ma,mc,ha,hc0,pa,pc,ua,un,uc,rfl,rfl,rfl,rfl, -⟩:=X.open;have z2:=uJ X.blk;have hgl:=(gs X.blk).1;have hcmp:¬(p.ps.length:Int)<300:=ab;have HX:=kH X;go_simp;go_wp2_with fail;go_ret;exact bO.pre (D:=(_,_,_)) (Fx.aJ dF.out) ⟨rfl,_,_,_,_,HX,Fx.refl _ _⟩
theorem TZ (hw:WS.headD []=qi)(hn:aS WS.tail=some [x0])(A:Hid (La w g B M H P U p V WS (p,aQ)))(hk:¬x0<p.hs.length):Calls prog 6 #[pointer (some ⟨g,0,none⟩),V] w (bO 32 B w g M H P (p,aQ)):=by
 refine(aV A).2 ⟨?_⟩;unfold aV;dsimp only;intro k b o wr u4 u8 u9 u33 u34 u35 u36 u37 u38 u39 u40 u41 u42 u43 u44 u45 u46 u47 u48 u49 u50 u51 u52 m dn a1 c1 s0 VV dF jl fO iV HV K2 A2 K1 A1 K0 A0;have e0:=iV.out;rw[hn]at e0;obtain rfl:=aws e0;rw[HV.out,<-jl.out,hw,show str qi=string ⟨#[104,97,114,116,63]⟩from rfl];have X:=A.X.gr dF.out;have hx:=bX hn;have hx0:=hx x0 aq;obtain⟨lb,lo,rfl, -,hc⟩:=fO.out.1.spot aq;have c0:wr.cell? ⟨lb,lo,none⟩=some (int .u32 (x0:Int)):=hc 0 x0 rfl;have hlb:lb<wr.heap.size:=awo _ _ c0;have xP:lb≠g:=fun e=>by
  have h1:=fO.out.2 _ _ rfl;have h2:=(gs A.X.blk).1;omega
 clear hc hx;clear e0 iV jl HV fO hw hn s0 VV;have h4:=X.ok.h4;obtain⟨ma,mc,ha,hc0,pa,pc,ua,un,uc,rfl,rfl,rfl,rfl, -⟩:=X.open;have z1:=eH X.blk;have hgl:g<wr.heap.size:=(gs X.blk).1;have hwr:IntKind.i64.wrap (x0:Int)=(x0:Int):=by rw[awO];omega
 have hcmp:¬(x0:Int)<(p.hs.length:Int):=ab;have TV:decide ((x0:Int)<(p.hs.length:Int))=false:=awq hcmp;have HX:Hid _:=X;clear X;go_simp;go_wp2_with fail;go_quiet (fail);go_wp2_with fail;go_ret;exact bO.pre (D:=(_,_,_)) (Fx.aJ dF.out) ⟨rfl,_,_,_,_,HX.gr ((Gr.refl _).drewN _),Fx.aJ ((Gr.refl _).drewN _)⟩
theorem Nt (hw:WS.headD []=jk)(hn:aS WS.tail=some [x0])(A:Hid (La w g B M H P U p V WS (p,aQ)))(hf:p.fr=false):Calls prog 6 #[pointer (some ⟨g,0,none⟩),V] w (bO 32 B w g M H P (p,aQ)):=by
 refine(aV A).2 ⟨?_⟩;unfold aV;dsimp only;intro k b o wr u4 u8 u9 u33 u34 u35 u36 u37 u38 u39 u40 u41 u42 u43 u44 u45 u46 u47 u48 u49 u50 u51 u52 m dn a1 c1 s0 VV dF jl fO iV HV K2 A2 K1 A1 K0 A0;have e0:=iV.out;rw[hn]at e0;obtain rfl:=aws e0;rw[HV.out,<-jl.out,hw,show str jk=string ⟨#[98,97,99,107]⟩from rfl];have X:=A.X.gr dF.out;have hx:=bX hn;have hx0:=hx x0 aq;obtain⟨lb,lo,rfl, -,hc⟩:=fO.out.1.spot aq;have c0:=hc 0 x0 rfl;have hlb:=awo _ _ c0;have xP:lb≠g:=fun e=>by
  have h1:=fO.out.2 _ _ rfl;have h2:=(gs A.X.blk).1;omega
 obtain⟨ma,mc,ha,hc0,pa,pc,ua,un,uc,rfl,rfl,rfl,rfl, -⟩:=X.open;have z4:=tO X.blk;have hgl:=(gs X.blk).1;rw[hf]at z4;have HX:=kH X;go_simp;go_wp2_with fail;go_quiet (fail);go_wp2_with fail;go_ret;exact bO.pre (D:=(_,_,_)) (Fx.aJ dF.out) ⟨rfl,_,_,_,_,HX.gr ((Gr.refl _).drewN _),Fx.aJ ((Gr.refl _).drewN _)⟩
theorem Nv (hw:WS.headD []=jk)(hn:aS WS.tail=some [x0])(A:Hid (La w g B M H P U p V WS (p,aQ)))(hf:p.fr=true)(hk:¬x0<=p.us.length):Calls prog 6 #[pointer (some ⟨g,0,none⟩),V] w (bO 32 B w g M H P (p,aQ)):=by
 refine(aV A).2 ⟨?_⟩;unfold aV;dsimp only;intro k b o wr u4 u8 u9 u33 u34 u35 u36 u37 u38 u39 u40 u41 u42 u43 u44 u45 u46 u47 u48 u49 u50 u51 u52 m dn a1 c1 s0 VV dF jl fO iV HV K2 A2 K1 A1 K0 A0;have e0:=iV.out;rw[hn]at e0;obtain rfl:=aws e0;rw[HV.out,<-jl.out,hw,show str jk=string ⟨#[98,97,99,107]⟩from rfl];have X:=A.X.gr dF.out;have hx:=bX hn;have hx0:=hx x0 aq;obtain⟨lb,lo,rfl, -,hc⟩:=fO.out.1.spot aq;have c0:wr.cell? ⟨lb,lo,none⟩=some (int .u32 (x0:Int)):=hc 0 x0 rfl;have hlb:lb<wr.heap.size:=awo _ _ c0;have xP:lb≠g:=fun e=>by
  have h1:=fO.out.2 _ _ rfl;have h2:=(gs A.X.blk).1;omega
 clear hc hx;clear e0 iV jl HV fO hw hn s0 VV;obtain⟨N,n1,n2,n3,n4⟩:=X.row;obtain⟨ua,uc,rfl,hlc,Yt⟩:=(n4 hf).us;obtain⟨ma,mc,ha,hc0,pa,pc,_,_,_,rfl,rfl,rfl, -⟩:=X.open;have z3:=Ca X.blk;have z4:=tO X.blk;have hgl:g<wr.heap.size:=(gs X.blk).1;rw[hf]at z4;have hwr:IntKind.i64.wrap (x0:Int)=(x0:Int):=by rw[awO];omega
 have hcmp:¬(x0:Int)<=(p.us.length:Int):=ab;have TV:decide ((x0:Int)<=(p.us.length:Int))=false:=awq hcmp;clear n1 n2 n3 n4 Yt hlc N;have HX:Hid _:=X;clear X;go_simp;go_wp2_with fail;go_quiet (fail);go_wp2_with fail;go_ret;exact bO.pre (D:=(_,_,_)) (Fx.aJ dF.out) ⟨rfl,_,_,_,_,HX.gr ((Gr.refl _).drewN _),Fx.aJ ((Gr.refl _).drewN _)⟩
theorem adP (hq:q∈fV)(hw:WS.headD []=q.1)(hl:aS WS.tail=some l)(hne:l.length≠q.2)(A:Hid (La w g B M H P U p V WS (p,aQ))):Calls prog 6 #[pointer (some ⟨g,0,none⟩),V] w (bO 32 B w g M H P (p,aQ)):=by
 refine(aV A).2 ⟨?_⟩;unfold aV;dsimp only;intro k b o wr u4 u8 u9 u33 u34 u35 u36 u37 u38 u39 u40 u41 u42 u43 u44 u45 u46 u47 u48 u49 u50 u51 u52 m dn a1 c1 s0 VV dF jl fO iV HV K2 A2 K1 A1 K0 A0;have HX:Hid _:=A.X.gr dF.out;have e0:=iV.out;rw[hl]at e0;obtain rfl:=aws e0;rw[HV.out,<-jl.out,hw];generalize l.length=n at *
 simp only[fV,arG,arN,awQ]at hq;rcases hq with rfl|rfl|rfl|rfl|rfl|rfl|rfl|rfl|rfl|rfl
 ·have hn:((n:Int) ==1)=false:=by simp at hne ⊢;omega
  have hn2:¬(n:Int)=1:=by simp at hne;omega
  rw[show str (jY,1).1=string ⟨#[104,97,114,116]⟩from rfl];go_simp;go_wp2_with fail;go_ret;exact bO.pre (D:=(_,_,_)) (Fx.aJ dF.out) ⟨rfl,_,_,_,_,HX,Fx.refl _ _⟩
 ·have hn:((n:Int) ==3)=false:=by simp at hne ⊢;omega
  have hn2:¬(n:Int)=3:=by simp at hne;omega
  rw[show str (nQ,3).1=string ⟨#[115,101,116]⟩from rfl];go_simp;go_wp2_with fail;go_quiet (fail);go_wp2_with fail;go_ret;exact bO.pre (D:=(_,_,_)) (Fx.aJ dF.out) ⟨rfl,_,_,_,_,HX.gr ((Gr.refl _).drewN _),Fx.aJ ((Gr.refl _).drewN _)⟩
 ·have hn:((n:Int) ==2)=false:=by simp at hne ⊢;omega
  have hn2:¬(n:Int)=2:=by simp at hne;omega
  rw[show str (jB,2).1=string ⟨#[112,105,99,107]⟩from rfl];go_simp;go_wp2_with fail;go_ret;exact bO.pre (D:=(_,_,_)) (Fx.aJ dF.out) ⟨rfl,_,_,_,_,HX,Fx.refl _ _⟩
 ·have hn:((n:Int) ==0)=false:=by simp at hne ⊢;omega
  have hn2:¬(n:Int)=0:=by simp at hne;omega
  rw[show str (uG,0).1=string ⟨#[114,117,110]⟩from rfl];go_simp;go_wp2_with fail;go_ret;exact bO.pre (D:=(_,_,_)) (Fx.aJ dF.out) ⟨rfl,_,_,_,_,HX,Fx.refl _ _⟩
 ·have hn:((n:Int) ==1)=false:=by simp at hne ⊢;omega
  have hn2:¬(n:Int)=1:=by simp at hne;omega
  rw[show str (lU,1).1=string ⟨#[102,97,115,116]⟩from rfl];go_simp;go_wp2_with fail;go_ret;exact bO.pre (D:=(_,_,_)) (Fx.aJ dF.out) ⟨rfl,_,_,_,_,HX,Fx.refl _ _⟩
 ·have hn:((n:Int) ==1)=false:=by simp at hne ⊢;omega
  have hn2:¬(n:Int)=1:=by simp at hne;omega
  rw[show str (qi,1).1=string ⟨#[104,97,114,116,63]⟩from rfl];go_simp;go_wp2_with fail;go_quiet (fail);go_wp2_with fail;go_ret;exact bO.pre (D:=(_,_,_)) (Fx.aJ dF.out) ⟨rfl,_,_,_,_,HX.gr ((Gr.refl _).drewN _),Fx.aJ ((Gr.refl _).drewN _)⟩
 ·have hn:((n:Int) ==1)=false:=by simp at hne ⊢;omega
  have hn2:¬(n:Int)=1:=by simp at hne;omega
  rw[show str (jZ,1).1=string ⟨#[119,104,97,116]⟩from rfl];go_simp;go_wp2_with fail;go_ret;exact bO.pre (D:=(_,_,_)) (Fx.aJ dF.out) ⟨rfl,_,_,_,_,HX,Fx.refl _ _⟩
 ·have hn:((n:Int) ==1)=false:=by simp at hne ⊢;omega
  have hn2:¬(n:Int)=1:=by simp at hne;omega
  rw[show str (iP,1).1=string ⟨#[98,108,111,99,107]⟩from rfl];go_simp;go_wp2_with fail;go_ret;exact bO.pre (D:=(_,_,_)) (Fx.aJ dF.out) ⟨rfl,_,_,_,_,HX,Fx.refl _ _⟩
 ·have hn:((n:Int) ==1)=false:=by simp at hne ⊢;omega
  have hn2:¬(n:Int)=1:=by simp at hne;omega
  rw[show str (j3,1).1=string ⟨#[115,104,111,119]⟩from rfl];go_simp;go_wp2_with fail;go_ret;exact bO.pre (D:=(_,_,_)) (Fx.aJ dF.out) ⟨rfl,_,_,_,_,HX,Fx.refl _ _⟩
 ·have hn:((n:Int) ==1)=false:=by simp at hne ⊢;omega
  have hn2:¬(n:Int)=1:=by simp at hne;omega
  rw[show str (jk,1).1=string ⟨#[98,97,99,107]⟩from rfl];go_simp;go_wp2_with fail;go_quiet (fail);go_wp2_with fail;go_ret;exact bO.pre (D:=(_,_,_)) (Fx.aJ dF.out) ⟨rfl,_,_,_,_,HX.gr ((Gr.refl _).drewN _),Fx.aJ ((Gr.refl _).drewN _)⟩
end Vp
namespace Vp
open Mm Hh Hc Mc Ud As En Kc
variable{p:Pl}
theorem wW:∀{ws:List (List Nat)} {l:List Nat},aS ws=some l→l.length=ws.length
 | [],l,h=>by simp only[aS,awz]at h;subst h;rfl
 |s::r,l,h=>by
  unfold aS at h;cases h1:gB s with
  |none=>rw[h1]at h;cases h
  |some x=>
   rw[h1]at h;cases h2:aS r with
   |none=>rw[h2]at h;cases h
   |some t=>
    rw[h2]at h;simp only[awz]at h;subst h;rw[arM,arM,wW h2]
theorem YV (x:Nat):∀k,k<4→(w4 x).take (k+1)=(w4 x).take k++[UInt8.ofNat (x/256 ^ k%256)]
 |0,_=>by simp[w4]
 |1,_=>by simp[w4]
 |2,_=>by simp[w4]
 |3,_=>by simp[w4]
def wQ (p:Pl) (l:List Nat) (j x k:Nat):Pl:={ wP p l j with m:=(wP p l j).m++(w4 x).take k }
theorem adQ (p)(l)(hj:j<=l.length)(hk:k<=4):(wQ p l j x k).m.length=p.m.length+4*j+k:=by
 show((wP p l j).m++_).length=_
 rw[ary,GZ p l hj,ase,adh,att hk]
theorem YW (p)(l)(hk:k<4):wQ p l j x (k+1)={ wQ p l j x k with m:=(wQ p l j x k).m++[UInt8.ofNat (x/256^k%256)] }:=by unfold wQ;rw[YV x k hk];simp
theorem YX (p)(l)(j x):wQ p l j x 0=wP p l j:=by unfold wQ;simp
theorem YY (p)(h:l[j]?=some x):wQ p l j x 4=wP p l (j+1):=by rw[JK p h];rfl
theorem YZ (y):bc [UInt8.ofNat (y%256)]=[int .u8 ((y:Int)%256)]:=by simp only[bc,asD,atv,awY];congr 2;omega
theorem Ib (hw:WS.headD []=gX)(hl:aS WS.tail=some l)(h4:4096<p.m.length+4*l.length)(A:Hid (La w g B M H P U p V WS (dN p l))):Calls prog 6 #[pointer (some ⟨g,0,none⟩),V] w (bO 32 B w g M H P (dN p l)):=by
 refine(aV A).2 ⟨?_⟩;unfold aV;dsimp only;intro k b o wr u4 u8 u9 u33 u34 u35 u36 u37 u38 u39 u40 u41 u42 u43 u44 u45 u46 u47 u48 u49 u50 u51 u52 m dn a1 c1 s0 VV dF jl fO iV HV K2 A2 K1 A1 K0 A0;have HX:Hid _:=A.X.gr dF.out;have e0:=iV.out;rw[hl]at e0;obtain rfl:=aws e0;rw[HV.out,<-jl.out,hw,show str gX=string ⟨#[119,111,114,100,115]⟩from rfl];have hlt:=bX hl;have X:=HX;have m4:=X.ok.m4;have hll:l.length<=4000000:=by
  have h1:=A.len;have h2:=wW hl;rw[List.length_tail]at h2;omega
 have HQ:Hid (dN p l=({ p with fr:=false },aQ)):=by unfold Hid dN;rw[awn h4]
 obtain⟨X1,F1⟩:=X.down;obtain⟨ma,mc,ha,hc0,pa,pc,ua,un,uc,rfl,rfl,rfl,rfl, -⟩:=X.open;have z0:=fA X.blk;have z4:=tO X.blk;have hgl:=(gs X.blk).1;have f4:wr.frozen? ⟨g,4,none⟩=false:=iA X.blk;have jy:=kH X1;have mO:=kH F1;generalize l.length=n at *
 go_simp;go_wp2_with fail;go_ret;rw[HQ.out];exact bO.pre (D:=(_,_,_)) (Fx.aJ dF.out) ⟨rfl,_,_,_,_,jy,mO⟩
theorem Ic (hw:WS.headD []=gX)(hl:aS WS.tail=some l)(h4:p.m.length+4*l.length<=4096)(A:Hid (La w g B M H P U p V WS (dN p l))):Calls prog 6 #[pointer (some ⟨g,0,none⟩),V] w (bO 32 B w g M H P (dN p l)):=by
 refine(aV A).2 ⟨?_⟩;unfold aV;dsimp only;intro k b o wA u4 u8 u9 u33 u34 u35 u36 u37 u38 u39 u40 u41 u42 u43 u44 u45 u46 u47 u48 u49 u50 u51 u52 m dn a1 c1 s0 VV dF jl fO iV HV K2 A2 K1 A1 K0 A0;have HX:Hid _:=A.X.gr dF.out;have e0:=iV.out;rw[hl]at e0;obtain rfl:=aws e0;rw[HV.out,<-jl.out,hw,show str gX=string ⟨#[119,111,114,100,115]⟩from rfl];have hlt:=bX hl;have X:=HX;have m4:=X.ok.m4;have hll:l.length<=4000000:=by
  have h1:=A.len;have h2:=wW hl;rw[List.length_tail]at h2;omega
 have HQ:Hid (dN p l=(wP p l l.length,aB sU [p.m.length+4*l.length])):=by
  unfold Hid dN wP;rw[ak,ash]
 obtain⟨i0,hi,hz0,hz1,hz2⟩:=awS info5;obtain⟨X1,F1⟩:=X.down;have hgw:=A.X.dom;obtain⟨ma,mc,ha,hc0,pa,pc,ua,un,uc,rfl,rfl,rfl,rfl, -⟩:=X.open;have z0:=fA X.blk;have z4:=tO X.blk;have hgl:=(gs X.blk).1;have f4:wA.frozen? ⟨g,4,none⟩=false:=iA X.blk;have HX0:Hid (Pr 32 B (wA.setCell ⟨g,4,none⟩ (.bool false)) g (slice ma p.m.length mc) (slice ha p.hs.length hc0) (slice pa p.ps.length pc) (slice ua un uc) (wP p l 0)):=by
  have:wP p l 0={ p with fr:=false }:=by unfold wP;simp
  unfold Hid;rw[this];exact X1
 have HN:=kH fO.out.1;have HNA:Hid (∀b o,a1=some ⟨b,o,none⟩->¬Dm g (slice ma p.m.length mc) (slice ha p.hs.length hc0) (slice pa p.ps.length pc) b):=fun b o e hd=>by
  have h1:=fO.out.2 b o e;have h2:=(hgw b hd).2;omega
 have Ya:=kH X.le;have HL:=kH hlt;have HD0:=kH F1;generalize hn:l.length=n at *
 have BV:=kH hn;go_simp;go_wp2_with fail;go_loopw [11] (fun i wq=>∃j:Nat,j<=n/\i=int i64 j/\∃M',Pr 32 B wq g M' (slice ha p.hs.length hc0) (slice pa p.ps.length pc) (slice ua un uc) (wP p l j)/\Fx (Dm g (slice ma p.m.length mc) (slice ha p.hs.length hc0) (slice pa p.ps.length pc)) (Dm g M' (slice ha p.hs.length hc0) (slice pa p.ps.length pc)) wA wq) (fun i _=>n-(intOf i).toNat)
 case atStart=>exact⟨0,arQ _,rfl,_,HX0,HD0⟩
 case round=>
  obtain⟨j,hj,rfl,M1,X,F⟩:=hrel;have JI:=kH X;have mP:=kH F;by_cases hlt:j<n
  ·obtain⟨lb,lo,rfl,hb,hc⟩:=HN.spot ab;obtain⟨x,hx⟩:∃x,l[j]?=some x:=⟨_,arq (by rw[BV.out];exact hlt)⟩;have hx1:=HL x (arE hx);have k1:=(awv (a:=⟨lb,lo+j,none⟩) (F.keep lb hb (HNA lb lo rfl))).trans (hc j x hx);have HF4:=kH (YY p hx);have HZ:=kH ((YX p l j x).symm);have Ra:Hid (∀q,q<=4->(wQ p l j x q).m.length=p.m.length+4*j+q):=fun q hq=>adQ p l (by rw[BV.out];exact hj) hq
   have hw1:IntKind.i64.wrap (x:Int)=(x:Int):=by rw[awO];omega
   have hjn:(j:Int)<(n:Int):=ab;have apy:p.m.length+4*j+4<=4096:=ab;go_wp2_with fail;go_loopw [12,13] (fun y k wz=>∃k':Nat,k'<=4/\k=int i64 k'/\y=int i64 ((x/256^k':Nat):Int)/\∃M',Pr 32 B wz g M' (slice ha p.hs.length hc0) (slice pa p.ps.length pc) (slice ua un uc) (wQ p l j x k')/\Fx (Dm g (slice ma p.m.length mc) (slice ha p.hs.length hc0) (slice pa p.ps.length pc)) (Dm g M' (slice ha p.hs.length hc0) (slice pa p.ps.length pc)) wA wz) (fun _ k _=>4-(intOf k).toNat)
   case atStart=>exact⟨0,ab,rfl,aq,M1,by rw[<-HZ.out];exact JI,mP⟩
   case round=>
    obtain⟨k,hk,rfl,rfl,M2,X,F⟩:=hrel;by_cases hk4:k<4
    ·obtain⟨va,vc,_,_,_,_,_,_,_,rfl,_⟩:=X.open;have hs:=Ra k hk;have z0:=fA X.blk;have f0:wr.frozen? ⟨g,0,none⟩=false:=iA X.blk;have HOW:Hid (∀o,_):=fun o=>aD X.mx.mem ((Gr.refl _).alloc o)
     have HBS:=kH X.le;have HY:Hid (x/256 ^ (k+1)=x/256^k/256):=by unfold Hid;rw[atp,Nat.div_div_eq_div_mul]
     have Xd:Hid (wQ p l j x (k+1)={ wQ p l j x k with m:=(wQ p l j x k).m++[UInt8.ofNat (x/256^k%256)] }):=YW p l hk4;have hy1:x/256^k<4294967296:=Nat.lt_of_le_of_lt (Nat.div_le_self _ _) hx1;rw[hs]at z0 HOW;have HX3:=kH X;have FU:=kH F;have HS:=kH hs;have GY:Hid (∀(o:Obj) (w2:World) (M':Value),(wr.alloc o).grownBy w2 (Value.slice va (p.m.length+4*j+k) vc).ownBlock->w2.ownsRow B 5 1 M' (p.m.length+4*j+k+1) (bc (wQ p l j x k).m++[int .u8 (((x/256^k:Nat):Int)%256)])->(∀q,M'.ownBlock=some q->(Value.slice va (p.m.length+4*j+k) vc).ownBlock=some q\/(wr.alloc o).heap.size<=q)->
       w2.heap[g]?=some (cells #[slice va (p.m.length+4*j+k) vc,slice ha p.hs.length hc0,slice pa p.ps.length pc,slice ua un uc,.bool false] 32 (0,0))/\Pr 32 B (w2.setCell ⟨g,0,none⟩ M') g M' (slice ha p.hs.length hc0) (slice pa p.ps.length pc) (slice ua un uc) (wQ p l j x (k+1))/\Fx (Dm g (slice ma p.m.length mc) (slice ha p.hs.length hc0) (slice pa p.ps.length pc)) (Dm g M' (slice ha p.hs.length hc0) (slice pa p.ps.length pc)) wA (w2.setCell ⟨g,0,none⟩ M')):=fun o w2 M' qq O hat=>by
      rw[Xd.out];have I5:=HX3.gr ((Gr.refl wr).alloc o);obtain⟨a,b,c⟩:=Pr.agF (p:=wQ p l j x k) (l:=[UInt8.ofNat (x/256^k%256)]) (n:=1) I5 rfl rfl (by rw[HS.out];omega) (by rw[HS.out];exact qq) (by rw[YZ,HS.out];exact O) (by rw[HS.out];exact hat);rw[HS.out]at a c;exact⟨a,b,(by have:=FU;rw[HS.out]at this;exact(this.gr ((Gr.refl _).alloc o)).trans c)⟩
     have apz:(k:Int)<4:=ab;have hs5:p.m.length+4*j+k+1<=4096:=ab;generalize bc (wQ p l j x k).m=old at *
     generalize p.m.length+4*j+k=s at *
     generalize x/256^k=y at *
     have y0:(0:Int)<=(y:Int):=ab;have hy2:(y:Int)<4294967296:=ab;have hwy:IntKind.u8.wrap ((y:Int)%256)=(y:Int)%256:=by rw[IntKind.wrap_u8];omega
     go_wp2_with (at_builtin;refine fK rfl (tmp 92) (tmp 96) rfl underlying25 hi hz0 hz1 hz2 rfl an (slice va s vc) old rfl (HOW.out _) ⟨wr.heap.size,0,none⟩ 1 1 [int .u8 ((y:Int)%256)] rfl rfl (kM (awk wr _)) (XZ _ rfl) bj ab (by have:=HBS.out;simp at this ⊢;omega) ?_;intro v' w2 hown hgrow hat;obtain⟨_,_,a2,c2,rfl⟩:=au hown;obtain⟨hb2,X2,F2⟩:=GY.out _ _ _ hgrow hown hat;have HX5:Hid _:=X2;have Jb:Hid (Fx _ _ _ _):=F2;have j1:=fA hb2;have j2:w2.frozen? ⟨g,0,none⟩=false:=iA hb2;clear hown hgrow hat hb2 X2 F2);go_roundw
     case rel=>exact⟨k+1,ab,by go_num,by rw[HY.out];simp,_,HX5,Jb⟩
     case measure=>simp[intOf];omega
    ·have e4:k=4:=ab;subst e4;have HX6:=kH X;have HF6:=kH F;go_wp2_with fail;go_roundw
     case rel=>exact⟨j+1,ab,by go_num,M2,by rw[<-HF4.out];exact HX6,HF6⟩
     case measure=>simp[intOf];omega
  ·have e0:j=n:=ab;subst e0;obtain⟨va,vc,_,_,_,_,_,_,_,rfl,_⟩:=X.open;have hs:=GZ p l (k:=j) (by rw[BV.out];exact arA _);have z0:=fA X.blk;rw[hs]at z0;have HNM:Hid (∀(W:World) (b t:Nat) (f:Nat×Nat),W.heap[b]?=some (cells #[int i64 ((p.m.length+4*j:Nat):Int)] t f)->_):=fun W b t f h=>qw (W:=sU) an ab h
   have hjn:¬(j:Int)<(j:Int):=ab;generalize p.m.length+4*j=s at *
   go_wp2_with fail;refine(HNM _ _ _ _ (awk _ _)).mono ?_;rintro e w3 ⟨rfl,G3⟩;have eO:=kH (br.trans G3);go_wp2_with fail;go_ret;rw[HQ.out];exact bO.pre (D:=(_,_,_)) (Fx.aJ dF.out) ⟨rfl,_,_,_,_,JI.gr eO,mP.gr eO⟩
end Vp
namespace Vp
open Mm Hh Hc Mc Ud As En Kc
variable{p:Pl}
theorem nV {P}{a}{Q}(hg:o.guard=none)(s x)(t)(hop:o.op=Op.call { callee:=Callee.builtin Builtin.append,args:=#[s,x],argTypes:=#[t,t] })(base)(e)(i)(z)(size bytes)(h1:P.underlying t=some (.slice e))(h2:P.info? e=some i)(h3:i.zero=some z)(h4:i.size=size)(h5:i.bytes=bytes)(h6:z.cells.size=size)(h7:0<size)(v)(n)(olds)(hs:a.eval s=v)(hown:w.ownsRow base e size v n olds)(ad)(m c)(news)(hx:a.eval x=.slice (some ad) m c)(hn:news.length=m*size)(hc:∀j u,news[j]?=some u->w.cell? (ad.add j)=some u)(h1c:∀u∈news,u.oneCell'=true)(b1:n+m<=maxLen)(b2:(n+m)*bytes<=140737488355328)(hbase:base<=w.heap.size)(hK:∀v' w',w'.ownsRow base e size v' (n+m) (olds++news)->w.grownBy w' v.ownBlock->(∀k,v'.ownBlock=some k->v.ownBlock=some k\/w.heap.size<=k)->K (a.put o.dst v') w'):if Region.wanted o (yielded ops a.tmps)=true then Oper.wp P o a w K Q else E:=by
 have hw:Region.wanted o (yielded ops a.tmps)=true:=by simp[Region.wanted,hg]
 rw[awn hw];obtain⟨v',w',hrun,r1,r2,r3⟩:=y8 (P:=P) o.type h1 h2 h3 h4 h5 h6 h7 v olds hown ad m c news hn hc h1c b1 b2 hbase;unfold Oper.wp;simp[execOp,hop,resolve,invoke,builtin,hs,hx,hrun,Result.andThen];exact hK v' w' r1 r2 r3
theorem Nw (hw:WS.headD []=jY)(hn:aS WS.tail=some [x0])(A:Hid (La w g B M H P U p V WS (lW p [x0])))(h4:p.hs.length<4):Calls prog 6 #[pointer (some ⟨g,0,none⟩),V] w (bO 32 B w g M H P (lW p [x0])):=by
 refine(aV A).2 ⟨?_⟩;unfold aV;dsimp only;intro k b o wr u4 u8 u9 u33 u34 u35 u36 u37 u38 u39 u40 u41 u42 u43 u44 u45 u46 u47 u48 u49 u50 u51 u52 m dn a1 c1 s0 VV dF jl fO iV HV K2 A2 K1 A1 K0 A0;have e0:=iV.out;rw[hn]at e0;obtain rfl:=aws e0;rw[HV.out,<-jl.out,hw,show str jY=string ⟨#[104,97,114,116]⟩from rfl];have X:=A.X.gr dF.out;have hx:=bX hn;have hx0:=hx x0 aq;obtain⟨lb,lo,rfl, -,hc⟩:=fO.out.1.spot aq;have c0:wr.cell? ⟨lb,lo,none⟩=some (int .u32 (x0:Int)):=hc 0 x0 rfl;have hlb:=awo _ _ c0;have xP:lb≠g:=fun e=>by
  have h1:=fO.out.2 _ _ rfl;have h2:=(gs A.X.blk).1;omega
 have h4':=X.ok.h4;obtain⟨i0,hi,hz0,hz1,hz2⟩:=awS R8;obtain⟨X1,F1⟩:=X.down;have ok1:=Jt hx0;have HQ:Hid (lW p [x0]=({ p with hs:=p.hs++[fJ x0],fr:=false },aB sU [p.hs.length+1])):=by unfold Hid;simp only[lW,awn h4]
 obtain⟨ma,mc,ha,hc0,pa,pc,ua,un,uc,rfl,rfl,rfl,rfl, -⟩:=X.open;have z1:=eH X.blk;have z4:=tO X.blk;have hgl:=(gs X.blk).1;have f4:wr.frozen? ⟨g,4,none⟩=false:=iA X.blk;have jy:=kH X1;have mO:=kH F1;have y1:=eH X1.blk;have jw:Hid ((wr.setCell ⟨g,4,none⟩ (.bool false)).cell? ⟨lb,lo,none⟩=some (int .u32 (x0:Int))):=(awv (a:=⟨lb,lo,none⟩) (hso xP)).trans c0;have Ya:=kH X.le;have hcmp:(p.hs.length:Int)<4:=ab;have c0':=jw;have Sa:Hid (prog.built 43 [(1,int .u32 (x0:Int))]=some (hA (fJ x0))):=ze x0;have HON:=kH (GR (fJ x0));have wY:=kH (aF ok1.1);have rO:Hid ((hA (fJ x0)).size=37):=by show(hL _).toArray.size=37;rw[asb];exact aF ok1.1
 have yA:=kH ok1;have HNM:Hid (∀(W:World) (b t:Nat) (f:Nat×Nat),W.heap[b]?=some (cells #[int i64 ((p.hs.length:Int)+1)] t f)->_):=fun W b t f h=>qw (W:=sU) (x:=p.hs.length+1) an ab h
 have adf:Hid (∀(W:World) (j:Nat) (u:Value),(hL (fJ x0))[j]?=some u->(W.alloc (cells (hA (fJ x0)) 43)).cell? ((⟨W.heap.size,0,none⟩:Addr).add j)=some u):=fun W j u hj=>by
  rw[cK,arH,cr (awk W _)];show(hL (fJ x0)).toArray[j]?=some u
  rw[arB];exact hj
 go_simp;go_wp2_with fail;rename_i K1 hK1;have DN:=kH hK1;refine aK (fun W1=>Pr 32 B W1 g (slice ma p.m.length mc) (slice ha p.hs.length hc0) (slice pa p.ps.length pc) (slice ua un uc) { p with fr:=false }/\Fx (Dm g (slice ma p.m.length mc) (slice ha p.hs.length hc0) (slice pa p.ps.length pc)) (Dm g (slice ma p.m.length mc) (slice ha p.hs.length hc0) (slice pa p.ps.length pc)) wr W1/\W1.cell? ⟨lb,lo,none⟩=some (int .u32 (x0:Int))) ⟨jy,mO,jw⟩ ?_;rintro w1 ⟨X,F,c0⟩;have hlb:=awo _ _ c0;have z1:=eH X.blk;have hgl:=(gs X.blk).1;have HOW:Hid (∀W,Gr w1 W->_):=fun W G=>aD X.mx.hrt G
 have HBW:Hid (∀W,Gr w1 W->_):=fun W G=>arF X.le G.size
 have HLE:=kH h4;have GY:Hid (∀(W w2:World) (H':Value),Gr w1 W->W.grownBy w2 (Value.slice ha p.hs.length hc0).ownBlock->w2.ownsRow B 43 37 H' (p.hs.length+1) (hC p.hs++hL (fJ x0))->(∀k,H'.ownBlock=some k->(Value.slice ha p.hs.length hc0).ownBlock=some k\/W.heap.size<=k)->
   w2.heap[g]?=some (cells #[slice ma p.m.length mc,slice ha p.hs.length hc0,slice pa p.ps.length pc,slice ua un uc,.bool false] 32 (0,0))/\Pr 32 B (w2.setCell ⟨g,1,none⟩ H') g (slice ma p.m.length mc) H' (slice pa p.ps.length pc) (slice ua un uc) { p with hs:=p.hs++[fJ x0],fr:=false }/\Fx (Dm g (slice ma p.m.length mc) (slice ha p.hs.length hc0) (slice pa p.ps.length pc)) (Dm g (slice ma p.m.length mc) H' (slice pa p.ps.length pc)) wr (w2.setCell ⟨g,1,none⟩ H')):=fun W w2 H' G q O hat=>by
  obtain⟨a,b,c⟩:=(X.gr G).agG rfl yA HLE q O hat;exact⟨a,b,(F.gr G).trans c⟩
 generalize hL (fJ x0)=L0 at *
 generalize hA (fJ x0)=D0 at *
 generalize hC p.hs=olds at *
 refine axA al ?_;change wpAny _ _ _ _ _ _ _ (World.drew _);refine aK (fun W=>Gr w1 W) (Gr.refl w1).drew ?_;rintro w5 G5;replace c0:=(G5.cell _ (by exact hlb)).trans c0;replace z1:=(G5.cell _ (by exact hgl)).trans z1;have kg:=kH G5;refine awL (i:=0) (v:=pointer (some ⟨g,0,none⟩)) rfl al al al (fun _ _ _ h=>h) (Or.inl ⟨by rfl,fun w=>by go_simp⟩) ?_;simp only[arx,aru,arv,Act.put,arp,art,ars];refine awL (i:=1) (v:=pointer (some ⟨g,0,none⟩)) rfl al al al (fun _ _ _ h=>h) (Or.inl ⟨by rfl,fun w=>by go_simp⟩) ?_;simp only[arx,aru,arv,Act.put,arp,art,ars];refine awL (i:=2) (v:=pointer (some ⟨g,0,none⟩)) rfl al al al (fun _ _ _ h=>h) (Or.inl ⟨by rfl,fun w=>by go_simp⟩) ?_;simp only[arx,aru,arv,Act.put,arp,art,ars];refine awL (i:=3) (v:=pointer (some ⟨g,0,none⟩)) rfl al al al (fun _ _ _ h=>h) (Or.inl ⟨by rfl,fun w=>by go_simp⟩) ?_;simp only[arx,aru,arv,Act.put,arp,art,ars];refine awL (i:=4) (v:=pointer (some ⟨g,1,none⟩)) rfl al al al (fun _ _ _ h=>h) (Or.inl ⟨by rfl,fun w=>by go_simp⟩) ?_;simp only[arx,aru,arv,Act.put,arp,art,ars];refine awL (i:=6) (v:=slice (some ⟨lb,lo,none⟩) 1 c1) rfl al al al (fun _ _ _ h=>h) (Or.inl ⟨by rfl,fun w=>by go_simp⟩) ?_;simp only[arx,aru,arv,Act.put,arp,art,ars];refine awL (i:=7) (v:=pointer (some ⟨lb,lo,none⟩)) rfl al al al (fun _ _ _ h=>h) (Or.inl ⟨by rfl,fun w=>by go_simp⟩) ?_;simp only[arx,aru,arv,Act.put,arp,art,ars];refine awK (rs:=[5,8]) al aq ?_;refine awy rfl (fun K hK=>?_) (awy rfl (fun K hK=>?_) awF)
 case' refine_1=>
  go_simp;refine hK _ _ ?_;refine awK (rs:=[8]) al aq ?_;refine awy rfl (fun K hK=>?_) awF;go_simp;refine hK _ _ ?_;refine awL (i:=9) (v:=agg D0) rfl al al al (fun _ _ _ h=>h) (Or.inl ⟨by rfl,fun w=>by have h:=Sa;unfold execOp;simp[Act.eval,Act.put];rw[axm w _ _ _ h];rfl⟩) ?_;simp only[arx,aru,arv,Act.put,arp,art,ars];refine awK (rs:=[10]) al aq ?_;refine awy rfl (fun K hK=>?_) awF
  (refine bN rfl 26 43 (tmp 136) rfl D0 37 ar rO underlying26 iHz an an ?_;refine hK _ _ ?_;clear hK K;simp only[arx,aru,arv,Act.put,arp,art,ars])
 case' refine_2=>
  go_simp;refine hK _ _ ?_;refine awL (i:=9) (v:=agg D0) rfl al al al (fun _ _ _ h=>h) (Or.inl ⟨by rfl,fun w=>by have h:=Sa;unfold execOp;simp[Act.eval,Act.put];rw[axm w _ _ _ h];rfl⟩) ?_;simp only[arx,aru,arv,Act.put,arp,art,ars];refine awK (rs:=[5,10]) al aq ?_;refine awy rfl (fun K hK=>?_) (awy rfl (fun K hK=>?_) awF)
  case' refine_2.refine_1=>
   go_simp;refine hK _ _ ?_;refine awK (rs:=[10]) al aq ?_;refine awy rfl (fun K hK=>?_) awF
   (refine bN rfl 26 43 (tmp 136) rfl D0 37 ar rO underlying26 iHz an an ?_;refine hK _ _ ?_;clear hK K;simp only[arx,aru,arv,Act.put,arp,art,ars])
  case' refine_2.refine_2=>
   (refine bN rfl 26 43 (tmp 136) rfl D0 37 ar rO underlying26 iHz an an ?_;refine hK _ _ ?_;clear hK K;simp only[arx,aru,arv,Act.put,arp,art,ars])
   replace z1:=((Gr.refl w5).alloc (cells D0 43)).cell _ (awo _ _ z1) |>.trans z1
   refine awK (rs:=[5]) al aq ?_;refine awy rfl (fun K hK=>?_) awF;go_simp;refine hK _ _ ?_
 all_goals
  refine awK (rs:=[11]) al aq ?_;refine awy rfl (fun K hK=>?_) awF;refine nV rfl (tmp 132) (tmp 137) 26 rfl B 43 _ _ 37 _ underlying26 hi hz0 hz1 hz2 rfl an _ p.hs.length olds ar (HOW _ (kg.trans br)) _ 1 1 L0 ar (by rw[wY.out]) (adf w5) HON bj ab (HBW _ (kg.trans br)) ?_;intro v' w2 hown hgrow hat;obtain⟨-, -,a2,c2,rfl⟩:=au hown;obtain⟨hb2,X2,F2⟩:=GY _ _ _ (kg.trans br) hgrow hown hat;have JI:=kH X2;have mP:=kH F2;have j1:=eH hb2;have j2:w2.frozen? ⟨g,1,none⟩=false:=iA hb2;refine hK _ _ ?_;simp only[arx,aru,arv,Act.put,arp,art,ars];refine awL (i:=12) (v:=pointer (some ⟨g,0,none⟩)) rfl al al al (fun _ _ _ h=>h) (Or.inl ⟨by rfl,fun w=>by go_simp⟩) ?_;simp only[arx,aru,arv,Act.put,arp,art,ars];refine awL (i:=13) (v:=pointer (some ⟨g,0,none⟩)) rfl al al al (fun _ _ _ h=>h) (Or.inl ⟨by rfl,fun w=>by go_simp⟩) ?_;simp only[arx,aru,arv,Act.put,arp,art,ars];refine awL (i:=14) (v:=pointer (some ⟨g,1,none⟩)) rfl al al al (fun _ _ _ h=>h) (Or.inl ⟨by rfl,fun w=>by go_simp⟩) ?_;simp only[arx,aru,arv,Act.put,arp,art,ars];refine awK (rs:=[15]) al aq ?_;refine awy rfl (fun K hK=>?_) awF;go_simp;refine hK _ _ ?_;refine wpAny_done al ?_ _;go_simp;refine DN _ _ ?_;generalize p.hs.length=N0 at *
  go_wp2_with fail;refine(HNM _ _ _ _ (Br _ _ _ _)).mono ?_;rintro e w3 ⟨rfl,G3⟩;have eO:=kH (br.trans G3);go_wp2_with fail;go_ret;rw[HQ.out];exact bO.pre (D:=(_,_,_)) (Fx.aJ dF.out) ⟨rfl,_,_,_,_,JI.gr eO,mP.gr eO⟩
end Vp
namespace Vp
open Mm Hh Hc Mc Ud As En Kc
variable{p:Pl}
theorem Z0:(prog.info? 45).map (fun i=>(i.zero.isSome,i.size))=some (true,2):=al
theorem Ie (x y:Nat):prog.built 45 [(0,int i64 (x:Int)),(1,int i64 (y:Int))]=some #[int i64 (x:Int),int i64 (y:Int)]:=al
theorem Ny (hw:WS.headD []=jB)(hn:aS WS.tail=some [x0,x1])(A:Hid (La w g B M H P U p V WS (lX p [x0,x1])))(h4:p.ps.length<300):Calls prog 6 #[pointer (some ⟨g,0,none⟩),V] w (bO 32 B w g M H P (lX p [x0,x1])):=by
 refine(aV A).2 ⟨?_⟩;unfold aV;dsimp only;intro k b o wr u4 u8 u9 u33 u34 u35 u36 u37 u38 u39 u40 u41 u42 u43 u44 u45 u46 u47 u48 u49 u50 u51 u52 m dn a1 c1 s0 VV dF jl fO iV HV K2 A2 K1 A1 K0 A0;have e0:=iV.out;rw[hn]at e0;obtain rfl:=aws e0;rw[HV.out,<-jl.out,hw,show str jB=string ⟨#[112,105,99,107]⟩from rfl];have X:=A.X.gr dF.out;have hx:=bX hn;have hx0:=hx x0 aq;have hx1:=hx x1 aq;obtain⟨lb,lo,rfl, -,hc⟩:=fO.out.1.spot aq;have d0:wr.cell? ⟨lb,lo,none⟩=some (int .u32 (x0:Int)):=hc 0 x0 rfl;have d1:=hc 1 x1 rfl;have hlb:=awo _ _ d0;have xP:lb≠g:=fun e=>by
  have h1:=fO.out.2 _ _ rfl;have h2:=(gs A.X.blk).1;omega
 clear hc hx;clear e0 iV jl HV fO hw hn s0 VV;have p3:=X.ok.p3;obtain⟨i0,hi,hz0,hz1,hz2⟩:=awS Sb;have HQ:Hid (lX p [x0,x1]=({ p with ps:=p.ps++[((x0:Int),(x1:Int))] },aB sU [p.ps.length+1])):=by unfold Hid;simp only[lX,awn h4]
 obtain⟨ma,mc,ha,hc0,pa,pc,ua,un,uc,rfl,rfl,rfl,rfl, -⟩:=X.open;have z2:=uJ X.blk;have hgl:=(gs X.blk).1;obtain⟨N,n1,n2,n3,n4⟩:=X.row;have hcmp:(p.ps.length:Int)<300:=ab;have aha:IntKind.i64.wrap (x0:Int)=(x0:Int):=by rw[awO];omega
 have aiQ:IntKind.i64.wrap (x1:Int)=(x1:Int):=by rw[awO];omega
 have Sa:=kH (Ie x0 x1);have HNM:Hid (∀(W:World) (b t:Nat) (f:Nat×Nat),W.heap[b]?=some (cells #[int i64 ((p.ps.length:Int)+1)] t f)->_):=fun W b t f h=>qw (W:=sU) (x:=p.ps.length+1) an ab h
 have HOW:Hid (∀W,Gr wr W->_):=fun W G=>aD n3 G
 have HBW:Hid (∀W,Gr wr W->_):=fun W G=>arF n2 G.size
 have GY:Hid (∀(W w2:World) (P':Value),Gr wr W->W.grownBy w2 (Value.slice pa p.ps.length pc).ownBlock->w2.ownsRow N 45 2 P' (p.ps.length+1) (pC p.ps++[int i64 (x0:Int),int i64 (x1:Int)])->(∀q,P'.ownBlock=some q->(Value.slice pa p.ps.length pc).ownBlock=some q\/W.heap.size<=q)->
   w2.heap[g]?=some (cells #[slice ma p.m.length mc,slice ha p.hs.length hc0,slice pa p.ps.length pc,slice ua un uc,.bool p.fr] 32 (0,0))/\Pr 32 B (w2.setCell ⟨g,2,none⟩ P') g (slice ma p.m.length mc) (slice ha p.hs.length hc0) P' (slice ua un uc) { p with ps:=p.ps++[((x0:Int),(x1:Int))] }/\Fx (Dm g (slice ma p.m.length mc) (slice ha p.hs.length hc0) (slice pa p.ps.length pc)) (Dm g (slice ma p.m.length mc) (slice ha p.hs.length hc0) P') wr (w2.setCell ⟨g,2,none⟩ P')):=fun W w2 P' G q O hat=>by
  obtain⟨a,b,c⟩:=(X.gr G).pkA (s:=((x0:Int),(x1:Int))) n1 (arF n2 G.size) (aD n3 G) (fun h=>(n4 h).step G.size fun j hj _=>G.block j ab) ⟨bl,bl,bl,bl⟩ ab q O hat;exact⟨a,b,(Fx.aJ G).trans c⟩
 have h4':=h4;clear X n1 n2 n3 n4 p3 h4;generalize pC p.ps=olds at *
 go_simp;go_wp2_with fail;rename_i K1 hK1;have DN:=kH hK1;clear hK1;refine axA al ?_;change wpAny _ _ _ _ _ _ _ (World.drew _);refine aK (fun W=>Gr wr W) (Gr.refl wr).drew ?_;rintro w5 G5;replace d0:=(G5.cell _ (by exact hlb)).trans d0;replace d1:=(G5.cell _ (by exact hlb)).trans d1;replace z2:=(G5.cell _ (by exact hgl)).trans z2;have kg:=kH G5;clear G5;refine awL (i:=0) (v:=pointer (some ⟨g,0,none⟩)) rfl al al al (fun _ _ _ h=>h) (Or.inl ⟨by rfl,fun w=>by go_simp⟩) ?_;simp only[arx,aru,arv,Act.put,arp,art,ars];refine awL (i:=1) (v:=pointer (some ⟨g,0,none⟩)) rfl al al al (fun _ _ _ h=>h) (Or.inl ⟨by rfl,fun w=>by go_simp⟩) ?_;simp only[arx,aru,arv,Act.put,arp,art,ars];refine awL (i:=2) (v:=pointer (some ⟨g,0,none⟩)) rfl al al al (fun _ _ _ h=>h) (Or.inl ⟨by rfl,fun w=>by go_simp⟩) ?_;simp only[arx,aru,arv,Act.put,arp,art,ars];refine awL (i:=3) (v:=pointer (some ⟨g,2,none⟩)) rfl al al al (fun _ _ _ h=>h) (Or.inl ⟨by rfl,fun w=>by go_simp⟩) ?_;simp only[arx,aru,arv,Act.put,arp,art,ars];refine awL (i:=5) (v:=slice (some ⟨lb,lo,none⟩) 2 c1) rfl al al al (fun _ _ _ h=>h) (Or.inl ⟨by rfl,fun w=>by go_simp⟩) ?_;simp only[arx,aru,arv,Act.put,arp,art,ars];refine awL (i:=6) (v:=pointer (some ⟨lb,lo,none⟩)) rfl al al al (fun _ _ _ h=>h) (Or.inl ⟨by rfl,fun w=>by go_simp⟩) ?_;simp only[arx,aru,arv,Act.put,arp,art,ars];refine awL (i:=9) (v:=slice (some ⟨lb,lo,none⟩) 2 c1) rfl al al al (fun _ _ _ h=>h) (Or.inl ⟨by rfl,fun w=>by go_simp⟩) ?_;simp only[arx,aru,arv,Act.put,arp,art,ars];refine awL (i:=10) (v:=pointer (some ⟨lb,lo+1,none⟩)) rfl al al al (fun _ _ _ h=>h) (Or.inl ⟨by rfl,fun w=>by go_simp⟩) ?_;simp only[arx,aru,arv,Act.put,arp,art,ars];refine awK (rs:=[4,7,11]) al aq ?_;refine awy rfl (fun K hK=>?_) (awy rfl (fun K hK=>?_) (awy rfl (fun K hK=>?_) awF))
 case' refine_1=>
  go_simp;refine hK _ _ ?_;clear hK K;refine awK (rs:=[7,11]) al aq ?_;refine awy rfl (fun K hK=>?_) (awy rfl (fun K hK=>?_) awF)
  case' refine_1.refine_1=>
   go_simp;refine hK _ _ ?_;clear hK K;refine awL (i:=8) (v:=int i64 (x0:Int)) rfl al al al (fun _ _ _ h=>h) (Or.inl ⟨by rfl,fun w=>by go_simp⟩) ?_;simp only[arx,aru,arv,Act.put,arp,art,ars];refine awK (rs:=[11]) al aq ?_;refine awy rfl (fun K hK=>?_) awF;go_simp;refine hK _ _ ?_;clear hK K;refine awL (i:=12) (v:=int i64 (x1:Int)) rfl al al al (fun _ _ _ h=>h) (Or.inl ⟨by rfl,fun w=>by go_simp⟩) ?_;simp only[arx,aru,arv,Act.put,arp,art,ars];refine awL (i:=13) (v:=agg #[int i64 (x0:Int),int i64 (x1:Int)]) rfl al al al (fun _ _ _ h=>h) (Or.inl ⟨by rfl,fun w=>by have h:=Sa;unfold execOp;simp[Act.eval,Act.put];rw[axm w _ _ _ h];rfl⟩) ?_;simp only[arx,aru,arv,Act.put,arp,art,ars];refine awK (rs:=[14]) al aq ?_;refine awy rfl (fun K hK=>?_) awF;refine bN rfl 29 45 (tmp 226) rfl #[int i64 (x0:Int),int i64 (x1:Int)] 2 ar rfl underlying29 Z0 an an ?_;refine hK _ _ ?_;clear hK K;simp only[arx,aru,arv,Act.put,arp,art,ars];replace z2:=(((Gr.refl w5).alloc (cells #[int i64 (x0:Int),int i64 (x1:Int)] 45)).cell _ (awo _ _ z2)).trans z2
  case' refine_1.refine_2=>
   go_simp;refine hK _ _ ?_;clear hK K;refine awL (i:=12) (v:=int i64 (x1:Int)) rfl al al al (fun _ _ _ h=>h) (Or.inl ⟨by rfl,fun w=>by go_simp⟩) ?_;simp only[arx,aru,arv,Act.put,arp,art,ars];refine awK (rs:=[7]) al aq ?_;refine awy rfl (fun K hK=>?_) awF;go_simp;refine hK _ _ ?_;clear hK K;refine awL (i:=8) (v:=int i64 (x0:Int)) rfl al al al (fun _ _ _ h=>h) (Or.inl ⟨by rfl,fun w=>by go_simp⟩) ?_;simp only[arx,aru,arv,Act.put,arp,art,ars];refine awL (i:=13) (v:=agg #[int i64 (x0:Int),int i64 (x1:Int)]) rfl al al al (fun _ _ _ h=>h) (Or.inl ⟨by rfl,fun w=>by have h:=Sa;unfold execOp;simp[Act.eval,Act.put];rw[axm w _ _ _ h];rfl⟩) ?_;simp only[arx,aru,arv,Act.put,arp,art,ars];refine awK (rs:=[14]) al aq ?_;refine awy rfl (fun K hK=>?_) awF;refine bN rfl 29 45 (tmp 226) rfl #[int i64 (x0:Int),int i64 (x1:Int)] 2 ar rfl underlying29 Z0 an an ?_;refine hK _ _ ?_;clear hK K;simp only[arx,aru,arv,Act.put,arp,art,ars];replace z2:=(((Gr.refl w5).alloc (cells #[int i64 (x0:Int),int i64 (x1:Int)] 45)).cell _ (awo _ _ z2)).trans z2
 case' refine_2=>
  go_simp;refine hK _ _ ?_;clear hK K;refine awL (i:=8) (v:=int i64 (x0:Int)) rfl al al al (fun _ _ _ h=>h) (Or.inl ⟨by rfl,fun w=>by go_simp⟩) ?_;simp only[arx,aru,arv,Act.put,arp,art,ars];refine awK (rs:=[4,11]) al aq ?_;refine awy rfl (fun K hK=>?_) (awy rfl (fun K hK=>?_) awF)
  case' refine_2.refine_1=>
   go_simp;refine hK _ _ ?_;clear hK K;refine awK (rs:=[11]) al aq ?_;refine awy rfl (fun K hK=>?_) awF;go_simp;refine hK _ _ ?_;clear hK K;refine awL (i:=12) (v:=int i64 (x1:Int)) rfl al al al (fun _ _ _ h=>h) (Or.inl ⟨by rfl,fun w=>by go_simp⟩) ?_;simp only[arx,aru,arv,Act.put,arp,art,ars];refine awL (i:=13) (v:=agg #[int i64 (x0:Int),int i64 (x1:Int)]) rfl al al al (fun _ _ _ h=>h) (Or.inl ⟨by rfl,fun w=>by have h:=Sa;unfold execOp;simp[Act.eval,Act.put];rw[axm w _ _ _ h];rfl⟩) ?_;simp only[arx,aru,arv,Act.put,arp,art,ars];refine awK (rs:=[14]) al aq ?_;refine awy rfl (fun K hK=>?_) awF;refine bN rfl 29 45 (tmp 226) rfl #[int i64 (x0:Int),int i64 (x1:Int)] 2 ar rfl underlying29 Z0 an an ?_;refine hK _ _ ?_;clear hK K;simp only[arx,aru,arv,Act.put,arp,art,ars];replace z2:=(((Gr.refl w5).alloc (cells #[int i64 (x0:Int),int i64 (x1:Int)] 45)).cell _ (awo _ _ z2)).trans z2
  case' refine_2.refine_2=>
   go_simp;refine hK _ _ ?_;clear hK K;refine awL (i:=12) (v:=int i64 (x1:Int)) rfl al al al (fun _ _ _ h=>h) (Or.inl ⟨by rfl,fun w=>by go_simp⟩) ?_;simp only[arx,aru,arv,Act.put,arp,art,ars];refine awL (i:=13) (v:=agg #[int i64 (x0:Int),int i64 (x1:Int)]) rfl al al al (fun _ _ _ h=>h) (Or.inl ⟨by rfl,fun w=>by have h:=Sa;unfold execOp;simp[Act.eval,Act.put];rw[axm w _ _ _ h];rfl⟩) ?_;simp only[arx,aru,arv,Act.put,arp,art,ars];refine awK (rs:=[4,14]) al aq ?_;refine awy rfl (fun K hK=>?_) (awy rfl (fun K hK=>?_) awF)
   case' refine_2.refine_2.refine_1=>
    go_simp;refine hK _ _ ?_;clear hK K;refine awK (rs:=[14]) al aq ?_;refine awy rfl (fun K hK=>?_) awF;refine bN rfl 29 45 (tmp 226) rfl #[int i64 (x0:Int),int i64 (x1:Int)] 2 ar rfl underlying29 Z0 an an ?_;refine hK _ _ ?_;clear hK K;simp only[arx,aru,arv,Act.put,arp,art,ars];replace z2:=(((Gr.refl w5).alloc (cells #[int i64 (x0:Int),int i64 (x1:Int)] 45)).cell _ (awo _ _ z2)).trans z2
   case' refine_2.refine_2.refine_2=>
    refine bN rfl 29 45 (tmp 226) rfl #[int i64 (x0:Int),int i64 (x1:Int)] 2 ar rfl underlying29 Z0 an an ?_;refine hK _ _ ?_;clear hK K;simp only[arx,aru,arv,Act.put,arp,art,ars];replace z2:=(((Gr.refl w5).alloc (cells #[int i64 (x0:Int),int i64 (x1:Int)] 45)).cell _ (awo _ _ z2)).trans z2;refine awK (rs:=[4]) al aq ?_;refine awy rfl (fun K hK=>?_) awF;go_simp;refine hK _ _ ?_;clear hK K
 case' refine_3=>
  go_simp;refine hK _ _ ?_;clear hK K;refine awL (i:=12) (v:=int i64 (x1:Int)) rfl al al al (fun _ _ _ h=>h) (Or.inl ⟨by rfl,fun w=>by go_simp⟩) ?_;simp only[arx,aru,arv,Act.put,arp,art,ars];refine awK (rs:=[4,7]) al aq ?_;refine awy rfl (fun K hK=>?_) (awy rfl (fun K hK=>?_) awF)
  case' refine_3.refine_1=>
   go_simp;refine hK _ _ ?_;clear hK K;refine awK (rs:=[7]) al aq ?_;refine awy rfl (fun K hK=>?_) awF;go_simp;refine hK _ _ ?_;clear hK K;refine awL (i:=8) (v:=int i64 (x0:Int)) rfl al al al (fun _ _ _ h=>h) (Or.inl ⟨by rfl,fun w=>by go_simp⟩) ?_;simp only[arx,aru,arv,Act.put,arp,art,ars];refine awL (i:=13) (v:=agg #[int i64 (x0:Int),int i64 (x1:Int)]) rfl al al al (fun _ _ _ h=>h) (Or.inl ⟨by rfl,fun w=>by have h:=Sa;unfold execOp;simp[Act.eval,Act.put];rw[axm w _ _ _ h];rfl⟩) ?_;simp only[arx,aru,arv,Act.put,arp,art,ars];refine awK (rs:=[14]) al aq ?_;refine awy rfl (fun K hK=>?_) awF;refine bN rfl 29 45 (tmp 226) rfl #[int i64 (x0:Int),int i64 (x1:Int)] 2 ar rfl underlying29 Z0 an an ?_;refine hK _ _ ?_;clear hK K;simp only[arx,aru,arv,Act.put,arp,art,ars];replace z2:=(((Gr.refl w5).alloc (cells #[int i64 (x0:Int),int i64 (x1:Int)] 45)).cell _ (awo _ _ z2)).trans z2
  case' refine_3.refine_2=>
   go_simp;refine hK _ _ ?_;clear hK K;refine awL (i:=8) (v:=int i64 (x0:Int)) rfl al al al (fun _ _ _ h=>h) (Or.inl ⟨by rfl,fun w=>by go_simp⟩) ?_;simp only[arx,aru,arv,Act.put,arp,art,ars];refine awL (i:=13) (v:=agg #[int i64 (x0:Int),int i64 (x1:Int)]) rfl al al al (fun _ _ _ h=>h) (Or.inl ⟨by rfl,fun w=>by have h:=Sa;unfold execOp;simp[Act.eval,Act.put];rw[axm w _ _ _ h];rfl⟩) ?_;simp only[arx,aru,arv,Act.put,arp,art,ars];refine awK (rs:=[4,14]) al aq ?_;refine awy rfl (fun K hK=>?_) (awy rfl (fun K hK=>?_) awF)
   case' refine_3.refine_2.refine_1=>
    go_simp;refine hK _ _ ?_;clear hK K;refine awK (rs:=[14]) al aq ?_;refine awy rfl (fun K hK=>?_) awF;refine bN rfl 29 45 (tmp 226) rfl #[int i64 (x0:Int),int i64 (x1:Int)] 2 ar rfl underlying29 Z0 an an ?_;refine hK _ _ ?_;clear hK K;simp only[arx,aru,arv,Act.put,arp,art,ars];replace z2:=(((Gr.refl w5).alloc (cells #[int i64 (x0:Int),int i64 (x1:Int)] 45)).cell _ (awo _ _ z2)).trans z2
   case' refine_3.refine_2.refine_2=>
    refine bN rfl 29 45 (tmp 226) rfl #[int i64 (x0:Int),int i64 (x1:Int)] 2 ar rfl underlying29 Z0 an an ?_;refine hK _ _ ?_;clear hK K;simp only[arx,aru,arv,Act.put,arp,art,ars];replace z2:=(((Gr.refl w5).alloc (cells #[int i64 (x0:Int),int i64 (x1:Int)] 45)).cell _ (awo _ _ z2)).trans z2;refine awK (rs:=[4]) al aq ?_;refine awy rfl (fun K hK=>?_) awF;go_simp;refine hK _ _ ?_;clear hK K
 all_goals
  refine awK (rs:=[15]) al aq ?_;refine awy rfl (fun K hK=>?_) awF;refine nV rfl (tmp 217) (tmp 227) 29 rfl N 45 _ _ 2 _ underlying29 hi hz0 hz1 hz2 rfl an _ p.ps.length olds ar (HOW _ (kg.trans br)) _ 1 1 [int i64 (x0:Int),int i64 (x1:Int)] ar rfl (JJ (awk w5 _)) (EB _ _) bj ab (HBW _ (kg.trans br)) ?_;intro v' w2 hown hgrow hat;obtain⟨-, -,a2,c2,rfl⟩:=au hown;obtain⟨hb2,X2,F2⟩:=GY _ _ _ (kg.trans br) hgrow hown hat;have JI:=kH X2;have mP:=kH F2;have j1:=uJ hb2;have j2:w2.frozen? ⟨g,2,none⟩=false:=iA hb2;refine hK _ _ ?_;clear hK K hown hgrow hat hb2 X2 F2;simp only[arx,aru,arv,Act.put,arp,art,ars];refine awL (i:=16) (v:=pointer (some ⟨g,0,none⟩)) rfl al al al (fun _ _ _ h=>h) (Or.inl ⟨by rfl,fun w=>by go_simp⟩) ?_;simp only[arx,aru,arv,Act.put,arp,art,ars];refine awL (i:=17) (v:=pointer (some ⟨g,2,none⟩)) rfl al al al (fun _ _ _ h=>h) (Or.inl ⟨by rfl,fun w=>by go_simp⟩) ?_;simp only[arx,aru,arv,Act.put,arp,art,ars];refine awK (rs:=[18]) al aq ?_;refine awy rfl (fun K hK=>?_) awF;go_simp;refine hK _ _ ?_;clear hK K;refine wpAny_done al ?_ _;go_simp;refine DN _ _ ?_;clear DN d0 d1 hlb hgl z2 h4' hcmp;generalize p.ps.length=N0 at *
  go_wp2_with fail;refine(HNM _ _ _ _ (Br _ _ _ _)).mono ?_;rintro e w3 ⟨rfl,G3⟩;have eO:Hid (Gr (w2.setCell ⟨g,2,none⟩ (slice a2 (N0+1) c2)) w3):=br.trans G3;clear G3;go_wp2_with fail;go_ret;rw[HQ.out];exact bO.pre (D:=(_,_,_)) (Fx.aJ dF.out) ⟨rfl,_,_,_,_,JI.gr eO,mP.gr eO⟩
end Vp
namespace Vp
open Mm Hh Hc Mc Ud As En Kc
variable{p:Pl}
theorem Y0 {W}{gh r}{q}(X:Pr ty B W g M H P U q)(hH:H=slice (some ⟨gh,0,none⟩) q.hs.length hc)(hk:k<q.hs.length)(hr:r<32):∃v0,W.cell? ⟨gh,k*37+r,none⟩=some v0:=by obtain⟨ma,mc,ha,hc0,pa,pc,ua,un,uc,rfl,rfl,rfl,rfl,_,_,h,_⟩:=X.open;injection hH with e;subst e;obtain⟨b,o,e2,_,hc⟩:=h.spot ab;injection e2 with e2;injection e2 with e3 e4;subst e3 e4;have h5:=mg (h.ok _ (rC hk)) hr;have h6:=hc k (hAt q k) (by unfold hAt;rw[ar2,arq hk];rfl) r _ h5;rw[arH]at h6;exact⟨_,h6⟩
theorem T9 (hw:WS.headD []=nQ)(hn:aS WS.tail=some [x0,x1,x2])(A:Hid (La w g B M H P U p V WS (o5 p [x0,x1,x2])))(hk:x0<p.hs.length)(h1:1<=x1)(h2:x1<=31):Calls prog 6 #[pointer (some ⟨g,0,none⟩),V] w (bO 32 B w g M H P (o5 p [x0,x1,x2])):=by
 refine(aV A).2 ⟨?_⟩;unfold aV;dsimp only;intro k b o wr u4 u8 u9 u33 u34 u35 u36 u37 u38 u39 u40 u41 u42 u43 u44 u45 u46 u47 u48 u49 u50 u51 u52 m dn a1 c1 s0 VV dF jl fO iV HV K2 A2 K1 A1 K0 A0;have e0:=iV.out;rw[hn]at e0;obtain rfl:=aws e0;rw[HV.out,<-jl.out,hw,show str nQ=string ⟨#[115,101,116]⟩from rfl];have X:=A.X.gr dF.out;have hx:=bX hn;have hx0:=hx x0 aq;have hx1:=hx x1 aq;have hx2:=hx x2 aq;obtain⟨lb,lo,rfl, -,hc⟩:=fO.out.1.spot aq;have d0:wr.cell? ⟨lb,lo,none⟩=some (int .u32 (x0:Int)):=hc 0 x0 rfl;have d1:wr.cell? ⟨lb,lo+1,none⟩=some (int .u32 (x1:Int)):=hc 1 x1 rfl;have d2:=hc 2 x2 rfl;have hlb:=awo _ _ d0;have hll:=fO.out.2 _ _ rfl;have xP:lb≠g:=fun e=>by
  have h1:=fO.out.2 _ _ rfl;have h2:=(gs A.X.blk).1;omega
 have h4':=X.ok.h4;have HQ:Hid (o5 p [x0,x1,x2]=({ p with hs:=p.hs.set x0 { hAt p x0 with regs:=(hAt p x0).regs.set x1 x2 },fr:=false },sU)):=by unfold Hid;simp only[o5,awn (show x0<p.hs.length/\1<=x1/\x1<=31 from⟨hk,h1,h2⟩)]
 obtain⟨ma,mc,ha,hc0,pa,pc,ua,un,uc,rfl,rfl,rfl,rfl, -⟩:=X.open;obtain⟨gh,oh,rfl,he⟩:=uW X.mx.hrt ab;have hgb:gh≠lb:=fun e=>by
  have h3:=(A.X.mx.hrt.lt gh rfl).2;omega
 obtain⟨X1,F1⟩:=X.down;have z4:=tO X.blk;have hgl:=(gs X.blk).1;have f4:wr.frozen? ⟨g,4,none⟩=false:=iA X.blk;have jy:=kH X1;have mO:=kH F1;have adR:=xP;have jw:Hid (∀(j:Nat) (v:Value),wr.cell? ⟨lb,j,none⟩=some v->(wr.setCell ⟨g,4,none⟩ (.bool false)).cell? ⟨lb,j,none⟩=some v):=fun j v h=>(awv (a:=⟨lb,j,none⟩) (hso adR)).trans h
 have HD:Hid (wr.cell? ⟨lb,lo,none⟩=some (int .u32 (x0:Int))/\wr.cell? ⟨lb,lo+1,none⟩=some (int .u32 (x1:Int))/\wr.cell? ⟨lb,lo+2,none⟩=some (int .u32 (x2:Int))):=⟨d0,d1,d2⟩;go_simp;go_wp2_with fail;refine aK (fun W1=>Pr 32 B W1 g (slice ma p.m.length mc) (slice (some ⟨gh,0,none⟩) p.hs.length hc0) (slice pa p.ps.length pc) (slice ua un uc) { p with fr:=false }/\Fx (Dm g (slice ma p.m.length mc) (slice (some ⟨gh,0,none⟩) p.hs.length hc0) (slice pa p.ps.length pc)) (Dm g (slice ma p.m.length mc) (slice (some ⟨gh,0,none⟩) p.hs.length hc0) (slice pa p.ps.length pc)) wr W1/\W1.cell? ⟨lb,lo,none⟩=some (int .u32 (x0:Int))/\W1.cell? ⟨lb,lo+1,none⟩=some (int .u32 (x1:Int))/\W1.cell? ⟨lb,lo+2,none⟩=some (int .u32 (x2:Int))) ⟨jy,mO,jw _ _ HD.1,jw _ _ HD.2.1,jw _ _ HD.2.2⟩ ?_;rintro w1 ⟨X,F,d0,d1,d2⟩;have z1:=eH X.blk;have aha:IntKind.i64.wrap (x0:Int)=(x0:Int):=by rw[awO];omega
 have b0:decide ((x0:Int)<(p.hs.length:Int))=true:=awC ab;have b1:decide ((1:Int)<=(x1:Int))=true:=awC ab;have b1':decide ((x1:Int)>=1)=true:=awC ab;have b2:decide ((x1:Int)<=31)=true:=awC ab;have e0:(x0:Int)<(p.hs.length:Int):=ab;have e1:(1:Int)<=(x1:Int):=ab;have e2:(x1:Int)<=31:=ab;have e3:(x1:Int)<32:=ab;have HX:=kH X;have HF:=kH F;have HD:Hid (w1.cell? ⟨lb,lo,none⟩=some (int .u32 (x0:Int))/\w1.cell? ⟨lb,lo+1,none⟩=some (int .u32 (x1:Int))/\w1.cell? ⟨lb,lo+2,none⟩=some (int .u32 (x2:Int))):=⟨d0,d1,d2⟩;go_quiet (fail);go_wp2_with fail;rename_i K1 hK1;have DN:=kH hK1;refine aK (fun W=>Gr w1 W) ((Gr.refl w1).drewN _) ?_;rintro w5 G5;have hlb:=awo _ _ d0;have hgl:=(gs HX.blk).1;have d0:=(G5.cell _ (by exact hlb)).trans HD.1;have d1:=(G5.cell _ (by exact hlb)).trans HD.2.1;have d2:=(G5.cell _ (by exact hlb)).trans HD.2.2;have X4:=HX.gr G5;have z1:=eH X4.blk;obtain⟨X6,F6⟩:=Pr.vW (p:={ p with fr:=false }) (k:=x0) X4 rfl hk h1 h2 hx2;obtain⟨ob,he⟩:∃o,w5.heap[gh]?=some (cells o 43 (0,0)):=by
  obtain⟨gh',o,e1,e2⟩:=uW X4.mx.hrt (by show 0<p.hs.length;omega);injection e1 with e1;injection e1 with e1;subst e1;exact⟨o,e2⟩
 have fh:w5.frozen? ⟨gh,x0*37+x1,none⟩=false:=iA he;obtain⟨v0,hv0⟩:=Y0 X4 rfl (k:=x0) (r:=x1) hk ab;have hgg:gh≠g:=fun e=>by
  subst e;have h5:=X4.blk;rw[he]at h5;injection h5 with h5;injection h5 with _ h5;exact absurd h5 an
 have HB:=kH X4.blk;have ZO:Hid (∀(V:World) (i:Nat) (b:Value),V.heap[g]?=w5.heap[g]?->V.heap[lb]?=w5.heap[lb]?->(V.setCell ⟨gh,i,none⟩ b).cell? ⟨g,1,none⟩=some (slice (some ⟨gh,0,none⟩) p.hs.length hc0)/\(V.setCell ⟨gh,i,none⟩ b).cell? ⟨lb,lo,none⟩=some (int .u32 (x0:Int))/\(V.setCell ⟨gh,i,none⟩ b).cell? ⟨lb,lo+1,none⟩=some (int .u32 (x1:Int))/\(V.setCell ⟨gh,i,none⟩ b).cell? ⟨lb,lo+2,none⟩=some (int .u32 (x2:Int))):=fun V i b q1 q2=>by
  have k1:=(hso (w:=V) (a:=⟨gh,i,none⟩) (v:=b) (k:=g) hgg.symm).trans (q1.trans HB);have k2:=(hso (w:=V) (a:=⟨gh,i,none⟩) (v:=b) (k:=lb) hgb.symm).trans q2;exact⟨eH k1,(awv k2).trans d0,(awv k2).trans d1,(awv k2).trans d2⟩
 have HX6:=kH X6;have HF6:Hid _:=(HF.gr G5).trans F6;have k0:(x0:Int)<(p.hs.length:Int):=ab;have r0:(x1:Int)<32:=ab;generalize p.hs.length=n at *
 go_region_held3 (fun W=>W.cell? ⟨g,1,none⟩=some (slice (some ⟨gh,0,none⟩) n hc0)/\W.cell? ⟨lb,lo,none⟩=some (int .u32 (x0:Int))/\W.cell? ⟨lb,lo+1,none⟩=some (int .u32 (x1:Int))/\W.cell? ⟨lb,lo+2,none⟩=some (int .u32 (x2:Int))) (first|(refine⟨?_,?_,?_,?_⟩<;>assumption)|(exact ZO _ _ _ rfl rfl)) (fail);go_simp;refine DN _ _ ?_;go_wp2_with fail;go_ret;rw[HQ.out];exact bO.pre (D:=(_,_,_)) (Fx.aJ dF.out) ⟨rfl,_,_,_,_,HX6.gr (Gr.refl _).drew,HF6.gr (Gr.refl _).drew⟩
theorem Ua (hw:WS.headD []=nQ)(hn:aS WS.tail=some [x0,x1,x2])(A:Hid (La w g B M H P U p V WS (o5 p [x0,x1,x2])))(hno:¬(x0<p.hs.length/\1<=x1/\x1<=31)):Calls prog 6 #[pointer (some ⟨g,0,none⟩),V] w (bO 32 B w g M H P (o5 p [x0,x1,x2])):=by
 refine(aV A).2 ⟨?_⟩;unfold aV;dsimp only;intro k b o wr u4 u8 u9 u33 u34 u35 u36 u37 u38 u39 u40 u41 u42 u43 u44 u45 u46 u47 u48 u49 u50 u51 u52 m dn a1 c1 s0 VV dF jl fO iV HV K2 A2 K1 A1 K0 A0;have e0:=iV.out;rw[hn]at e0;obtain rfl:=aws e0;rw[HV.out,<-jl.out,hw,show str nQ=string ⟨#[115,101,116]⟩from rfl];have X:=A.X.gr dF.out;have hx:=bX hn;have hx0:=hx x0 aq;have hx1:=hx x1 aq;have hx2:=hx x2 aq;obtain⟨lb,lo,rfl, -,hc⟩:=fO.out.1.spot aq;have d0:wr.cell? ⟨lb,lo,none⟩=some (int .u32 (x0:Int)):=hc 0 x0 rfl;have d1:=hc 1 x1 rfl;have d2:=hc 2 x2 rfl;have hlb:=awo _ _ d0;have xP:lb≠g:=fun e=>by
  have h1:=fO.out.2 _ _ rfl;have h2:=(gs A.X.blk).1;omega
 have h4':=X.ok.h4;have HQ:Hid (o5 p [x0,x1,x2]=({ p with fr:=false },aQ)):=by unfold Hid;simp only[o5,awm hno]
 obtain⟨ma,mc,ha,hc0,pa,pc,ua,un,uc,rfl,rfl,rfl,rfl, -⟩:=X.open;obtain⟨X1,F1⟩:=X.down;have z4:=tO X.blk;have hgl:=(gs X.blk).1;have f4:wr.frozen? ⟨g,4,none⟩=false:=iA X.blk;have jy:=kH X1;have mO:=kH F1;have adR:=xP;have jw:Hid (∀(j:Nat) (v:Value),wr.cell? ⟨lb,j,none⟩=some v->(wr.setCell ⟨g,4,none⟩ (.bool false)).cell? ⟨lb,j,none⟩=some v):=fun j v h=>(awv (a:=⟨lb,j,none⟩) (hso adR)).trans h
 have HD:Hid (wr.cell? ⟨lb,lo,none⟩=some (int .u32 (x0:Int))/\wr.cell? ⟨lb,lo+1,none⟩=some (int .u32 (x1:Int))/\wr.cell? ⟨lb,lo+2,none⟩=some (int .u32 (x2:Int))):=⟨d0,d1,d2⟩;go_simp;go_wp2_with fail;refine aK (fun W1=>Pr 32 B W1 g (slice ma p.m.length mc) (slice ha p.hs.length hc0) (slice pa p.ps.length pc) (slice ua un uc) { p with fr:=false }/\Fx (Dm g (slice ma p.m.length mc) (slice ha p.hs.length hc0) (slice pa p.ps.length pc)) (Dm g (slice ma p.m.length mc) (slice ha p.hs.length hc0) (slice pa p.ps.length pc)) wr W1/\W1.cell? ⟨lb,lo,none⟩=some (int .u32 (x0:Int))/\W1.cell? ⟨lb,lo+1,none⟩=some (int .u32 (x1:Int))/\W1.cell? ⟨lb,lo+2,none⟩=some (int .u32 (x2:Int))) ⟨jy,mO,jw _ _ HD.1,jw _ _ HD.2.1,jw _ _ HD.2.2⟩ ?_;rintro w1 ⟨X,F,d0,d1,d2⟩;have z1:=eH X.blk;have aha:IntKind.i64.wrap (x0:Int)=(x0:Int):=by rw[awO];omega
 have HX:=kH X;have HF:=kH F;by_cases hk:x0<p.hs.length
 ·have b0:decide ((x0:Int)<(p.hs.length:Int))=true:=awC ab;have e0:(x0:Int)<(p.hs.length:Int):=ab;by_cases h1:1<=x1
  ·have b2:decide ((x1:Int)<=31)=false:=awq ab;have e2:¬(x1:Int)<=31:=ab;have b1:decide ((1:Int)<=(x1:Int))=true:=awC ab;have b1':decide ((x1:Int)>=1)=true:=awC ab;have e1:(1:Int)<=(x1:Int):=ab;go_quiet (fail);go_wp2_with fail;go_ret;rw[HQ.out];exact bO.pre (D:=(_,_,_)) (Fx.aJ dF.out) ⟨rfl,_,_,_,_,HX.gr ((Gr.refl _).drewN _),HF.gr ((Gr.refl _).drewN _)⟩
  ·skip
   have b1:decide ((1:Int)<=(x1:Int))=false:=awq ab;have b1':decide ((x1:Int)>=1)=false:=awq ab;have e1:¬(1:Int)<=(x1:Int):=ab;go_quiet (fail);go_wp2_with fail;go_ret;rw[HQ.out];exact bO.pre (D:=(_,_,_)) (Fx.aJ dF.out) ⟨rfl,_,_,_,_,HX.gr ((Gr.refl _).drewN _),HF.gr ((Gr.refl _).drewN _)⟩
 ·have b0:decide ((x0:Int)<(p.hs.length:Int))=false:=awq ab;have e0:¬(x0:Int)<(p.hs.length:Int):=ab;go_quiet (fail);go_wp2_with fail;go_ret;rw[HQ.out];exact bO.pre (D:=(_,_,_)) (Fx.aJ dF.out) ⟨rfl,_,_,_,_,HX.gr ((Gr.refl _).drewN _),HF.gr ((Gr.refl _).drewN _)⟩
end Vp
namespace Vp
open Mm Hh Hc Mc Ud As En Kc
variable{w:World}{g B:Nat}{M H P U:Value}{p:Pl}
theorem Y1 (hn:aS WS.tail=none)(A:Hid (La w g B M H P U p V WS (p,aQ))):Calls prog 6 #[pointer (some ⟨g,0,none⟩),V] w (bO 32 B w g M H P (p,aQ)):=by refine(aV A).2 ⟨?_⟩;unfold aV;dsimp only;intro k b o wr u4 u8 u9 u33 u34 u35 u36 u37 u38 u39 u40 u41 u42 u43 u44 u45 u46 u47 u48 u49 u50 u51 u52 m dn a1 c1 s0 VV dF jl fO iV HV K2 A2 K1 A1 K0 A0;have e0:=iV.out;rw[hn]at e0;cases e0
theorem Ub (hd:∀d∈WS.headD [],d<256)(hn:aS WS.tail=some l)(T:Tz B w)(A:∀RES,Hid (La w g B M H P U p V WS RES)):Calls prog 6 #[pointer (some ⟨g,0,none⟩),V] w (bO 32 B w g M H P (GG p (WS.headD []) l)):=by
 have cnt:∀q∈fV,WS.headD []=q.1->l.length≠q.2->Calls prog 6 #[pointer (some ⟨g,0,none⟩),V] w (bO 32 B w g M H P (p,aQ)):=fun q hq hw hne=>adP hq hw hn hne (A (p,aQ))
 have hlt:=bX hn;have unk:=fun h=>adO hd h (A (p,aQ))
 generalize hw:WS.headD []=wd at *
 unfold GG;by_cases h:wd=gX
 ·rw[awn h];subst h;by_cases h4:4096<p.m.length+4*l.length
  ·exact Ib hw hn h4 (A _)
  ·exact Ic hw hn ab (A _)
 rw[awm h];by_cases h0:wd=jY
 ·rw[awn h0];subst h0
  match l,hn,cnt with
  | [x],hn,cnt=>
   by_cases h4:p.hs.length<4
   ·exact Nw hw hn (A _) h4
   ·rw[show lW p [x]=(p,aQ)by simp only[lW,awm h4]];exact Nq hw hn (A _) h4
  | [],hn,cnt=>exact cnt (jY,1) (by simp[fV]) rfl aq
  |_::_::_,hn,cnt=>exact cnt (jY,1) (by simp[fV]) rfl aq
 rw[awm h0];by_cases h1:wd=nQ
 ·rw[awn h1];subst h1
  match l,hn,cnt with
  | [x,y,z],hn,cnt=>
   by_cases hk:x<p.hs.length/\1<=y/\y<=31
   ·exact T9 hw hn (A _) hk.1 hk.2.1 hk.2.2
   ·exact Ua hw hn (A _) hk
  | [],hn,cnt=>exact cnt (nQ,3) (by simp[fV]) rfl aq
  | [_],hn,cnt=>exact cnt (nQ,3) (by simp[fV]) rfl aq
  | [_,_],hn,cnt=>exact cnt (nQ,3) (by simp[fV]) rfl aq
  |_::_::_::_::_,hn,cnt=>exact cnt (nQ,3) (by simp[fV]) rfl aq
 rw[awm h1];by_cases h2:wd=jB
 ·rw[awn h2];subst h2
  match l,hn,cnt with
  | [x,y],hn,cnt=>
   by_cases h4:p.ps.length<300
   ·exact Ny hw hn (A _) h4
   ·rw[show lX p [x,y]=(p,aQ)by simp only[lX,awm h4]];exact Nr hw hn (A _) h4
  | [],hn,cnt=>exact cnt (jB,2) (by simp[fV]) rfl aq
  | [_],hn,cnt=>exact cnt (jB,2) (by simp[fV]) rfl aq
  |_::_::_::_,hn,cnt=>exact cnt (jB,2) (by simp[fV]) rfl aq
 rw[awm h2];by_cases h3:wd=uG
 ·rw[awn h3];subst h3
  match l,hn,cnt with
  | [],hn,cnt=>exact adN hw hn (A _) T
  |_::_,hn,cnt=>exact cnt (uG,0) (by simp[fV]) rfl aq
 rw[awm h3];by_cases h4:wd=lU
 ·rw[awn h4];subst h4
  match l,hn,cnt with
  | [x],hn,cnt=>exact YU hw hn (A _) T
  | [],hn,cnt=>exact cnt (lU,1) (by simp[fV]) rfl aq
  |_::_::_,hn,cnt=>exact cnt (lU,1) (by simp[fV]) rfl aq
 rw[awm h4];by_cases h5:wd=qi
 ·rw[awn h5];subst h5
  match l,hn,cnt with
  | [x],hn,cnt=>
   by_cases hk:x<p.hs.length
   ·exact TY hw hn (A _) hk
   ·rw[show rz p [x]=aQ by simp only[rz,awm hk]];exact TZ hw hn (A _) hk
  | [],hn,cnt=>exact cnt (qi,1) (by simp[fV]) rfl aq
  |_::_::_,hn,cnt=>exact cnt (qi,1) (by simp[fV]) rfl aq
 rw[awm h5];by_cases h6:wd=jZ
 ·rw[awn h6];subst h6
  match l,hn,cnt with
  | [x],hn,cnt=>
   by_cases hk:Dc.aO (x:Int)=0
   ·exact Np hw hn (A _) T hk
   ·exact Nl hw hn (A _) T hk
  | [],hn,cnt=>exact cnt (jZ,1) (by simp[fV]) rfl aq
  |_::_::_,hn,cnt=>exact cnt (jZ,1) (by simp[fV]) rfl aq
 rw[awm h6];by_cases h7:wd=j3
 ·rw[awn h7];subst h7
  match l,hn,cnt,hlt with
  | [x],hn,cnt,hlt=>
   have hx:=hlt x aq;by_cases hf:Bk.kJ p.m x=0
   ·obtain⟨r,hr⟩:=(tL (l:=p.m) (pc:=(x:Int)) ab ab).2 hf;have wx:=W.aT p.m 13 (x:Int);have hd:¬Dc.aO (aT p.m 13 x)=0:=by
     unfold Bk.kJ at hf;split at hf
     ·split at hf
      ·cases hf
      ·assumption
     ·cases hf
    exact Nk hw hn (A _) T hr wx hd
   ·exact Nj hw hn (A _) T ((tL (l:=p.m) (pc:=(x:Int)) ab ab).1 hf)
  | [],hn,cnt,_=>exact cnt (j3,1) (by simp[fV]) rfl aq
  |_::_::_,hn,cnt,_=>exact cnt (j3,1) (by simp[fV]) rfl aq
 rw[awm h7];by_cases h8:wd=jk
 ·rw[awn h8];subst h8
  match l,hn,cnt with
  | [x],hn,cnt=>
   by_cases hk:p.fr=true/\x<=p.us.length
   ·exact Ni hw hn (A _) hk
   ·rw[show gm p [x]=(p,aQ)by simp only[gm,awm hk]];cases hf:p.fr with
    |false=>exact Nt hw hn (A _) hf
    |true=>exact Nv hw hn (A _) hf fun h=>hk ⟨hf,h⟩
  | [],hn,cnt=>exact cnt (jk,1) (by simp[fV]) rfl aq
  |_::_::_,hn,cnt=>exact cnt (jk,1) (by simp[fV]) rfl aq
 rw[awm h8];by_cases h9:wd=iP
 ·rw[awn h9];subst h9
  match l,hn,cnt with
  | [x],hn,cnt=>exact TW hw hn (A _) T
  | [],hn,cnt=>exact cnt (iP,1) (by simp[fV]) rfl aq
  |_::_::_,hn,cnt=>exact cnt (iP,1) (by simp[fV]) rfl aq
 rw[awm h9];refine unk fun x hx=>?_
 simp only[arG,arN,awQ]at hx;rcases hx with rfl|rfl|rfl|rfl|rfl|rfl|rfl|rfl|rfl|rfl|rfl<;>assumption
theorem Nz {L}(hl:∀d∈L,d<256)(hs:L.length<=4000000)(X:Pr 32 B w g M H P U p)(T:Tz B w):Calls prog 6 #[pointer (some ⟨g,0,none⟩),str L] w (bO 32 B w g M H P (pq p L)):=by
 have ME:∀s∈splitN 32 L,s.length<=4000000/\∀d∈s,d<256:=fun s m=>by
  obtain⟨a,b⟩:=Ia 32 L s m;exact⟨ab,fun d hd=>hl d (b d hd)⟩
 have A:∀RES,(aS (splitN 32 L).tail=none->RES=(p,aQ))->Hid (La w g B M H P U p (str L) (splitN 32 L) RES):=fun RES hq=>
  (⟨X,hq,J5 (c:=32) an hl hs w,by have:=Hy 32 L;omega,ME,nP 32 L⟩:La w g B M H P U p (str L) (splitN 32 L) RES)
 unfold pq;cases hn:aS (splitN 32 L).tail with
 |none=>exact Y1 hn (A _ fun _=>rfl)
 |some l=>
  refine Ub (fun d hd=>?_) hn T fun RES=>A RES fun h=>by rw[hn]at h;cases h
  have e:=ji 32 L;exact(ME ((splitN 32 L).headD []) (by rw[e];simp)).2 d hd
end Vp
namespace Vp
open Mm Hh Hc Mc Ud As En Kc
variable{w w' W W' W0:World}{S A PT s:List Nat}{LL:List (List Nat)}{j:Nat}
def Lk (W0:World) (LL:List (List Nat)) (PT:List Nat) (j:Nat) (A:List Nat) (W:World):Prop:=∃p M H P U,@Pr ⟨⟨W0.heap.size⟩⟩ 32 W0.heap.size W W0.heap.size M H P U p/\Gr W0 W/\A.length<=j*100000001/\PT=A++ans p ((LL.drop j).take (40-j))
theorem Lk.gr (h:Lk W0 LL PT j A W)(G:Gr W W'):Lk W0 LL PT j A W':=by obtain⟨p,M,H,P,U,X,G0,r⟩:=h;exact⟨p,M,H,P,U,@Pr.gr ⟨⟨_⟩⟩ _ _ _ _ _ _ _ _ _ _ X G,G0.trans G,r⟩
theorem Lk.ask (T:T0 W0)(h:Lk W0 LL PT j A W)(hs:LL[j]?=some s)(hj:j<40)(hm:s.length<=4000000/\∀d∈s,d<256):Calls prog 6 #[pointer (some ⟨W0.heap.size,0,none⟩),str s] W fun e w'=>∃a,e=returned (str a)/\a.length<=100000000/\Lk W0 LL PT (j+1) (A++(a++[10])) w':=by
 obtain⟨p,M,H,P,U,X,G,hA,hP⟩:=h;have Tz':@Tz ⟨⟨W0.heap.size⟩⟩ W0.heap.size W:=⟨⟨W0,rfl,T.1,T.2.1,T.2.2,G⟩,(gs (@Pr.blk ⟨⟨W0.heap.size⟩⟩ _ _ _ _ _ _ _ _ _ X)).1⟩;refine(@Nz ⟨⟨W0.heap.size⟩⟩ W W0.heap.size W0.heap.size M H P U p s hm.2 hm.1 X Tz').mono ?_;rintro e w' ⟨rfl,M',H',P',U',X',F⟩;have hll:=EI (@Pr.ok ⟨⟨W0.heap.size⟩⟩ _ _ _ _ _ _ _ _ _ X) hm.2 hm.1;refine⟨_,rfl,hll,(pq p s).1,M',H',P',U',X',aw2 G (F.below (fun k hk=>(@Pr.dom ⟨⟨W0.heap.size⟩⟩ _ _ _ _ _ _ _ _ _ X k hk).1) G.size),?_,?_⟩
 ·simp only[ary,ar4];rw[Nat.add_mul];omega
 ·have hlt:=(arw.1 hs).1;have hd:LL.drop j=s::LL.drop (j+1):=by
   rw[asW hlt];congr 1;rw[arq hlt]at hs;injection hs
  rw[hP,hd,show 40-j=(40-(j+1))+1 by omega,atc];simp[ans]
theorem Lk.stop (h:Lk W0 LL PT j A W)(hj:j=40\/j=LL.length):PT=A/\Gr W0 W:=by
 obtain⟨p,M,H,P,U,X,G,hA,hP⟩:=h;refine⟨?_,G⟩;rw[hP];rcases hj with rfl|rfl
 ·simp[ans]
 ·rw[atK];simp[ans]
theorem Lk.start (e1:W.heap[W0.heap.size]?=some (cells #[slice none 0 0,slice none 0 0,slice none 0 0,slice none 0 0,.bool false] 32 (0,0)))(G:Gr W0 W)(hP:PT=ans XD (LL.take 40)):Lk W0 LL PT 0 [] W:=by
 refine⟨XD,slice none 0 0,slice none 0 0,slice none 0 0,slice none 0 0,?_,G,aq,?_⟩
 ·exact @Pr.mk ⟨⟨_⟩⟩ _ _ _ _ _ _ _ _ _ ⟨an,an,an⟩ (arA _) e1 (RY _ _) Rq ⟨W.heap.size,G.size,arA _,awG _ _ _ _,fun h=>(by cases h)⟩ ⟨_,_,_,rfl⟩
 ·rw[hP];rfl
theorem NA (hl:∀d∈S,d<256)(hs:S.length<=3000000)(T:T0 w):Calls prog 3 #[string (bs S)] w fun e w'=>e=returned (.bool true)/\Gr w w':=by
 have HSP:=kH (J5 (c:=10) an hl ab w);have zZ:Hid (∀W,Gr w W->_):=fun W G=>TK hl ab (T.gr G)
 have HT:Hid (∀W,Gr w W->T0 W):=fun W G=>T.gr G
 have hz:=Hy 10 S;have hpos:=atd.2 (nP 10 S);obtain⟨m,hm⟩:∃m,(splitN 10 S).length=m+1:=⟨(splitN 10 S).length-1,ab⟩;obtain⟨Ci,adS⟩:∃s,(splitN 10 S)[m]?=some s:=⟨_,arq ab⟩;have hgl:(splitN 10 S).getLast?=some Ci:=by rw[List.getLast?_eq_getElem?,hm];exact adS
 have BV:Hid (∀(i:Nat) (s:List Nat),(fU S)[i]?=some s->(splitN 10 S)[i]?=some s):=fun i s h=>by
  unfold fU at h;split at h
  ·rw[List.getElem?_dropLast]at h;split at h
   ·exact h
   ·cases h
  ·exact h
 have HZ1:Hid (Ci=[]->(fU S).length=m):=fun e=>by
  unfold fU;rw[hgl,e,awn rfl,List.length_dropLast,hm];rfl
 have HZ2:Hid (Ci≠[]->(fU S).length=m+1):=fun e=>by
  unfold fU;rw[hgl,awm (fun q=>e (aws q)),hm]
 have HM:Hid (∀s∈splitN 10 S,s.length<=4000000/\∀d∈s,d<256):=fun s q=>by
  obtain⟨a,b⟩:=Ia 10 S s q;exact⟨ab,fun d hd=>hl d (b d hd)⟩
 have HP0:Hid (rA S=ans XD ((fU S).take 40)):=rfl;have hmz:m<=3000000:=ab;clear hl hs T hz hgl;rw[show str S=string (bs S)from rfl]at HSP zZ;generalize bs S=BS at *
 generalize rA S=PT at *
 generalize fU S=LL at *
 generalize splitN 10 S=WS at *
 go_enter func3,ntmps3;go_wp2_with fail;refine HSP.mono ?_;rintro e w1 ⟨a,k,rfl,O,G1⟩;have hk:m+1<=k:=by
  rcases O.2 with⟨_,h0⟩|⟨_,cap,_,hv,_,_,h1,_⟩
  ·omega
  ·injection hv with _ _ h2;omega
 obtain⟨b,o,rfl,hb1,hc1⟩:=(Ts.own O).spot hpos;have jw:=kH hc1;have aU:=kH G1;have HB1:=kH hb1;have k1:=hc1 m Ci adS;clear O G1 hb1 hc1 HSP adS hpos;simp only[hm];rw[show str Ci=string (bs Ci)from rfl]at k1;have h0:(0:Int)<=(m:Int):=ab;have hk':(m:Int)<=(k:Int):=ab;by_cases hq:Ci=[]
 case' pos=>
  have HN:=HZ1 hq;subst hq;rw[show bs []=⟨#[]⟩from rfl]at k1;clear HZ1 HZ2;go_wp2_with fail;rw[<-HN]
 case' neg=>
  have HN:=HZ2 hq;have hne:((bs Ci).toList ==[])=false:=by
   rw[ar1,bV,awr];exact fun e=>hq (atx.1 e)
  clear HZ1 HZ2 hq;generalize bs Ci=BL at *
  go_wp2_with fail;rw[<-HN]
 all_goals
  clear HN k1 h0 hk' hk hm hmz;refine JC (fun W=>W.heap[w1.heap.size]?=some (cells #[slice none 0 0,slice none 0 0,slice none 0 0,slice none 0 0,.bool false] 32 (0,0))/\Gr w1 W) ⟨awk _ _,(Gr.refl _).alloc _⟩ ?_;rintro W2 ⟨e1,G2⟩;have Jk:=kH (Lk.start e1 G2 HP0);clear e1 G2;go_loopw [5,6] (fun q i wr=>∃(j:Nat) (A:List Nat),q=str A/\i=int i64 j/\j<=40/\j<=LL.length/\Lk w1 LL PT j A wr) (fun _ i _=>40-(intOf i).toNat)
  case atStart=>exact⟨0,[],rfl,rfl,ab,ab,Jk⟩
  case round=>
   obtain⟨j,A,rfl,rfl,hj,hjl,L⟩:=hrel;have HL:=kH L;clear L Jk;by_cases hlt:j<LL.length/\j<40
   ·obtain⟨s,hs⟩:∃s,LL[j]?=some s:=⟨_,arq hlt.1⟩;have hs2:=BV j s hs;have hG:=(HL).elim fun p h=>by obtain⟨_,_,_,_,_,G,_⟩:=h;exact G
    have k1:=(hG.cell _ (by exact HB1)).trans (jw j s hs2);have HA:Hid (∀W:World,Gr wr W->_):=fun W G=>(HL.gr G).ask (HT w1 aU) hs hlt.2 (HM s (arE hs2))
    have hAz:(bs A).size<=4000000040:=by
     obtain⟨_,_,_,_,_,_,_,h,_⟩:=HL;rw[df];have Oq:=hlt.2;have:j*100000001<=40*100000001:=asN _ ab;omega
    have h1:(j:Int)<(LL.length:Int):=ab;have h2:(j:Int)<40:=ab;have HLT:Hid (j<LL.length/\j<40):=hlt;have YO:Hid (∀a,Value.string ((bs A++bs a)++⟨#[10]⟩)=str (A++(a++[10]))):=fun a=>by
     have e1:Value.string (bs A++bs a)=Value.string (bs (A++a)):=jF A a;rw[Value.string.inj e1,<-asq];exact jF (A++a) [10]
    clear HL hs hs2 hG hlt;rw[show str s=string (bs s)from rfl]at k1 HA;rw[show str A=string (bs A)from rfl];generalize bs s=BSs at *
    generalize hBA:bs A=BA at *
    go_wp2_with fail;refine(HA _ (Gr.refl _)).mono ?_;rintro e w3 ⟨a,rfl,ha,L3⟩;have HL3:Hid (Lk w1 LL PT (j+1) (A++(a++[10])) w3):=L3;have mh:=YO a;have ha2:(bs a).size<=100000000:=by rw[df];exact ha
    clear L3 ha;rw[show str a=string (bs a)from rfl];generalize bs a=Ba at *
    have yx:Hid _:=mh;clear mh YO;go_wp2_with fail;go_roundw
    case rel=>exact⟨j+1,_,yx,by go_num,by have:=HLT;omega,by have:=HLT;omega,HL3⟩
    case measure=>simp[intOf];have:=HLT;omega
   ·have hj2:j=40\/j=LL.length:=ab;obtain⟨e0,hG⟩:=HL.stop hj2;have LP:=kH (aU.trans hG);subst e0;rw[show str PT=string (bs PT)from rfl]at zZ ⊢;generalize bs PT=BP at *
    by_cases hA:(j:Int)<(LL.length:Int)
    ·have hB:¬(j:Int)<40:=ab;go_wp2_with fail;refine(zZ _ LP).mono ?_;rintro e w3 ⟨rfl,G3⟩;have eO:=kH (LP.trans G3);go_wp2_with fail;go_ret;exact⟨rfl,eO⟩
    ·skip
     go_wp2_with fail;refine(zZ _ LP).mono ?_;rintro e w3 ⟨rfl,G3⟩;have eO:=kH (LP.trans G3);go_wp2_with fail;go_ret;exact⟨rfl,eO⟩
end Vp
end Go.Proofs.YtiadhbmnfjfioaaGreatDoor
