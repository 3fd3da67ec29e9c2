/- ours -/
import Derived.Test.YtiadhbmnfjfioaaGreatDoorX28
set_option linter.unusedVariables false
set_option linter.unusedSimpArgs false
set_option maxHeartbeats 8000000
set_option maxRecDepth 100000
set_option linter.unusedSectionVars false
namespace Go.Proofs.YtiadhbmnfjfioaaGreatDoor
namespace Ud
open Mm Hh Wd Mc

structure Uv where
 k:Int
 was:Hv
 fr:Int
 bs:List UInt8
 lost:List (Int×Int)
def lay (m:List UInt8) (f:Nat) (bs:List UInt8):List UInt8:=m.take f++bs++m.drop (f+bs.length)
def gives (hs:List Hv) (ls:List (Int×Int)):List Hv:=ls.foldl (fun hs l=>hs.set l.1.toNat ((hs.getD l.1.toNat hN).hold true l.2)) hs
def bX (s:List Hv×List UInt8) (u:Uv):List Hv×List UInt8:=(gives (s.1.set u.k.toNat u.was) u.lost,lay s.2 u.fr.toNat u.bs)
def bE (s:List Hv×List UInt8) (l:List Uv):List Hv×List UInt8:=l.foldr (fun u s=>bX s u) s
def gF (l:List (Nat×Int)):List (Int×Int):=l.map fun q=>((q.1:Int),q.2)
def oM (s:Sh) (k:Nat):List (Int×Int)→Uv
 | []=>⟨k,at' s k,0,[],[]⟩
 |p::_=>⟨k,at' s k,p.1,(s.m.drop p.1.toNat).take p.2.toNat,gF (aR k p s.hs s.hs.length)⟩
def eH (s:Sh) (k:Nat):Uv:=oM s k (dV (at' s k) s.m).av
def fu (s:Sh) (t:List Nat):Sh:=t.foldl bW s
def vR (s:Sh) (k:Nat):Nat→List Nat
 |0=>[]
 |n+1=>if(at' s k).state=0 then k::vR (bW s k) k n else[]
def jS (s:Sh):List (Nat×Nat)→List Nat
 | []=>[]
 |p::r=>vR s p.1 p.2++jS (runs s p.1 p.2) r
def gD (s:Sh):List Nat→List Uv
 | []=>[]
 |k::t=>eH s k::gD (bW s k) t
theorem Gv (s:Sh)(a b:List Nat):fu s (a++b)=fu (fu s a) b:=aqy
theorem zo:∀(a:List Nat) (s:Sh) (b:List Nat),gD s (a++b)=gD s a++gD (fu s a) b
 | [],s,b=>rfl
 |k::t,s,b=>by
  show eH s k::gD (bW s k) (t++b)=_
  rw[zo t];rfl
theorem nA:∀(t:List Nat) (s:Sh),(gD s t).length=t.length
 | [],s=>rfl
 |k::t,s=>by simp[gD,nA t]
theorem xE:∀(t:List Nat) (s:Sh),(fu s t).steps=s.steps+t.length
 | [],s=>rfl
 |k::t,s=>by
  show(fu (bW s k) t).steps=_
  rw[xE t];show s.steps+1+t.length=s.steps+(t.length+1)
  omega
theorem uR (k:Nat):∀(n:Nat) (s:Sh),runs s k n=fu s (vR s k n)
 |0,s=>rfl
 |n+1,s=>by
  unfold runs vR;split
  ·rw[uR k n];rfl
  ·rfl
theorem mr:∀(sc:List (Nat×Nat)) (s:Sh),aL s sc=fu s (jS s sc)
 | [],s=>rfl
 |p::r,s=>by rw[jc,mr r,jS,Gv,<-uR]
theorem Gw (k:Nat):∀(n:Nat) (s:Sh),(vR s k n).length≤n
 |0,s=>apn _
 |n+1,s=>by
  unfold vR;split
  ·have:=Gw k n (bW s k);simp;omega
  ·simp
theorem Gx:∀(a:List (Nat×Nat)) (s:Sh) (b:List (Nat×Nat)),jS s (a++b)=jS s a++jS (aL s a) b
 | [],s,b=>rfl
 |p::r,s,b=>by
  show vR s p.1 p.2++jS (runs s p.1 p.2) (r++b)=_
  rw[Gx r,<-aqa,jc];rfl
def Live:Sh→List Nat→Prop
 |_,[]=>True
 |s,k::t=>k<s.hs.length/\(at' s k).state=0/\Live (bW s k) t
theorem BV (s:Sh)(k:Nat):(bW s k).hs.length=s.hs.length:=by simp[bW,eD]
theorem BX (k:Nat):∀(n:Nat) (s:Sh),(runs s k n).hs.length=s.hs.length
 |0,s=>rfl
 |n+1,s=>by
  unfold runs;split
  ·rw[BX k n,BV]
  ·rfl
theorem BZ {k:Nat}:∀(n:Nat) (s:Sh),k<s.hs.length→Live s (vR s k n)
 |0,s,_=>trivial
 |n+1,s,h=>by
  unfold vR;split
  ·exact⟨h,by assumption,BZ n _ (by rw[BV];exact h)⟩
  ·trivial
theorem Ca:∀{a:List Nat} {s:Sh} {b:List Nat},Live s a→Live (fu s a) b→Live s (a++b)
 | [],s,b,_,h=>h
 |k::t,s,b,h,g=>⟨h.1,h.2.1,Ca h.2.2 g⟩
theorem Cb:∀{a:List Nat} {s:Sh} {b:List Nat},Live s (a++b)→Live (fu s a) b
 | [],s,b,h=>h
 |k::t,s,b,h=>Cb (a:=t) (s:=bW s k) h.2.2
theorem uS:∀(sc:List (Nat×Nat)) (s:Sh),(∀p∈sc,p.1<s.hs.length)→Live s (jS s sc)
 | [],s,_=>trivial
 |p::r,s,h=>by
  refine Ca (BZ _ _ (h p (by simp))) ?_;rw[<-uR];exact uS r _ (fun q hq=>by rw[BX];exact h q (by simp[hq]))
theorem xG {a b:List Nat}{s:Sh}(h:Live s (a++b)):Live s a:=by
 induction a generalizing s with
 |nil=>trivial
 |cons k t ih=>exact⟨h.1,h.2.1,ih h.2.2⟩
theorem zq {c n:Nat}:∀{t:List Nat} {s:Sh},Live s t→Fit s c n→Fit (fu s t) c n
 | [],s,_,f=>f
 |k::t,s,h,f=>zq (t:=t) h.2.2 (kg f (by rw[<-f.len];exact h.1) h.2.1)
theorem Gy (l:List UInt8)(a:Nat)(w:Int):∀(n i:Nat),i<a∨a+n≤i→(put l a w n)[i]?=l[i]?
 |0,i,_=>rfl
 |n+1,i,h=>by
  unfold put;rw[aq8 (by omega),Gy l a w n i (by omega)]
def Off (l m':List UInt8) (av:List (Int×Int)):Prop:=(av=[]/\m'=l)\/∃p,av=[p]/\m'.length=l.length/\∀i:Nat,i<p.1.toNat\/p.1.toNat+p.2.toNat<=i->m'[i]?=l[i]?
theorem EG {l:List UInt8}{op a b:Int}(h:dX l op a=true):Off l (il l op a b) [(a,(gG op:Nat))]:=by
 refine .inr ⟨_,rfl,?_,fun i hi=>?_⟩
 ·unfold il;rw[at7 h,iR]
 ·unfold il;rw[at7 h,Gy _ _ _ _ _ (by simpa using hi)]
theorem UL (h:Hv)(l:List UInt8)(op a b n:Int):Off l (fT h l op a b n).m (fT h l op a b n).av:=by
 have z:∀{m:List UInt8},m=l->Off l m []:=fun e=>.inl ⟨rfl,e⟩
 unfold fT;split
 ·exact z rfl
 split
 ·exact z rfl
 split
 ·exact z rfl
 split
 ·unfold bF;split<;>exact z rfl
 split
 ·unfold aH;split
  ·exact EG (by assumption)
  ·exact z rfl
 split
 ·exact z rfl
 split
 ·exact z rfl
 split
 ·unfold aK;split
  ·unfold gB;split<;>exact z rfl
  ·split
   ·unfold eU;split
    ·split
     ·exact EG (op:=18) (bG (by assumption))
     ·exact z rfl
    ·exact z rfl
   ·unfold iN;split
    ·exact EG (op:=18) (bG (by assumption))
    ·exact z rfl
 split
 ·unfold bA;split
  ·exact z rfl
  ·split<;>exact z rfl
 split<;>exact z rfl
theorem Gz (h:Hv)(l:List UInt8):Off l (dV h l).m (dV h l).av:=by
 unfold dV oW ins;split
 ·split
  ·exact .inl ⟨rfl,rfl⟩
  ·exact UL _ _ _ _ _ _
 ·exact .inl ⟨rfl,rfl⟩
theorem UM (m:List UInt8):lay m 0 []=m:=by simp[lay]
theorem OD {l m':List UInt8}{f n:Nat}(hl:m'.length=l.length)(hf:f+n<=l.length)(h:∀i:Nat,i<f\/f+n<=i->m'[i]?=l[i]?):lay m' f ((l.drop f).take n)=l:=by
 have e1:m'.take f=l.take f:=by
  apply aql;intro i;rw[apS,apS];split
  ·exact h i (.inl (by assumption))
  ·rfl
 have e2:((l.drop f).take n).length=n:=by simp;omega
 have e3:m'.drop (f+n)=l.drop (f+n):=by
  apply aql;intro i;rw[ap3,ap3];exact h _ (.inr (by omega))
 unfold lay;rw[e1,e2,e3,aqa,<-aqG,aqd,aqd]
theorem xH (hs:List Hv)(a b:List (Int×Int)):gives hs (a++b)=gives (gives hs a) b:=aqy
theorem nC:∀(ls:List (Int×Int)) (hs:List Hv),(gives hs ls).length=hs.length
 | [],hs=>rfl
 |l::r,hs=>by
  show(gives (hs.set l.1.toNat _) r).length=_
  rw[nC r];simp
theorem JL {h:Hv}(e:h.held=true):(h.hold false 0).hold true h.aP=h:=by cases h;simp only at e;subst e;rfl
theorem uT (k:Nat)(p:Int×Int)(hs:List Hv):∀j,j≤hs.length→∀i,(gives (dF k [p] hs) (gF (aR k p hs j)))[i]?=if i<j then hs[i]? else (dF k [p] hs)[i]?
 |0,_,i=>by simp[aR,gF,gives]
 |j+1,hj,i=>by
  have ih:=uT k p hs j (by omega);have hjl:j<hs.length:=by omega
  have eg:hs[j]?=some (hs.getD j hN):=by rw[api hjl];simp[List.getD,hjl]
  have el:(dF k [p] hs)[j]?=some (if loses k p j (hs.getD j hN)=true then(hs.getD j hN).hold false 0 else hs.getD j hN):=by
   rw[dM,eg,ap7];congr 1;generalize hs.getD j hN=h;unfold j6 loses pJ;by_cases e:j=k
   ·simp[e]
   ·simp[e]
  have ej:(gives (dF k [p] hs) (gF (aR k p hs j))).getD j hN=(if loses k p j (hs.getD j hN)=true then(hs.getD j hN).hold false 0 else hs.getD j hN):=by
   simp only[List.getD];rw[ih j,ak,el];rfl
  have ea:gF (aR k p hs (j+1))=gF (aR k p hs j)++(if loses k p j (hs.getD j hN)=true then[((j:Int),(hs.getD j hN).aP)]else[]):=by
   rw[aR];unfold gF;rw[aqb];split<;>rfl
  rw[ea,xH];by_cases hl:loses k p j (hs.getD j hN)=true
  ·have hh:(hs.getD j hN).held=true:=by
    unfold loses at hl;simp only[apD]at hl;exact hl.2.1
   rw[at7 hl]at el ej ⊢;show((gives (dF k [p] hs) (gF (aR k p hs j))).set (j:Int).toNat (((gives (dF k [p] hs) (gF (aR k p hs j))).getD (j:Int).toNat hN).hold true (hs.getD j hN).aP))[i]?=_
   rw[apG,ej,JL hh,ap1];by_cases e:j=i
   ·subst e;rw[at7 rfl,at7 (by rw[nC,eD];exact hjl),dU,eg]
   ·rw[at6 e,ih i];by_cases h2:i<j
    ·rw[at7 h2,dU]
    ·rw[at6 h2,ak]
  ·rw[at6 hl]at el ej ⊢;show(gives (dF k [p] hs) (gF (aR k p hs j)))[i]?=_
   rw[ih i];by_cases e:i=j
   ·subst e;rw[ak,dU,el,eg]
   ·by_cases h2:i<j
    ·rw[at7 h2,dU]
    ·rw[at6 h2,ak]
theorem JM (k:Nat)(p:Int×Int)(hs:List Hv):gives (dF k [p] hs) (gF (aR k p hs hs.length))=hs:=by
 apply aql;intro i;rw[uT k p hs _ (apn _) i];split
 ·rfl
 ·rename_i h;rw[aqf (by rw[eD];omega),aqf (by omega)]
theorem Cc (s:Sh)(k:Nat)(hk:k<s.hs.length)(ss:List (Int×Int))(h':Hv):(dF k ss (s.hs.set k h')).set k (at' s k)=dF k ss s.hs:=by
 apply aql;intro i;rw[ap1,dM,dM,eD,ap1];by_cases e:k=i
 ·subst e;simp only[if_true,ap6,hk];unfold at';simp[List.getD,hk]
 ·simp only[e,avm]
theorem JN {s:Sh}{c n k:Nat}(F:Fit s c n)(hk:k<c):bX ((bW s k).hs,(bW s k).m) (eH s k)=(s.hs,s.m):=by
 have hl:k<s.hs.length:=by rw[F.len];exact hk
 have eh:s.hs[k]?=some (at' s k):=by unfold at';rw[api hl];simp[List.getD,hl]
 have ok:=(F.ok _ (dH eh)).1;have O:=Gz (at' s k) s.m;have S:=(yx ok s.m).1;unfold eH bW;generalize dV (at' s k) s.m=x at *
 obtain⟨xh,xm,xo,xs⟩:=x;simp only at *
 rcases O with⟨rfl,rfl⟩|⟨p,rfl,hm,ho⟩
 ·unfold bX oM;have z:=Cc s k hl [] xh;rw[lQ,lQ]at z;simp only[apG,lQ,UM,Int.toNat_zero];rw[z];rfl
 ·obtain⟨p0,p1,p2⟩:=S p (by simp);unfold bX oM;simp only[apG,Cc s k hl];rw[JM,OD hm (by omega) ho]
theorem xI {c n:Nat}:∀(t:List Nat) (s:Sh),Fit s c n→Live s t→bE ((fu s t).hs,(fu s t).m) (gD s t)=(s.hs,s.m)
 | [],s,_,_=>rfl
 |k::t,s,F,L=>by
  have hk:k<c:=by rw[<-F.len];exact L.1
  have ih:=xI t (bW s k) (kg F hk L.2.1) L.2.2;show bX (bE ((fu (bW s k) t).hs,(fu (bW s k) t).m) (gD (bW s k) t)) (eH s k)=_
  rw[ih,JN F hk]
theorem JO {c n:Nat}{t:List Nat}{s:Sh}(F:Fit s c n)(L:Live s t)(j:Nat)(hj:j<=t.length):bE ((fu s t).hs,(fu s t).m) ((gD s t).drop j)=((fu s (t.take j)).hs,(fu s (t.take j)).m):=by
 have e:=(aqd j t).symm;have e1:fu s t=fu (fu s (t.take j)) (t.drop j):=by rw[<-Gv,aqd]
 have e2:(gD s t).drop j=gD (fu s (t.take j)) (t.drop j):=by
  have:=zo (t.take j) s (t.drop j);rw[aqd]at this;rw[this,aqO (by rw[nA];simp;omega),List.drop_of_length_le (by rw[nA];simp;omega),apO]
 rw[e]at L;rw[e1,e2];exact xI _ _ (zq (xG L) F) (Cb L)
def fB (c mn:Nat) (u:Uv):Bool:=decide (0<=u.k/\u.k<c) && (may u.was && (decide (u.fr+u.bs.length<=mn) && u.lost.all fun q=>decide (0<=q.1/\q.1<c)))
structure Uv.Ok (u:Uv):Prop where
 was:u.was.Ok
 f0:0<=u.fr
 f1:u.fr<4294967296
 lost:∀q∈u.lost,0<=q.2/\q.2<4294967296
theorem xJ (k:Nat)(p:Int×Int)(hs:List Hv):∀j,∀q∈aR k p hs j,q.1<j∧q.2=(hs.getD q.1 hN).aP
 |0,q,h=>by simp[aR]at h
 |j+1,q,h=>by
  unfold aR at h;rcases apR.1 h with h|h
  ·have:=xJ k p hs j q h;exact⟨by omega,this.2⟩
  ·split at h
   ·simp at h;subst h;exact⟨by simp,rfl⟩
   ·simp at h
theorem OE {s:Sh}{c n k:Nat}(F:Fit s c n)(hk:k<c)(hn:n<=4096):fB c n (eH s k)=true/\(eH s k).Ok/\(eH s k).bs.length<=4096/\(eH s k).lost.length<=c:=by
 have hl:k<s.hs.length:=by rw[F.len];exact hk
 have eh:s.hs[k]?=some (at' s k):=by unfold at';rw[api hl];simp[List.getD,hl]
 obtain⟨ok,my⟩:=F.ok _ (dH eh);have O:=Gz (at' s k) s.m;have S:=(yx ok s.m).1;unfold eH;generalize(dV (at' s k) s.m).m=x1 at *
 generalize(dV (at' s k) s.m).av=x2 at *
 rcases O with⟨rfl,_⟩|⟨p,rfl,_,_⟩
 ·unfold oM fB;refine⟨by simp[my];omega,⟨ok,by simp,by simp,fun q hq=>by simp at hq⟩,by simp,by simp⟩
 ·obtain⟨p0,p1,p2⟩:=S p (by simp);have hm:=F.mem;have hb:((s.m.drop p.1.toNat).take p.2.toNat).length=p.2.toNat:=by simp;omega
  have hu:=xJ k p s.hs s.hs.length;have hul:=mX k p s.hs s.hs.length;have hc:=F.len;unfold oM fB;refine⟨?_,⟨ok,p0,by show p.1<_;omega,fun q hq=>?_⟩,by show((s.m.drop p.1.toNat).take p.2.toNat).length<=_;rw[hb];omega,by show(gF _).length<=_;unfold gF;rw[apY];omega⟩
  ·simp only[my,arl,apD,auk,apM,hb];refine⟨by omega,by omega,fun q hq=>?_⟩;obtain⟨r,hr,rfl⟩:=apK.1 hq;have:=(hu r hr).1;simp only;omega
  ·obtain⟨r,hr,rfl⟩:=apK.1 hq;have h1:=hu r hr;have h2:s.hs[r.1]?=some (s.hs.getD r.1 hN):=by rw[api h1.1];simp[List.getD,h1.1]
   have o2:=(F.ok _ (dH h2)).1;simp only;rw[h1.2];exact⟨o2.x9,o2.zO⟩
theorem zt {c n:Nat}(hn:n≤4096):∀(t:List Nat) (s:Sh),Fit s c n→Live s t→∀u∈gD s t,fB c n u=true∧u.Ok∧u.bs.length≤4096∧u.lost.length≤c
 | [],s,_,_,u,h=>by simp[gD]at h
 |k::t,s,F,L,u,h=>by
  have hk:k<c:=by rw[<-F.len];exact L.1
  rcases apx.1 h with rfl|h
  ·exact OE F hk hn
  ·exact zt hn t _ (kg F hk L.2.1) L.2.2 u h
end Ud
namespace Vp
variable [Inhabited Go.Proofs.YtiadhbmnfjfioaaGreatDoor.Hc.bN]
open Hh Mc Ud As

def splitN (c:Nat):List Nat→List (List Nat)
 | []=>[[]]
 |d::t=>if d=c then[]::splitN c t else(d::(splitN c t).headD [])::(splitN c t).tail
theorem qi (c:Nat)(l:List Nat):splitN c l≠[]:=by
 cases l with
 |nil=>simp[splitN]
 |cons d t=>unfold splitN;split<;>simp
theorem mD (c:Nat)(l:List Nat):splitN c l=(splitN c l).headD []::(splitN c l).tail:=by
 cases h:splitN c l with
 |nil=>exact absurd h (qi c l)
 |cons x r=>rfl
theorem q8 (c:Nat):∀a b:List Nat,splitN c (a++c::b)=splitN c a++splitN c b
 | [],b=>by simp[splitN]
 |d::t,b=>by
  have ih:=q8 c t b;show splitN c (d::(t++c::b))=_
  by_cases h:d=c
  ·simp only[splitN,at7 h];rw[ih];rfl
  ·simp only[splitN,at6 h];rw[ih];have e:=mD c t;rw[e];rfl
def mE (s:List Nat):Option Nat:=if s.length<1\/10<s.length\/(s.head?=some 48/\1<s.length)then none else if s.all (fun d=>decide (48<=d/\d<=57))=true then(if vl s<4294967296 then some (vl s)else none)else none
def gu:List (List Nat)→Option (List Nat)
 | []=>some []
 |s::r=>match mE s with
  |none=>none
  |some n=>match gu r with
   |none=>none
   |some l=>some (n::l)
def bH (w:List Nat) (l:List Nat):List Nat:=l.foldl (fun t n=>t++32::dg n) w
structure Pl where
 m:List UInt8
 hs:List Hv
 ps:List (Int×Int)
 us:List Uv
 fr:Bool
def pl0:Pl:=⟨[],[],[],[],false⟩
def uU:List Nat:=[119,111,114,100,115]
def OG:List Nat:=[104,97,114,116]
def aaj:List Nat:=[115,101,116]
def OH:List Nat:=[112,105,99,107]
def aak:List Nat:=[114,117,110]
def OI:List Nat:=[102,97,115,116]
def aal:List Nat:=[104,97,114,116,63]
def OJ:List Nat:=[119,104,97,116]
def OM:List Nat:=[115,104,111,119]
def OO:List Nat:=[98,97,99,107]
def EH:List Nat:=[98,108,111,99,107]
def Ce:List Nat:=[111,107]
def aNo:List Nat:=[110,111]
def aIs:List Nat:=[105,115]
def zu:List Nat:=[98,97,100]
def JP:List Nat:=[114,97,110]
def aQ:List Nat:=[63]
def w4 (n:Nat):List UInt8:=[UInt8.ofNat (n%256),UInt8.ofNat (n/256%256),UInt8.ofNat (n/65536%256),UInt8.ofNat (n/16777216%256)]
def jr (pc:Nat):Hv:=⟨List.replicate 32 0,pc,false,0,0,0⟩
def hAt (p:Pl) (k:Nat):Hv:=p.hs.getD k (jr 0)
def UN (s:Sh):List Nat:=bH JP (s.steps::s.out.map Int.toNat)
def ik (p:Pl):Sh:=⟨p.hs,p.m,[],0⟩
def zw (w:Int):List Nat:=vY (Dc.aO w) (Dc.iF (Dc.aJ (Dc.aO w)) w) (Dc.bZ (Dc.aJ (Dc.aO w)) w) (Dc.bV (Dc.aJ (Dc.aO w)) w) (Dc.bS (Dc.aJ (Dc.aO w)) w)
def iL (p:Pl) (l:List Nat):Pl×List Nat:=if 4096<p.m.length+4*l.length then({ p with fr:=false },aQ)else({ p with m:=p.m++l.flatMap w4,fr:=false },bH Ce [p.m.length+4*l.length])
def uV (p:Pl):List Nat→Pl×List Nat
 | [pc]=>if p.hs.length<4 then({ p with hs:=p.hs++[jr pc],fr:=false },bH Ce [p.hs.length+1])else(p,aQ)
 |_=>(p,aQ)
def Cf (p:Pl):List Nat→Pl×List Nat
 | [k,r,x]=>if k<p.hs.length/\1<=r/\r<=31 then({ p with hs:=p.hs.set k { hAt p k with regs:=(hAt p k).regs.set r x },fr:=false },Ce)else({ p with fr:=false },aQ)
 |_=>(p,aQ)
def uW (p:Pl):List Nat→Pl×List Nat
 | [k,n]=>if p.ps.length<300 then({ p with ps:=p.ps++[((k:Int),(n:Int))] },bH Ce [p.ps.length+1])else(p,aQ)
 |_=>(p,aQ)
def nJ (p:Pl) (us:List Uv) (fr:Bool):Pl×List Nat:=if wrong p.m p.hs p.ps=0 then(⟨(aL (ik p) (nums p.ps)).m,(aL (ik p) (nums p.ps)).hs,[],us,fr⟩,UN (aL (ik p) (nums p.ps)))else(p,bH zu [(wrong p.m p.hs p.ps).toNat])
def aan (p:Pl):List Nat→Pl×List Nat
 | []=>nJ p (gD (ik p) (jS (ik p) (nums p.ps))) true
 |_=>(p,aQ)
def rR (p:Pl):List Nat→Pl×List Nat
 | [room]=>if wrong p.m p.hs p.ps=0/\64<room then({ p with fr:=false },bH zu [3])else nJ { p with fr:=false } p.us false
 |_=>(p,aQ)
def vS (p:Pl):List Nat→List Nat
 | [k]=>if k<p.hs.length then bH (dg (hAt p k).state.toNat) ((hAt p k).cause.toNat::(hAt p k).pc.toNat::(hAt p k).regs.map Int.toNat)else aQ
 |_=>aQ
def nP:List Nat→List Nat
 | [w]=>if Dc.aO w=0 then aNo else bH aIs [(Dc.aO w).toNat,(Dc.iF (Dc.aJ (Dc.aO w)) w).toNat,(Dc.bZ (Dc.aJ (Dc.aO w)) w).toNat,(Dc.bV (Dc.aJ (Dc.aO w)) w).toNat,(Dc.bS (Dc.aJ (Dc.aO w)) w%4294967296).toNat]
 |_=>aQ
def mF (p:Pl):List Nat→List Nat
 | [pc]=>match Bk.blk p.m pc 16 0 with
  | []=>aNo
  |w::_=>zw w
 |_=>aQ
def EI (p:Pl):List Nat→List Nat
 | [pc]=>dg (Bk.blk p.m pc 16 0).length
 |_=>aQ
def kW (p:Pl):List Nat→Pl×List Nat
 | [n]=>if p.fr=true/\n<=p.us.length then({ p with hs:=(bE (p.hs,p.m) (p.us.drop (p.us.length-n))).1,m:=(bE (p.hs,p.m) (p.us.drop (p.us.length-n))).2,fr:=false },Ce)else(p,aQ)
 |_=>(p,aQ)
def OP (p:Pl) (w:List Nat) (l:List Nat):Pl×List Nat:=
 if w=uU then iL p l else if w=OG then uV p l else if w=aaj then Cf p l else if w=OH then uW p l else if w=aak then aan p l else if w=OI then rR p l
 else if w=aal then(p,vS p l)else if w=OJ then(p,nP l)else if w=OM then(p,mF p l)else if w=OO then kW p l else if w=EH then(p,EI p l)else(p,aQ)
def nQ (p:Pl) (s:List Nat):Pl×List Nat:=
 match gu (splitN 32 s).tail with
 |none=>(p,aQ)
 |some l=>OP p ((splitN 32 s).headD []) l
def ans (p:Pl):List (List Nat)→List Nat
 | []=>[]
 |s::r=>(nQ p s).2++10::ans (nQ p s).1 r
def aao (p:Pl):List (List Nat)→Pl
 | []=>p
 |s::r=>aao (nQ p s).1 r
theorem GG:∀(a:List (List Nat)) (p:Pl) (b:List (List Nat)),ans p (a++b)=ans p a++ans (aao p a) b
 | [],p,b=>rfl
 |s::r,p,b=>by
  show(nQ p s).2++10::ans _ (r++b)=((nQ p s).2++10::ans _ r)++_
  rw[GG r];simp[aao]
def iM (s:List Nat):List (List Nat):=if(splitN 10 s).getLast?=some []then(splitN 10 s).dropLast else splitN 10 s
def jH (s:List Nat):List Nat:=ans pl0 ((iM s).take 40)
theorem JQ (a:List Nat):iM (a++[10])=splitN 10 a:=by unfold iM;rw[q8 10 a []];simp[splitN]
theorem OQ (a b:List Nat):∃r,iM (a++10::b)=splitN 10 a++r:=by
 unfold iM;rw[q8 10 a b];split
 ·exact⟨(splitN 10 b).dropLast,by rw[List.dropLast_append_of_ne_nil (qi 10 b)]⟩
 ·exact⟨_,rfl⟩
theorem UO (a b:List Nat):∃r,jH (a++10::b)=jH (a++[10])++r:=by obtain⟨r,h⟩:=OQ a b;unfold jH;rw[h,JQ,List.take_append,GG];exact⟨_,rfl⟩
theorem aap:jH [63]=[63,10]:=by decide
end Vp
namespace Vp
variable [Inhabited Go.Proofs.YtiadhbmnfjfioaaGreatDoor.Hc.bN]
open Hh Mc Ud As

theorem aaq {s:List Nat}{n:Nat}(h:mE s=some n):n<4294967296:=by
 unfold mE at h;split at h
 ·cases h
 ·split at h
  ·split at h
   ·injection h with h;omega
   ·cases h
  ·cases h
theorem zx:∀{ws:List (List Nat)} {l:List Nat},gu ws=some l→∀n∈l,n<4294967296
 | [],l,h,n,hn=>by
  simp only[gu,auj]at h;subst h;cases hn
 |s::r,l,h,n,hn=>by
  unfold gu at h;cases h1:mE s with
  |none=>rw[h1]at h;cases h
  |some x=>
   rw[h1]at h;cases h2:gu r with
   |none=>rw[h2]at h;cases h
   |some t=>
    rw[h2]at h;simp only[auj]at h;subst h;rcases apx.1 hn with rfl|hn
    ·exact aaq h1
    ·exact zx h2 n hn
structure lg (p:Pl):Prop where
 m4:p.m.length<=4096
 h4:p.hs.length<=4
 hok:∀h∈p.hs,h.Ok/\may h=true
 p3:p.ps.length<=300
 pk:∀q∈p.ps,0<=q.1/\q.1<4294967296/\0<=q.2/\q.2<4294967296
 un:p.fr=true->∃s t,Fit s p.hs.length p.m.length/\Live s t/\p.us=gD s t/\p.hs=(fu s t).hs/\p.m=(fu s t).m
 ne:p.fr=true->1<=p.hs.length/\p.us.length<=200000
theorem OT:∀(sc:List (Nat×Nat)) (s:Sh),(∀p∈sc,p.2≤400)→(jS s sc).length≤400*sc.length
 | [],s,_=>apn _
 |p::r,s,h=>by
  have h1:=Gw p.1 p.2 s;have h2:=h p (by simp);have h3:=OT r (runs s p.1 p.2) (fun q hq=>h q (by simp[hq]));show(vR s p.1 p.2++jS (runs s p.1 p.2) r).length<=_
  rw[apo,apH];omega
theorem aar:lg pl0:=⟨by simp[pl0],by simp[pl0],fun h hm=>(by cases hm),by simp[pl0],fun q hq=>(by cases hq),fun h=>(by cases h),fun h=>(by cases h)⟩
theorem lg.old {p:Pl}(o:lg p):lg { p with fr:=false }:=⟨o.m4,o.h4,o.hok,o.p3,o.pk,fun h=>(by cases h),fun h=>(by cases h)⟩
theorem OU (i:Nat):((List.replicate 32 (0:Int)).getD i 0)=0:=by rw[apV,aqK];split<;>rfl
theorem UQ {pc:Nat}(h:pc<4294967296):(jr pc).Ok/\may (jr pc)=true:=by
 refine⟨⟨by simp[jr],fun i=>?_,by simp[jr],by simp[jr];omega,by simp[jr],by simp[jr]⟩,?_⟩
 ·have:Hh.rg (jr pc) i=0:=OU i;rw[this];omega
 ·have h0:Hh.rg (jr pc) 0=0:=OU 0;unfold may;rw[h0];simp[jr]
theorem GH {h:Hv}(o:h.Ok)(m:may h=true){r x:Nat}(h1:1<=r)(h2:r<=31)(hx:x<4294967296):({ h with regs:=h.regs.set r x }:Hv).Ok/\may { h with regs:=h.regs.set r x }=true:=by
 have e:∀i,Hh.rg ({ h with regs:=h.regs.set r x }:Hv) i=if i=r then(x:Int)else Hh.rg h i:=fun i=>by
  unfold Hh.rg;rw[apV,apV,ap1];have:=o.len;by_cases hi:i=r
  ·subst hi;rw[at7 rfl,at7 rfl,dU];rfl
  ·rw[at6 (Ne.symm hi),at6 hi]
 refine⟨⟨by simp[o.len],fun i=>?_,o.nH,o.jV,o.x9,o.zO⟩,?_⟩
 ·rw[e];split
  ·omega
  ·exact o.reg i
 ·have e0:=e 0;rw[ak]at e0;unfold may at m ⊢;rw[e0];exact m
theorem GI:∀l:List Nat,(l.flatMap w4).length=4*l.length
 | []=>rfl
 |n::r=>by simp only[apL,apo,GI r,apH,w4,ap8];omega
theorem sP {p:Pl}{k:Nat}(h:k<p.hs.length):hAt p k∈p.hs:=by unfold hAt;rw[apV,api h];exact art h
theorem GJ {p:Pl}(o:lg p)(hw:wrong p.m p.hs p.ps=0):Fit (ik p) p.hs.length p.m.length/\Live (ik p) (jS (ik p) (nums p.ps))/\Fit (aL (ik p) (nums p.ps)) p.hs.length p.m.length:=by
 obtain⟨_,_,_,_,_,hp⟩:=kE hw;have F:Fit (ik p) p.hs.length p.m.length:=⟨rfl,rfl,o.hok⟩;have hn:∀q∈nums p.ps,q.1<p.hs.length:=fun q hq=>by
  obtain⟨r,hr,rfl⟩:=apK.1 hq;have:=hp r hr;show r.1.toNat<p.hs.length
  omega
 exact⟨F,uS _ _ hn,pM _ hn F⟩
theorem aas {p:Pl}(o:lg p){us:List Uv}{fr:Bool}(h:wrong p.m p.hs p.ps=0->fr=true->us=gD (ik p) (jS (ik p) (nums p.ps))):lg (nJ p us fr).1:=by
 unfold nJ;split
 ·rename_i hw;obtain⟨F,L,G⟩:=GJ o hw;have e1:=G.len;have e2:=G.mem;obtain⟨_,w1,_,_,w3,wp⟩:=kE hw;refine⟨by show(aL _ _).m.length<=_;rw[e2];exact o.m4,by show(aL _ _).hs.length<=_;rw[e1];exact o.h4,G.ok,by simp,fun q hq=>(by cases hq),fun hf=>?_,fun hf=>⟨by show 1<=(aL _ _).hs.length;rw[e1];exact w1,by
   show us.length<=200000
   have h1:=OT (nums p.ps) (ik p) (fun q hq=>by
    obtain⟨r,hr,rfl⟩:=apK.1 hq;have:=wp r hr;show r.2.toNat<=400
    omega)
   have h2:(nums p.ps).length=p.ps.length:=by unfold nums;rw[apY]
   rw[h hw hf,nA];omega⟩⟩
  refine⟨ik p,jS (ik p) (nums p.ps),?_,L,h hw hf,?_,?_⟩
  ·show Fit (ik p) (aL _ _).hs.length (aL _ _).m.length
   rw[e1,e2];exact F
  ·show(aL _ _).hs=_
   rw[mr]
  ·show(aL _ _).m=_
   rw[mr]
 ·exact o
theorem zy {p:Pl}(o:lg p)(hf:p.fr=true){n:Nat}(hn:n<=p.us.length):p.us.all (fB p.hs.length p.m.length)=true/\(∀u∈p.us,u.Ok/\u.bs.length<=4096/\u.lost.length<=p.hs.length)/\(∀h∈(bE (p.hs,p.m) (p.us.drop (p.us.length-n))).1,h.Ok/\may h=true)/\(bE (p.hs,p.m) (p.us.drop (p.us.length-n))).1.length=p.hs.length/\(bE (p.hs,p.m) (p.us.drop (p.us.length-n))).2.length=p.m.length:=by obtain⟨s,t,F,L,e1,e2,e3⟩:=o.un hf;have U:=zt o.m4 t s F L;have hl:=nA t s;rw[<-e1]at U hl;have B:=JO F L (p.us.length-n) (by omega);rw[<-e1,<-e2,<-e3]at B;have L2:=xG (b:=t.drop (p.us.length-n)) (by rw[aqd];exact L);have F2:=zq L2 F;rw[B];exact⟨apM.2 fun u hu=>(U u hu).1,fun u hu=>(U u hu).2,F2.ok,F2.len,F2.mem⟩
end Vp
end Go.Proofs.YtiadhbmnfjfioaaGreatDoor
