/- ours -/
import Derived.Test.YtiadhbmnfjfioaaGreatDoorX10
set_option linter.unusedVariables false
set_option linter.unusedSimpArgs false
set_option maxHeartbeats 8000000
set_option maxRecDepth 100000
set_option linter.unusedSectionVars false
namespace Go.Proofs.YtiadhbmnfjfioaaGreatDoor
open Go.Proofs.Tryz hiding parts
namespace Mc
open Mm Hh Wd

structure Wk where
 h:Hv
 m:List UInt8
 out:List Int
 av:List (Int×Int)
 n:Nat
def FU (x:Wk):Wk:=⟨(dV x.h x.m).h,(dV x.h x.m).m,x.out++(dV x.h x.m).out,x.av++(dV x.h x.m).av,x.n+1⟩
def wk (x:Wk):Nat→Wk
 |0=>x
 |n+1=>if x.h.state=0 then wk (FU x) n else x
theorem yw {x:Wk}(h:¬x.h.state=0):∀n,wk x n=x
 |0=>rfl
 |n+1=>at6 h
theorem uk {x:Wk}(h:x.h.state=0)(n:Nat):wk x (n+1)=wk (FU x) n:=at7 h
def tk (s:Sh) (k:Nat) (x:Wk):Sh:=⟨(dF k x.av s.hs).set k x.h,x.m,s.out++x.out,s.steps+x.n⟩
def w0 (s:Sh) (k:Nat):Wk:=⟨at' s k,s.m,[],[],0⟩
theorem I8 (h:Hv):j6 [] h=h:=by unfold j6;rw[at6];simp[pJ]
theorem wQ (a b:List (Int×Int))(h:Hv):j6 (a++b) h=j6 b (j6 a h):=by
 unfold j6;have e:pJ h.aP (a++b)=(pJ h.aP a ||pJ h.aP b):=by unfold pJ;rw[aq5]
 rw[e];by_cases hh:h.held=true
 ·cases ha:pJ h.aP a with
  |true=>simp[hh,Hv.hold]
  |false=>simp[hh,ha]
 ·simp[hh]
theorem lQ (k:Nat)(hs:List Hv):dF k [] hs=hs:=by
 apply aql;intro j;rw[dM];cases hs[j]? with
 |none=>rfl
 |some h=>simp[I8]
theorem Y3 (hs:List Hv)(k:Nat):hs.set k (hs.getD k hN)=hs:=by
 apply aql;intro j;rw[ap1];split
 ·rename_i e;subst e;split
  ·rename_i h;simp[List.getD,api h]
  ·rename_i h;rw[aqf (by omega)]
 ·rfl
theorem ac6 (s:Sh)(k:Nat):tk s k (w0 s k)=s:=by unfold tk w0 at';simp only[lQ,Y3,apz,aqt]
theorem Ta {s:Sh}{k:Nat}(hk:k<s.hs.length)(x:Wk):bW (tk s k x) k=tk s k (FU x):=by
 have e:at' (tk s k x) k=x.h:=by
  unfold at' tk;simp[List.getD,ap1,eD,hk]
 unfold bW;rw[e];unfold tk FU;simp only[aqa,aqU];congr 1;apply aql;intro j;rw[dM,ap1,ap1,ap1,dM,dM];by_cases e:k=j
 ·subst e;simp[eD,hk]
 ·have e2:¬j=k:=fun q=>e q.symm
  simp only[e,e2,avm];cases s.hs[j]? with
  |none=>rfl
  |some h=>simp[wQ]
theorem FV {s:Sh}{k:Nat}(hk:k<s.hs.length):∀(n:Nat) (x:Wk),runs (tk s k x) k n=tk s k (wk x n)
 |0,x=>rfl
 |n+1,x=>by
  have e:at' (tk s k x) k=x.h:=by
   unfold at' tk;simp[List.getD,ap1,eD,hk]
  unfold runs wk;rw[e];split
  ·rw[Ta hk,FV hk n]
  ·rfl
theorem pO {s:Sh}{k:Nat}(hk:k<s.hs.length)(n:Nat):runs s k n=tk s k (wk (w0 s k) n):=by have:=FV hk n (w0 s k);rwa[ac6]at this
def Tg (l:List UInt8) (p:Int×Int):Prop:=0<=p.1/\0<p.2/\p.1+p.2<=l.length
theorem Dv {l:List UInt8}{op a:Int}(ha:0<=a)(h:dX l op a=true):Tg l (a,(gG op:Nat)):=by unfold dX qy at h;rw[auk]at h;exact⟨ha,by simpa using h.1,h.2.2⟩
theorem Ti {h:Hv}(o:h.Ok)(l:List UInt8){op a b n:Int}(ha:W a):∀p∈(fT h l op a b n).av,Tg l p:=by
 unfold fT;intro p hp;split at hp
 ·simp at hp
 split at hp
 ·simp at hp
 split at hp
 ·simp at hp
 split at hp
 ·unfold bF at hp;split at hp<;>simp at hp
 split at hp
 ·unfold aH at hp;split at hp
  ·simp at hp;subst hp;exact Dv (W.lo _).1 (by assumption)
  ·simp at hp
 split at hp
 ·simp at hp
 split at hp
 ·simp at hp
 split at hp
 ·unfold aK at hp;split at hp
  ·unfold gB at hp;split at hp<;>simp at hp
  split at hp
  ·unfold eU at hp;split at hp
   ·split at hp
    ·simp at hp;subst hp;exact Dv (op:=18) ha.1 (bG (by assumption))
    ·simp at hp
   ·simp at hp
  ·unfold iN at hp;split at hp
   ·simp at hp;subst hp;exact Dv (op:=18) ha.1 (bG (by assumption))
   ·simp at hp
 split at hp
 ·unfold bA at hp;split at hp
  ·simp at hp
  ·split at hp<;>simp at hp
 split at hp<;>simp at hp
theorem yx {h:Hv}(o:h.Ok)(l:List UInt8):(∀p∈(dV h l).av,Tg l p)/\(dV h l).av.length<=1:=by
 unfold dV oW ins;split
 ·split
  ·exact⟨fun p hp=>by simp at hp,by simp⟩
  ·exact⟨Ti o l (W.reg o _),(Da o l (W.reg o _) (W.reg o _) (W.lo _)).av⟩
 ·exact⟨fun p hp=>by simp at hp,by simp⟩
structure AR (x:Wk) (n:Nat):Prop where
 ok:x.h.Ok
 may:may x.h=true
 mem:x.m.length=n
 out:x.out.length<=x.n
 av:x.av.length<=x.n
 bd:∀p∈x.av,0<=p.1/\0<p.2/\p.1+p.2<=n
theorem yz {x:Wk}{n:Nat}(o:AR x n)(hr:x.h.state=0):AR (FU x) n:=by
 have g:=lJ (Ak o.may hr) x.m;have s:=yx o.ok x.m;refine⟨LX o.ok x.m,g.1,g.2.1.trans o.mem,?_,?_,fun p hp=>?_⟩
 ·have:=g.2.2.2.1;have:=o.out;simp only[FU,apo];omega
 ·have:=s.2;have:=o.av;simp only[FU,apo];omega
 ·rcases apR.1 hp with h|h
  ·exact o.bd p h
  ·have:=s.1 p h;unfold Tg at this;rwa[o.mem]at this
theorem pQ {s:Sh}{c n k:Nat}(f:Fit s c n)(hk:k<c):AR (w0 s k) n:=by
 have hl:k<s.hs.length:=by rw[f.len];exact hk
 have eh:s.hs[k]?=some (at' s k):=by unfold at';rw[api hl];simp[List.getD,hl]
 obtain⟨ok,mk⟩:=f.ok _ (dH eh);exact⟨ok,mk,f.mem,apn _,apn _,fun p hp=>by simp[w0]at hp⟩
def loses (k:Nat) (p:Int×Int) (j:Nat) (h:Hv):Bool:=decide (j≠k) && (h.held && near h.aP p.1 p.2)
def aR (k:Nat) (p:Int×Int) (hs:List Hv):Nat→List (Nat×Int)
 |0=>[]
 |j+1=>aR k p hs j++(if loses k p j (hs.getD j hN)=true then[(j,(hs.getD j hN).aP)]else[])
theorem mX (k:Nat)(p:Int×Int)(hs:List Hv):∀j,(aR k p hs j).length≤j
 |0=>apn _
 |j+1=>by
  have:=mX k p hs j;unfold aR;rw[apo];split
  ·simp;omega
  ·simp;omega
theorem AU (k:Nat)(p:Int×Int)(hs:List Hv):∀j,∀q∈aR k p hs j,q.1<j
 |0,q,h=>by simp[aR]at h
 |j+1,q,h=>by
  unfold aR at h;rcases apR.1 h with h|h
  ·have:=AU k p hs j q h;omega
  ·split at h
   ·simp at h;subst h;simp
   ·simp at h
def drops (hs:List Hv) (ls:List (Nat×Int)):List Hv:=ls.foldl (fun hs l=>hs.set l.1 ((hs.getD l.1 hN).hold false 0)) hs
theorem wR (hs:List Hv)(a b:List (Nat×Int)):drops hs (a++b)=drops (drops hs a) b:=aqy
theorem qP:∀(ls:List (Nat×Int)) (hs:List Hv),(drops hs ls).length=hs.length
 | [],hs=>rfl
 |l::r,hs=>by
  show(drops (hs.set l.1 _) r).length=_
  rw[qP r];simp
theorem um (k:Nat)(p:Int×Int)(hs:List Hv):∀j,j≤hs.length→∀i,(drops hs (aR k p hs j))[i]?=if i<j then (dF k [p] hs)[i]? else hs[i]?
 |0,_,i=>by simp[aR,drops]
 |j+1,hj,i=>by
  have ih:=um k p hs j (by omega);have ej:(drops hs (aR k p hs j)).getD j hN=hs.getD j hN:=by
   simp only[List.getD];rw[ih j,ak]
  have hjl:j<hs.length:=by omega
  have eg:hs[j]?=some (hs.getD j hN):=by rw[api hjl];simp[List.getD,hjl]
  have el:(dF k [p] hs)[j]?=some (if loses k p j (hs.getD j hN)=true then(hs.getD j hN).hold false 0 else hs.getD j hN):=by
   rw[dM,eg,ap7];congr 1;generalize hs.getD j hN=h;unfold j6 loses pJ;by_cases e:j=k
   ·simp[e]
   ·simp[e]
  unfold aR;rw[wR];by_cases hl:loses k p j (hs.getD j hN)=true
  ·rw[at7 hl]at el ⊢;show((drops hs (aR k p hs j)).set j (((drops hs (aR k p hs j)).getD j hN).hold false 0))[i]?=_
   rw[ej,ap1];by_cases e:j=i
   ·subst e;rw[at7 rfl,at7 (by rw[qP];exact hjl),dU,el]
   ·rw[at6 e,ih i];by_cases h2:i<j
    ·rw[at7 h2,dU]
    ·rw[at6 h2,ak]
  ·rw[at6 hl]at el ⊢;show(drops hs (aR k p hs j))[i]?=_
   rw[ih i];by_cases e:i=j
   ·subst e;rw[ak,dU,el,eg]
   ·by_cases h2:i<j
    ·rw[at7 h2,dU]
    ·rw[at6 h2,ak]
theorem I9 (k:Nat)(p:Int×Int)(hs:List Hv):drops hs (aR k p hs hs.length)=dF k [p] hs:=by
 apply aql;intro i;rw[um k p hs _ (apn _) i];split
 ·rfl
 ·rename_i h;rw[aqf (by omega),aqf (by rw[eD];omega)]
theorem MS (k:Nat)(a b:List (Int×Int))(hs:List Hv):dF k (a++b) hs=dF k b (dF k a hs):=by
 apply aql;intro j;rw[dM,dM,dM];cases hs[j]? with
 |none=>rfl
 |some h=>
  simp only[ap7];split
  ·rfl
  ·rw[wQ]
theorem Dx {x f k n:Int}(hx0:0<=x)(hx:x<4294967296)(h0:0<=f)(hk:0<k)(hf:f+k<=n)(hn:n<=4096):near x f k=(decide (x<f+k) && decide (f<x+4)):=by unfold near;by_cases a:x<f+k<;>by_cases b:f<x+4<;>simp[a,b,hk]
end Mc
namespace En
open Mm Wd Mi Bk Ts Kc
open Mc hiding Fit
open Hh hiding Rn

variable {l l' :List UInt8} {b :Bv} {steps :Int} {s :Sh} {k n :Nat}
def Dy (r:Mi.Rn):Wk:=⟨r.h,r.m,r.out,r.av,r.n⟩
theorem MU (r:Mi.Rn):Dy (b1 r)=FU (Dy r):=rfl
theorem MV (bY last steps:Int):∀(f k:Nat) (r:Mi.Rn),r.h.state=0→(r.n:Int)≤steps→∃c,c≤f∧Dy (FD bY last steps f k r)=wk (Dy r) c∧(FD bY last steps f k r).n=r.n+c∧((FD bY last steps f k r).n:Int)≤steps∧(0<f→(r.n:Int)<steps→0<c)
 |0,k,r,_,hn=>⟨0,apn _,rfl,rfl,hn,fun h=>absurd h (by omega)⟩
 |f+1,k,r,hs,hn=>by
  unfold FD;split
  ·rename_i hlt;split
   ·refine⟨1,by omega,?_,rfl,?_,fun _ _=>by omega⟩
    ·rw[MU,uk hs];rfl
    ·show((r.n+1:Nat):Int)<=steps
     omega
   ·rename_i hb;have hs2:(b1 r).h.state=0:=by
     unfold wL at hb;simp only[aqV,auk,not_or,Classical.not_not]at hb;exact hb.1
    obtain⟨c,h1,h2,h3,h4,_⟩:=MV bY last steps f (k+1) (b1 r) hs2 (by show((r.n+1:Nat):Int)<=steps;omega);refine⟨c+1,by omega,?_,?_,h4,fun _ _=>by omega⟩
    ·rw[h2,MU,uk hs]
    ·rw[h3];show r.n+1+c=r.n+(c+1)
     omega
  ·exact⟨0,by omega,rfl,rfl,hn,fun _ h=>absurd h (by assumption)⟩
structure dS (l:List UInt8) (b:Bv):Prop where
 pos:0<b.is.length
 nH:0<=b.pc
 jV:b.pc<4294967296
 le:b.is.length<=(blk l b.pc 16 0).length
 eq:b.is=((blk l b.pc 16 0).take b.is.length).map ui
theorem dS.len (h:dS l b):b.is.length<=16:=apr h.le (fM l b.pc 16 0).1
theorem Dz {pc:Int}(h0:0<=pc)(h1:pc<4294967296)(hp:0<(blk l pc 16 0).length):dS l ⟨pc,(blk l pc 16 0).map ui⟩:=⟨by simpa using hp,h0,h1,by simp,by simp⟩
theorem oD (h:dS l b)(hl:l.length<=4096):Sj l b.pc (b.pc+4*(b.is.length:Int)) b.is.length (fun j=>aN l 13 (at4 b.pc j)):=by have B:=Sy hl h.nH h.jV (apq h.pos h.le);have hle:=h.le;have hf:=B.fit;exact⟨h.pos,h.nH,rfl,hl,by omega,fun j hj=>B.at_ j (by omega),fun j hj=>B.ok j (by omega),fun j hj=>B.op j (by omega),fun j hj q=>by have:=B.fin j (by omega) q;omega⟩
theorem oF (h:dS l b){j:Nat}(hj:j<b.is.length):b.is[j]?=some (ui (aN l 13 (at4 b.pc j)))/\¬Dc.aO (aN l 13 (at4 b.pc j))=0:=by obtain⟨f1,f2,_⟩:=(fM l b.pc 16 0).2 j (apq hj h.le);rw[apu]at f1 f2;refine⟨?_,(mV f1).2⟩;have e:=h.eq;rw[e,apT,List.getElem?_take_of_lt hj,f2];rfl
theorem AV (h:dS l b):∀i∈b.is,i.In:=fun i hi=>by obtain⟨j,hj⟩:=aqe.1 hi;obtain⟨e,hx⟩:=oF h (apj.1 hj).1;rw[e]at hj;injection hj with hj;subst hj;have:=W.aN l 13 (at4 b.pc j);exact Du this.1 this.2 hx
theorem AX (pc:Int)(d:Iv):∀(is:List Iv) (k:Nat) (bd:Nat→List Mv),(∀j i,is[j]?=some i→bd (k+j)=CG (at4 pc (k+j)) i)→aS pc is k=pz pc bd is.length k
 | [],k,bd,_=>rfl
 |i::is,k,bd,h=>by
  show _::(_++aS pc is (k+1))=_::(_++_)
  have h0:=h 0 i rfl;rw[aqt]at h0;rw[AX pc d is (k+1) bd (fun j i hi=>by
   have:=h (j+1) i (by simpa using hi);rwa[show k+(j+1)=k+1+j by omega]at this),h0]
theorem Ja (F:dS l b)(hl:l.length<=4096){h:Hv}(o:h.Ok)(hm:may h=true)(hs:h.state=0)(hp:h.pc=b.pc)(h0:0<=steps):QV (dC b.pc (b.pc+4*(b.is.length:Int)) steps h l (aS b.pc b.is 0)) (FD b.pc (b.pc+4*(b.is.length:Int)) steps b.is.length 0 (mstart h l)):=by
 have e:=AX b.pc ⟨0,0,0,0,0⟩ b.is 0 _ fun j i hi=>by
  obtain⟨e,_⟩:=oF F (apj.1 hi).1;rw[e]at hi;injection hi with hi;subst hi;rw[apu]
 rw[e,<-apz (pz _ _ _ _)];refine IB (oD F hl) (fun j hj=>?_) (tail_nil _ _ _ _) o hm hs hp h0 (fun j hj=>rfl);have hx:=(oF F hj).2;have hb:=W.aN l 13 (at4 b.pc j);exact Sk hx (SY (i:=ui (aN l 13 (at4 b.pc j))) (Du hb.1 hb.2 hx))
theorem Jb (F:dS l b):nZ (aS b.pc b.is 0)=true:=I6 b.pc (AV F) F.len
theorem Jc (hk:k<s.hs.length)(F:dS s.m b)(hl:s.m.length<=4096)(o:(at' s k).Ok)(hm:may (at' s k)=true)(hs:(at' s k).state=0)(hp:(at' s k).pc=b.pc)(h0:0<steps):∃c:Nat,0<c/\(c:Int)<=steps/\c<=16/\(dC b.pc (b.pc+4*(b.is.length:Int)) steps (at' s k) s.m (aS b.pc b.is 0)).n=c/\Dy (dC b.pc (b.pc+4*(b.is.length:Int)) steps (at' s k) s.m (aS b.pc b.is 0))=wk (w0 s k) c/\ runs s k c=tk s k (Dy (dC b.pc (b.pc+4*(b.is.length:Int)) steps (at' s k) s.m (aS b.pc b.is 0))):=by
 have E:=Ja F hl o hm hs hp (Int.le_of_lt h0);obtain⟨c,h1,h2,h3,h4,h5⟩:=MV b.pc (b.pc+4*(b.is.length:Int)) steps b.is.length 0 (mstart (at' s k) s.m) hs (by show((0:Nat):Int)<=steps;omega);have eW:Dy (dC b.pc (b.pc+4*(b.is.length:Int)) steps (at' s k) s.m (aS b.pc b.is 0))=wk (w0 s k) c:=by
  have:Dy (mstart (at' s k) s.m)=w0 s k:=rfl;rw[<-this,<-h2];unfold Dy;rw[E.h,E.m,E.out,E.n,E.av]
 have en:(FD b.pc (b.pc+4*(b.is.length:Int)) steps b.is.length 0 (mstart (at' s k) s.m)).n=c:=by rw[h3];show 0+c=c;omega
 refine⟨c,h5 F.pos (by show((0:Nat):Int)<steps;omega),by rw[en]at h4;exact h4,apr h1 F.len,by rw[E.n,en],eW,?_⟩;rw[pO hk,eW]
theorem FW (hn:n≤4096)(bY last:Int):∀(c:Nat) (x:Wk),AR x n→∃t,(wk x c).av=x.av++t∧AR (wk x c) n∧(t.any (vI bY last)=false→∀a,0≤a→bY≤a→a+4≤last→aN (wk x c).m 13 a=aN x.m 13 a)
 |0,x,w=>⟨[],by show x.av=_;simp,w,fun _ a _ _ _=>rfl⟩
 |c+1,x,w=>by
  by_cases h:x.h.state=0
  ·rw[uk h];obtain⟨t,e,w2,k2⟩:=FW hn bY last c (FU x) (yz w h);refine⟨(dV x.h x.m).av++t,by rw[e];show(x.av++_)++t=_;rw[aqa],w2,fun hno a h0 h1 h2=>?_⟩;rw[aq5,Bool.or_eq_false_iff]at hno;rw[k2 hno.2 a h0 h1 h2];exact tZ (FO w.ok x.m) (bY:=bY) (last:=last) (by rw[w.mem];exact hn) hno.1 h0 h1 h2
  ·rw[yw h];exact⟨[],by simp,w,fun _ a _ _ _=>rfl⟩
theorem AY (hl:l'.length=l.length)(pc:Int):∀(n k c:Nat),c≤(blk l pc n k).length→(∀j,j<c→aN l' 13 (at4 pc (k+j))=aN l 13 (at4 pc (k+j)))→(blk l' pc n k).take c=(blk l pc n k).take c∧c≤(blk l' pc n k).length
 |n,k,0,_,_=>by simp
 |0,k,c+1,h,_=>absurd h (by simp[blk])
 |n+1,k,c+1,h,hw=>by
  have e0:aN l' 13 (at4 pc k)=aN l 13 (at4 pc k):=hw 0 (by omega);have eft:jR l' (at4 pc k)=jR l (at4 pc k):=by
   have eo:bM l' 13 (at4 pc k)=bM l 13 (at4 pc k):=by unfold bM;rw[hl]
   unfold jR;rw[eo,e0]
  by_cases hf:jR l (at4 pc k)=0
  ·cases hlo:eB (Dc.aO (aN l 13 (at4 pc k)))with
   |true=>
    rw[pq hf hlo]at h ⊢;rw[pq (eft.trans hf) (by rw[e0];exact hlo),e0];exact⟨rfl,h⟩
   |false=>
    rw[yo hf hlo]at h ⊢;rw[yo (eft.trans hf) (by rw[e0];exact hlo),e0];obtain⟨i1,i2⟩:=AY hl pc n (k+1) c (by simpa using h) (fun j hj=>by
     have:=hw (j+1) (by omega);rwa[show k+(j+1)=k+1+j by omega]at this)
    refine⟨?_,by simpa using i2⟩;rw[ara,ara,i1]
  ·rw[pg hf]at h;exact absurd h (by simp)
theorem DC (F:dS l b)(hl:l.length<=4096)(hlen:l'.length=l.length)(hw:∀a,0<=a->b.pc<=a->a+4<=b.pc+4*(b.is.length:Int)->aN l' 13 a=aN l 13 a):dS l' b:=by
 have B:=oD F hl;have hp:=F.nH;obtain⟨e1,e2⟩:=AY hlen b.pc 16 0 b.is.length F.le (fun j hj=>by
  rw[apu];have:=B.at_ j (by omega);exact hw _ (by omega) (by omega) (by omega))
 exact⟨F.pos,F.nH,F.jV,e2,by rw[e1];exact F.eq⟩
theorem Tu {p:Int×Int}(hb:0<b.is.length)(h0:0<=p.1)(h1:0<p.2)(h2:p.1+p.2<=4096):hasB b p.1 (Wd.lo (p.1+p.2))=vI b.pc (b.pc+4*(b.is.length:Int)) p:=by
 have e:Wd.lo (p.1+p.2)=p.1+p.2:=aqr (by omega) (by omega);unfold hasB vI;rw[e,decide_eq_decide,Int.max_def,Int.min_def];constructor
 ·intro h;(repeat' split at h)<;>omega
 ·intro h;(repeat' split)<;>omega
theorem DI {c:Nat}(hn:n<=4096)(w:AR (w0 s k) n)(F:dS s.m b)(hno:∀p∈(wk (w0 s k) c).av,hasB b p.1 (Wd.lo (p.1+p.2))=false):dS (wk (w0 s k) c).m b:=by obtain⟨t,e,w2,hk⟩:=FW hn b.pc (b.pc+4*(b.is.length:Int)) c (w0 s k) w;have e2:(wk (w0 s k) c).av=t:=e;have hm:s.m.length=n:=w.mem;refine DC F (by omega) (w2.mem.trans hm.symm) (hk ?_);rw[List.any_eq_false];intro p hp;rw[<-e2]at hp;have bd:=w2.bd p hp;rw[<-Tu F.pos bd.1 bd.2.1 (by omega),hno p hp];simp
end En
namespace Kc
variable [Inhabited Go.Proofs.YtiadhbmnfjfioaaGreatDoor.Hc.bN]
open Mm Ts

variable {pc room :Int} {bs :List Bv} {k :Nat} {b :Bv}
def vJ (bs:List Bv):Prop:=bs.Pairwise fun a b=>¬a.pc=b.pc
theorem rG:∀{bs:List Bv} {k j:Nat},place pc bs k=((k+j:Nat):Int)→∃b,bs[j]?=some b∧b.pc=pc
 | [],k,j,h=>by unfold place at h;omega
 |b::r,k,j,h=>by
  unfold place at h;split at h
  ·rename_i e;have:j=0:=by omega
   subst this;exact⟨b,rfl,e⟩
  ·rcases fU pc r (k+1)with h2|⟨i,x,h2,hx⟩
   ·omega
   ·have e:j=i+1:=by omega
    subst e;obtain⟨y,hy,he⟩:=rG (bs:=r) (k:=k+1) (j:=i) h2;exact⟨y,by simpa using hy,he⟩
theorem pU {k:Int}{i:Nat}(h:k<(i:Int)):o6 k bs i=bs:=by
 induction bs generalizing i with
 |nil=>rfl
 |cons b r ih=>
  unfold o6;rw[ak,ih (by omega)]
theorem yA:∀(bs:List Bv) (k:Int) (i:Nat),(o6 k bs i).Sublist bs
 | [],k,i=>List.Sublist.refl _
 |b::r,k,i=>by
  unfold o6;split
  ·exact(yA r k (i+1)).trans (List.sublist_cons_self b r)
  ·exact(yA r k (i+1)).cons_cons b
theorem FX:∀{bs:List Bv} {i:Nat},vJ bs→∀b∈o6 (place pc bs i) bs i,¬b.pc=pc
 | [],i,_,b,h=>by cases h
 |c::r,i,hs,b,h=>by
  have hs2:vJ r:=(arj.1 hs).2;have hc:=(arj.1 hs).1;by_cases e:c.pc=pc
  ·have ep:place pc (c::r) i=(i:Int):=by unfold place;rw[at7 e]
   rw[ep]at h;unfold o6 at h;rw[at7 rfl,pU (by omega)]at h;intro e2;exact hc b h (e.trans e2.symm)
  ·have ep:place pc (c::r) i=place pc r (i+1):=by rw[place,at6 e]
   rw[ep]at h;unfold o6 at h;have hne:¬(i:Int)=place pc r (i+1):=by
    rcases fU pc r (i+1)with h2|⟨j,x,h2,_⟩<;>omega
   rw[at6 hne]at h;rcases apx.1 h with rfl|h
   ·exact e
   ·exact FX hs2 b h
theorem MW {pc:Int}:∀{bs:List Bv} {i:Nat},0≤place pc bs i→(o6 (place pc bs i) bs i).length+1≤bs.length
 | [],i,h=>by unfold place at h;omega
 |c::r,i,h=>by
  by_cases e:c.pc=pc
  ·have ep:place pc (c::r) i=(i:Int):=by unfold place;rw[at7 e]
   rw[ep];unfold o6;rw[at7 rfl,pU (by omega)];simp
  ·have ep:place pc (c::r) i=place pc r (i+1):=by rw[place,at6 e]
   rw[ep]at h ⊢;have:=MW (pc:=pc) (bs:=r) (i:=i+1) h;unfold o6;have hne:¬(i:Int)=place pc r (i+1):=by
    rcases fU pc r (i+1)with h2|⟨j,x,h2,_⟩<;>omega
   rw[at6 hne];simp;omega
theorem vJ.sub {a b:List Bv}(h:vJ b)(s:a.Sublist b):vJ a:=h.sublist s
theorem vJ.snoc (h:vJ bs)(hn:∀x∈bs,¬x.pc=b.pc):vJ (bs++[b]):=by unfold vJ;rw[List.pairwise_append];exact⟨h,List.pairwise_singleton _ _,fun x hx y hy=>by rw[apE]at hy;subst hy;exact hn x hx⟩
structure Cok (room:Int) (bs:List Bv):Prop where
 len:(bs.length:Int)<=room
 Y4:vJ bs
theorem Tv {f t:Int}:∀b∈bJ f t bs,hasB b f t=false:=fun b hb=>by have:=(arz.1 hb).2;simpa using this
theorem Cok.put (h:Cok room bs)(h0:0<=room)(b:Bv):Cok room (jy room bs b)/\(0<room->place b.pc (jy room bs b) 0=((jy room bs b).length:Int)-1/\(jy room bs b)[(jy room bs b).length-1]?=some b)/\(room=0->jy room bs b=[]):=by
 have hg:=FX (pc:=b.pc) (i:=0) h.Y4;have hsub:=yA bs (place b.pc bs 0) 0;have hlen:=LD (place b.pc bs 0) bs 0;have hl:=h.len;have hone:0<=place b.pc bs 0->(o6 (place b.pc bs 0) bs 0).length+1<=bs.length:=MW;have S:=(h.Y4.sub hsub).snoc hg;have fin:∀(l:List Bv),(∀x∈l,¬x.pc=b.pc)->place b.pc (l++[b]) 0=(((l++[b]).length:Nat):Int)-1/\(l++[b])[(l++[b]).length-1]?=some b:=fun l hn=>by
  refine⟨?_,by simp⟩;have:=Aa (pc:=b.pc) (bs:=l++[b]) (j:=l.length) (k:=0) (x:=b) (by simp) rfl (fun i y hi hy=>by
   rw[apA hi]at hy;exact hn y (aps hy))
  rw[this];simp
 unfold jy;generalize o6 (place b.pc bs 0) bs 0=r at *
 split
 ·rename_i hgt;rw[apo,apW]at hgt;cases r with
  |nil=>
   have e0:room=0:=by simp at hgt;omega
   refine⟨⟨by simp;omega,List.Pairwise.nil⟩,fun h=>absurd h (by omega),fun _=>rfl⟩
  |cons x r'=>
   have e:(x::r'++[b]).drop 1=r'++[b]:=rfl;rw[e];refine⟨⟨?_,(arj.1 S).2⟩,fun _=>fin r' (fun y hy=>hg y (by simp[hy])),fun e0=>?_⟩
   ·rw[apo,apW];simp at hlen hgt;omega
   ·simp at hlen;omega
 ·rename_i hle;refine⟨⟨by omega,S⟩,fun _=>fin r hg,fun e0=>?_⟩;rw[apo,apW]at hle;omega
end Kc
namespace En
variable [Inhabited Go.Proofs.YtiadhbmnfjfioaaGreatDoor.Hc.bN]
open Go.RowKit Mm Wd Mi Bk Ts Kc
open Mc hiding Fit
open Hh hiding Rn

variable {room pu sl :Int} {L :List Bv} {b :Bv} {l :List UInt8} {puts :Nat}
structure Ek (room:Int) (l:List UInt8) (L:List Bv) (pu sl:Int) (puts:Nat):Prop where
 cok:Cok room L
 fresh:∀b∈L,dS l b
 cnt:pu+sl+(L.length:Int)=puts
 p0:0<=pu
 s0:0<=sl
theorem Ek.nil (h:0<=room)(l:List UInt8):Ek room l [] 0 0 0:=⟨⟨by simpa using h,List.Pairwise.nil⟩,fun b hb=>(by cases hb),rfl,by omega,by omega⟩
theorem yB {x:Int}(h0:0<=x)(h1:x<=1000000000):wrap64 x=x:=by unfold wrap64;omega
theorem uo (hp:place b.pc L 0 = -1):jy room L b=(if room<((L++[b]).length:Int)then(L++[b]).drop 1 else L++[b])/\rX room pu L b=(if room<((L++[b]).length:Int)then wrap64 (pu+1)else pu):=by unfold jy rX;rw[hp,pU (by omega)];exact⟨rfl,rfl⟩
theorem put_mem {x:Bv}(hp:place b.pc L 0 = -1)(hx:x∈jy room L b):x∈L\/x=b:=by
 rw[(uo (pu:=0) hp).1]at hx;have:x∈L++[b]:=by
  split at hx
  ·exact aqR hx
  ·exact hx
 simpa using this
theorem Ek.put (E:Ek room l L pu sl puts)(h0:0<=room)(hb:puts<=1000000)(F:dS l b)(hp:place b.pc L 0 = -1):Ek room l (jy room L b) (rX room pu L b) sl (puts+1):=by
 obtain⟨e1,e2⟩:=uo (room:=room) (pu:=pu) hp;have c:=E.cnt;have p0:=E.p0;have s0:=E.s0;refine⟨(E.cok.put h0 b).1,fun x hx=>?_,?_,?_,s0⟩
 ·rcases put_mem hp hx with h|rfl
  ·exact E.fresh x h
  ·exact F
 ·rw[e1,e2];split
  ·rw[yB (by omega) (by omega),aqh,apo,apW];omega
  ·rw[apo,apW];omega
 ·rw[e2];split
  ·rw[yB (by omega) (by omega)];omega
  ·exact p0
def cK (ss:List (Int×Int)) (L:List Bv):List Bv:=ss.foldl (fun L p=>bJ p.1 (Wd.lo (p.1+p.2)) L) L
theorem DJ (ss:List (Int×Int))(p:Int×Int)(L:List Bv):cK (ss++[p]) L=bJ p.1 (Wd.lo (p.1+p.2)) (cK ss L):=by unfold cK;rw[aqy];rfl
theorem mY:∀(ss:List (Int×Int)) (L:List Bv),(cK ss L).Sublist L
 | [],L=>List.Sublist.refl _
 |p::r,L=>(mY r _).trans List.filter_sublist
theorem AZ:∀(ss:List (Int×Int)) (L:List Bv),∀b∈cK ss L,∀p∈ss,hasB b p.1 (Wd.lo (p.1+p.2))=false
 | [],L,b,hb,p,hp=>by cases hp
 |q::r,L,b,hb,p,hp=>by
  rcases apx.1 hp with rfl|hp
  ·exact Tv b ((mY r _).subset hb)
  ·exact AZ r _ b hb p hp
theorem wS (ss:List (Int×Int))(p:Int×Int)(L:List Bv):(bJ p.1 (Wd.lo (p.1+p.2)) (cK ss L)).length<=(cK ss L).length:=List.length_filter_le _ _
theorem Ek.work {s:Sh}{k c n:Nat}{sl':Int}(E:Ek room s.m L pu sl puts)(hn:n<=4096)(w:AR (w0 s k) n)(hs:0<=sl')(hc:sl'+((cK (wk (w0 s k) c).av L).length:Int)=sl+(L.length:Int)):Ek room (wk (w0 s k) c).m (cK (wk (w0 s k) c).av L) pu sl' puts:=by
 have sub:=mY (wk (w0 s k) c).av L;have c0:=E.cnt;refine⟨⟨?_,E.cok.Y4.sub sub⟩,fun b hb=>?_,by omega,E.p0,hs⟩
 ·have:=sub.length_le;have:=E.cok.len;omega
 ·exact DI hn w (E.fresh b (sub.subset hb)) (AZ _ L b hb)
theorem Ek.same (E:Ek room l L pu sl puts)(hr:room<=64):L.length<=64:=by have:=E.cok.len;omega
theorem WV {i:Nat}(h:L[i]?=some b):0<=place b.pc L 0:=by
 rcases fU b.pc L 0 with h2|⟨j,x,h2,_⟩
 ·exfalso;have:∀(l:List Bv) (k i:Nat),l[i]?=some b->0<=place b.pc l k:=by
   intro l;induction l with
   |nil=>intro k i h;simp at h
   |cons c r ih=>
    intro k i h;unfold place;split
    ·omega
    ·rename_i hc;cases i with
     |zero=>simp at h;subst h;exact absurd rfl hc
     |succ i=>exact ih (k+1) i (by simpa using h)
  have:=this L 0 i h;omega
 ·omega
theorem Ek.found (E:Ek room l L pu sl puts){pc:Int}(h:0<=place pc L 0):wH pc L∈L/\(wH pc L).pc=pc/\dS l (wH pc L):=by
 rcases fU pc L 0 with h2|⟨j,x,h2,hx⟩
 ·omega
 ·obtain⟨b,hb,hpc⟩:=rG (k:=0) h2;have e:wH pc L=b:=by
   unfold wH;rw[at7 h,h2,show(((0+j:Nat):Int)).toNat=j by omega,List.getD,hb];rfl
  have hm:=aps hb;rw[e];exact⟨hm,hpc,E.fresh b hm⟩
structure Kept (room:Int) (l:List UInt8) (D:Prop) (L:List Bv) (pu sl:Int):Prop where
 cok:Cok room L
 fresh:∀b∈L,dS l b
 some:room=64->D->L≠[]\/¬pu=0\/¬sl=0
def Tx (m:List UInt8) (hs:List Hv) (ps:List (Int×Int)):Prop:=∃(p:Int×Int) (h:Hv),ps[0]?=some p/\0<p.2/\hs[p.1.toNat]?=some h/\h.state=0/\0<(blk m h.pc 16 0).length
end En
namespace Mc
open Go.ChangeShapes Go.WideShapes Go.ChangeAt Go.RowKit Mm Hh

variable {w w' :World} {ao :Option Addr} {n :Nat} {α :Type}
structure Hs (w:World) (ao:Option Addr) (n:Nat) (hs:List Hv):Prop where
 len:hs.length=n
 ok:∀h∈hs,h.Ok
 spot:0<n->∃b o,ao=some ⟨b,o,none⟩/\b<w.heap.size/\∀i h,hs[i]?=some h->w.rangeAt b (o+i*37) (hL h)
structure Ps (w:World) (ao:Option Addr) (n:Nat) (ps:List (Int×Int)):Prop where
 len:ps.length=n
 spot:0<n->∃b o,ao=some ⟨b,o,none⟩/\b<w.heap.size/\∀i p,ps[i]?=some p->w.cell? ⟨b,o+i*2,none⟩=some (.int .i64 p.1)/\w.cell? ⟨b,o+i*2+1,none⟩=some (.int .i64 p.2)
theorem Hs.of {hs:List Hv}(h:Hs w ao n hs)(g:Gr w w'):Hs w' ao n hs:=
 ⟨h.len,h.ok,fun hn=>by
  obtain⟨b,o,e,hb,hc⟩:=h.spot hn;exact⟨b,o,e,apq hb g.size,fun i q hq j v hv=>(g.cell _ (by exact hb)).trans (hc i q hq j v hv)⟩⟩
theorem Ps.of {ps:List (Int×Int)}(h:Ps w ao n ps)(g:Gr w w'):Ps w' ao n ps:=
 ⟨h.len,fun hn=>by
  obtain⟨b,o,e,hb,hc⟩:=h.spot hn;exact⟨b,o,e,apq hb g.size,fun i q hq=>⟨(g.cell _ (by exact hb)).trans (hc i q hq).1,(g.cell _ (by exact hb)).trans (hc i q hq).2⟩⟩⟩
def jk (c:Nat) (p:Int×Int):Bool:=decide (0<=p.1/\p.1<c/\0<=p.2/\p.2<=400)
def wrong (m:List UInt8) (hs:List Hv) (ps:List (Int×Int)):Int:=if 4096<m.length\/hs.length<1\/4<hs.length then 2 else if hs.all may=false then 2 else if 300<ps.length then 1 else if ps.all (jk hs.length)=false then 3 else 0
theorem pV (f:α->Bool)(l:List α)(k:Nat)(x:α)(h:l[k]?=some x):(l.take (k+1)).all f=((l.take k).all f && f x):=by rw[apU,h];simp
theorem all_false {f:α->Bool}{l:List α}{k:Nat}{x:α}(h:l[k]?=some x)(hx:f x=false):l.all f=false:=by rw[List.all_eq_false];exact⟨x,aps h,by simp[hx]⟩
end Mc
namespace Mc
open Go.ChangeShapes Go.WideShapes Go.ChangeAt Go.RowKit Mm Hh

variable {w :World} {g i j n :Nat} {hs :List Hv} {h h' :Hv}
def hC (hs:List Hv):List Value:=hs.flatMap hL
theorem oG:∀{hs:List Hv},(∀h∈hs,h.Ok)→(hC hs).length=hs.length*37
 | [],_=>rfl
 |h::r,o=>by
  have ih:=oG (hs:=r) (fun q hq=>o q (by simp[hq]));unfold hC at ih ⊢;simp only[apL,apo,apH,aD (o h (by simp)),ih];omega
theorem DK:∀{hs:List Hv},(∀h∈hs,h.Ok)→∀{i j:Nat} {h:Hv},hs[i]?=some h→j<37→(hC hs)[i*37+j]?=(hL h)[j]?
 | [],_,i,j,h,hi,_=>by simp at hi
 |q::r,o,0,j,h,hi,hj=>by
  simp at hi;subst hi;unfold hC;rw[apL,aqI,apu,apA (by rw[aD (o q (by simp))];exact hj)]
 |q::r,o,i+1,j,h,hi,hj=>by
  have ih:=DK (hs:=r) (fun q hq=>o q (by simp[hq])) (i:=i) (j:=j) (h:=h) (by simpa using hi) hj;have lq:=aD (o q (by simp));unfold hC at ih ⊢;rw[apL,apv (by omega),lq,<-ih];congr 1;omega
theorem MX:∀{hs:List Hv},(∀h∈hs,h.Ok)→∀{i j:Nat} {h h':Hv} {v:Value},hs[i]?=some h→j<37→(hL h).set j v=hL h'→(hC hs).set (i*37+j) v=hC (hs.set i h')
 | [],_,i,j,h,h',v,hi,_,_=>by simp at hi
 |q::r,o,0,j,h,h',v,hi,hj,e=>by
  simp at hi;subst hi;unfold hC;rw[apL,aqI,apu,aqn _ _ (by rw[aD (o q (by simp))];exact hj),e];rfl
 |q::r,o,i+1,j,h,h',v,hi,hj,e=>by
  have ih:=MX (hs:=r) (fun q hq=>o q (by simp[hq])) (i:=i) (j:=j) (h:=h) (h':=h') (v:=v) (by simpa using hi) hj e;have lq:=aD (o q (by simp));unfold hC at ih ⊢;rw[apL,apJ _ _ (by omega),lq,show(i+1)*37+j-37=i*37+j by omega,ih];rfl
structure bP (w:World) (g:Nat) (hs:List Hv):Prop where
 ok:∀h∈hs,h.Ok
 row:∃rest:List Value,w.heap[g]?=some (.cells (hC hs++rest).toArray 43 (0,0))
theorem bP.cell (r:bP w g hs)(hi:hs[i]?=some h)(hj:j<37):w.cell? ⟨g,i*37+j,none⟩=(hL h)[j]?:=by obtain⟨rest,e⟩:=r.row;have li:=(apj.1 hi).1;rw[cr e,apm,apA (by rw[oG r.ok];omega),DK r.ok hi hj]
theorem bP.range (r:bP w g hs)(hi:hs[i]?=some h):w.rangeAt g (i*37) (hL h):=fun j v hv=>by
 have hj:j<37:=by have:=(apj.1 hv).1;rwa[aD (r.ok h (aps hi))]at this
 rw[r.cell hi hj];exact hv
theorem bP.fz (r:bP w g hs)(j:Nat):w.frozen? ⟨g,j,none⟩=false:=by obtain⟨rest,e⟩:=r.row;exact aus _ _ j _ _ e
theorem bP.there (r:bP w g hs)(hi:hs[i]?=some h):w.there g (i*37) 37:=fun j hj=>by refine⟨?_,r.fz _⟩;rw[r.cell hi hj,api (by rw[aD (r.ok h (aps hi))];exact hj)];rfl
theorem MZ (o:∀h∈hs,h.Ok)(i:Nat)(o':h'.Ok):∀h∈hs.set i h',h.Ok:=fun h hm=>by
 rcases List.mem_or_eq_of_mem_set hm with h1|rfl
 ·exact o h h1
 ·exact o'
theorem bP.set (r:bP w g hs){v:Value}(hi:hs[i]?=some h)(hj:j<37)(e:(hL h).set j v=hL h')(o':h'.Ok):bP (w.setCell ⟨g,i*37+j,none⟩ v) g (hs.set i h'):=by obtain⟨rest,q⟩:=r.row;have li:=(apj.1 hi).1;refine⟨MZ r.ok i o',rest,?_⟩;rw[hss q];simp only[apl];rw[aqn _ _ (by rw[oG r.ok];omega),MX r.ok hi hj e]
theorem nM {t:Nat}(g:Nat):∀(vs:List Value) (o:Nat) (w:World) (cs:List Value),w.heap[g]?=some (.cells cs.toArray t (0,0))→o+vs.length≤cs.length→(w.setCells g o vs).heap[g]?=some (.cells (cs.take o++vs++cs.drop (o+vs.length)).toArray t (0,0))
 | [],o,w,cs,h,_=>by simp[World.setCells,h]
 |v::r,o,w,cs,h,hl=>by
  rw[World.setCells];have h1:=aul w g o _ _ v h;simp only[apl]at h1;simp only[apH]at hl;rw[nM g r (o+1) _ (cs.set o v) h1 (by simp;omega)];have e1:(cs.set o v).take (o+1)=cs.take o++[v]:=by
   rw[apU,List.take_set,List.set_eq_of_length_le (by simp;omega)];simp[show o<cs.length by omega]
  have e2:(cs.set o v).drop (o+1+r.length)=cs.drop (o+(r.length+1)):=by
   rw[List.drop_set_of_lt (by omega)];congr 1;omega
  rw[e1,e2];simp only[apH,aqa,apZ,apO]
theorem M3:∀{hs:List Hv},(∀h∈hs,h.Ok)→∀{i:Nat} {h':Hv},i<hs.length→h'.Ok→(hC hs).take (i*37)++hL h'++(hC hs).drop (i*37+37)=hC (hs.set i h')
 | [],_,i,h',hi,_=>by simp at hi
 |q::r,o,0,h',hi,o'=>by
  have lq:=aD (o q (by simp));unfold hC;rw[apL,aqI,aqF,apO,apu,List.drop_append,lq,List.drop_eq_nil_of_le (by omega)];simp[apC]
 |q::r,o,i+1,h',hi,o'=>by
  have ih:=M3 (hs:=r) (fun q hq=>o q (by simp[hq])) (i:=i) (h':=h') (by simpa using hi) o';have lq:=aD (o q (by simp));unfold hC at ih ⊢;rw[apL,List.take_append,List.drop_append,lq,ap0 (by omega),List.drop_eq_nil_of_le (by omega),apO,show(i+1)*37-37=i*37 by omega,show(i+1)*37+37-37=i*37+37 by omega,apy,apL,<-ih];simp only[aqa]
theorem bP.put (r:bP w g hs)(hi:i<hs.length)(o':h'.Ok):bP (w.setCells g (i*37) (hL h')) g (hs.set i h'):=by obtain⟨rest,q⟩:=r.row;have lc:=oG r.ok;have l':=aD o';refine⟨MZ r.ok i o',rest,?_⟩;rw[nM g (hL h') (i*37) w _ q (by rw[apo,lc,l'];omega),l',aqB (by rw[lc];omega),aqO (by rw[lc];omega),<-M3 r.ok hi o'];simp only[aqa]
theorem bP.own {base cap:Nat}(o:∀h∈hs,h.Ok)(h:w.ownsRow base 43 37 (.slice (some ⟨g,0,none⟩) n cap) n (hC hs)):bP w g hs:=by
 obtain⟨_,hc⟩:=h;rcases hc with⟨h0,_⟩|⟨g',cap',cur,hv,hb,hg,hn,hm,hs',htake⟩
 ·cases h0
 ·simp only[avg,auj,Addr.mk.injEq,au7,and_true]at hv;obtain⟨rfl,rfl⟩:=hv;refine⟨o,cur.toList.drop (n*37),?_⟩;rw[<-htake,aqd];exact hg
theorem DL (hs:List Hv):∀u∈hC hs,u.oneCell'=true:=by intro u hu;obtain⟨h,_,hm⟩:=arp.1 hu;have:=aq3.1 (qC h) u (by simpa[hA]using hm);exact this
theorem Hs.src {ad:Addr}(h:Hs w (some ad) n hs):∀j u,(hC hs)[j]?=some u->w.cell? (ad.add j)=some u:=by
 intro j u hj;have hl:=oG h.ok;have hjl:j<hs.length*37:=by rw[<-hl];exact(apj.1 hj).1
 have hlen:=h.len;obtain⟨b,o,e,_,hc⟩:=h.spot (by omega);obtain rfl:=aum e;have hi:j/37<hs.length:=by omega
 have e1:=api hi;have g:=DK h.ok (j:=j%37) e1 (by omega);rw[show j/37*37+j%37=j by omega,hj]at g;have:=hc _ _ e1 (j%37) u g.symm;rw[cz];rwa[show o+j/37*37+j%37=o+j by omega]at this
end Mc
namespace Mc
open Go.ChangeShapes Go.WideShapes Go.ChangeAt Go.RowKit Mm Hh

theorem iH:(prog.info? 43).map (·.size)=some 37:=by kernel_rfl
end Mc
namespace Hc
variable [Inhabited Go.Proofs.YtiadhbmnfjfioaaGreatDoor.Hc.bN]
open Go.ChangeShapes Go.WideShapes Go.ChangeAt Go.RowKit Mm Hh

variable {P :Program} {t :TypeId} {h :Hv} {ops :Array Oper} {o :Oper} {a :Act} {w :World} {K :Act -> World -> Prop} {Q :Exit -> Act -> World -> Prop} {E :Prop}
theorem iA (off:Nat)(v cs:Array Value):(v.zipIdx.foldl (fun cs (x:Value×Nat)=>cs.setIfInBounds (off+x.2) x.1) cs).size=cs.size/\ ∀k,(v.zipIdx.foldl (fun cs (x:Value×Nat)=>cs.setIfInBounds (off+x.2) x.1) cs)[k]?=if off<=k/\k<off+v.size/\k<cs.size then v[k-off]? else cs[k]?:=by have h:=Great.foldl_set off v.toList 0 cs;rw[<-Array.foldl_toList,Array.toList_zipIdx];refine⟨h.1,fun k=>?_⟩;rw[h.2 k];simp
theorem Jd {it:TypeInfo}{z:Value}{fs:Array Field}{ps:List (Nat×Nat)}(hi:P.info? t=some it)(hu:P.underlying t=some (.struct fs))(hz:it.zero=some z)(hp:fs.toList.mapM (fun f=>(P.info? f.type).map fun i=>(f.offset,i.size))=some ps){n:Nat}(p0:ps.toArray[0]?=some (0,n))(p1:ps.toArray[1]?=some (n,1))(A:Array Value)(hA:A.size=n)(v:Value)(hv:v.cells=#[v])(hs:n+1<=z.cells.size)(R:Array Value)(hR:R.size=z.cells.size)(h1:∀k,k<n->R[k]?=A[k]?)(h2:R[n]?=some v)(h3:∀k,n<k->R[k]?=z.cells[k]?):P.built t [(0,.agg A),(1,v)]=some R:=by
 unfold Program.built;simp only[hi,hu,hz,hp];have a1:=iA 0 A z.cells;have a2:=iA n #[v] (A.zipIdx.foldl (fun cs (x:Value×Nat)=>cs.setIfInBounds (0+x.2) x.1) z.cells);unfold Instr.fill;simp only[p0];have e:(Value.agg A).cells=A:=rfl;rw[e,at6 (by simp[hA];omega)];unfold Instr.fill;simp only[p1];rw[hv,at6 (by rw[a1.1];simp;omega)];unfold Instr.fill;congr 1;apply aqC;intro k;rw[a2.2 k,a1.2 k,a1.1];by_cases hk:k<n
 ·rw[ak,dU,h1 k hk];simp
 ·by_cases hk2:k=n
  ·subst hk2;rw[at7 (by simp;omega),h2];simp
  ·rw[at6 (by simp;omega),ak,h3 k (by omega)]
theorem ko {v:Value}(h:(P.info? t).bind (·.zero)=some v):∃it,P.info? t=some it/\it.zero=some v:=by
 cases hi:P.info? t with
 |none=>simp[hi]at h
 |some it=>exact⟨it,rfl,by simpa[hi]using h⟩
def h0:Hv:=⟨List.replicate 32 0,0,false,0,0,0⟩
theorem iO:h0.Ok:=⟨rfl,fun i=>by unfold rg h0;simp only[List.getD,aqK];split<;>simp,by decide,by decide,by decide,by decide⟩
def ax:Value:=.slice none 0 0
theorem yC (c:Cv)(h1:c.m.oneCell'=true)(h2:c.out.oneCell'=true)(h3:c.av.oneCell'=true):(cA c).all (·.oneCell')=true:=by refine auE ?_;intro v hv;simp only[hL,apR,apK,apx,apB,auw]at hv;rcases hv with(⟨n,_,rfl⟩|rfl|rfl|rfl|rfl|rfl)|rfl|rfl|rfl<;>first|rfl|assumption
theorem ac8:(prog.info? 197).bind (·.zero)=some (.agg (cA ⟨h0,ax,ax,ax⟩)):=by kernel_rfl
theorem uq (o:h.Ok)(v:Value)(hv:v.cells=#[v]):prog.built 197 [(0,.agg (hA h)),(1,v)]=some (cA ⟨h,v,ax,ax⟩):=by
 obtain⟨it,hi,hz⟩:=ko ac8;have hl:=aD o;have z:=aD iO;refine Jd (n:=37) hi underlying197 hz (ps:=[(0,37),(37,1),(38,1),(39,1)]) (by kernel_rfl) rfl rfl (hA h) (jC o) v hv (by show 38<=(cA _).size;rw[jD iO];omega) _ ?_ ?_ ?_ ?_
 ·show(cA _).size=(cA _).size;rw[jD (c:=⟨h,v,ax,ax⟩) o,jD iO]
 ·intro k hk;rw[Lr (c:=⟨h,v,ax,ax⟩) o hk];simp[hA]
 ·exact qE (c:=⟨h,v,ax,ax⟩) o 0
 ·intro k hk;obtain⟨j,rfl⟩:∃j,k=37+(j+1):=⟨k-38,by omega⟩;show(cA _)[_]?=(cA _)[_]?
  rw[qE (c:=⟨h,v,ax,ax⟩) o,qE (c:=⟨h0,ax,ax,ax⟩) iO];rfl
theorem wT (hg:o.guard=none)(ty:TypeId)(x:Operand)(ho:o.op=.load ty x)(b:Nat)(hx:a.eval x=.pointer (some ⟨b,0,none⟩))(cs:List Value)(d:TypeDesc)(hc:w.rangeAt b 0 cs)(hu:P.underlying ty=some d)(hd:d.isRow=true)(hi:(P.info? ty).map (·.size)=some cs.length)(h:K (a.put o.dst (.agg cs.toArray)) w):if Region.wanted o (yielded ops a.tmps)=true then Oper.wp P o a w K Q else E:=by rw[at7 (by simp[Region.wanted,hg])];exact wp_load_mid ty x ho b 0 hx cs d hc hu hd hi h
theorem uu (hg:o.guard=none)(t:TypeId)(parts:Array (Nat×Operand))(ho:o.op=.build t parts)(cells:Array Value)(hf:P.built t (parts.map fun(i,x)=>(i,a.eval x)).toList=some cells)(h:K (a.put o.dst (.agg cells)) w):if Region.wanted o (yielded ops a.tmps)=true then Oper.wp P o a w K Q else E:=by rw[at7 (by simp[Region.wanted,hg])];unfold Oper.wp execOp;simp only[ho,au3,run_build w t _ _ hf,auM];exact h
theorem gP (hg:o.guard=none)(ty:TypeId)(x y:Operand)(ho:o.op=.store ty x y)(g:Nat)(cells:Array Value)(hx:a.eval x=.pointer (some ⟨g,0,none⟩))(hy:a.eval y=.agg cells)(t:TypeId)(old:Array Value)(hb:w.heap[g]?=some (.cells old t (0,0)))(hi:(P.info? ty).map (·.size)=some cells.size)(hold:old.size=cells.size)(h1:cells.all (·.oneCell')=true)(h:K (a.put o.dst undef) (w.setRow g cells)):if Region.wanted o (yielded ops a.tmps)=true then Oper.wp P o a w K Q else E:=by rw[at7 (by simp[Region.wanted,hg])];unfold Oper.wp execOp;simp only[ho,hx,hy,Instr.storeAt,Instr.sureAddr,au3,avd,auM,run_storeVar_row w g t ty old cells hb hi hold h1];exact h
end Hc
namespace Hc
variable [Inhabited Go.Proofs.YtiadhbmnfjfioaaGreatDoor.Hc.bN]
open Go.ChangeShapes Go.WideShapes Go.ChangeAt Go.RowKit Mm Hh

end Hc
end Go.Proofs.YtiadhbmnfjfioaaGreatDoor
