/- ours -/
import Derived.Test.YtiadhbmnfjfioaaGreatDoorX06
set_option linter.unusedVariables false
set_option linter.unusedSimpArgs false
set_option maxHeartbeats 8000000
set_option maxRecDepth 100000
set_option linter.unusedSectionVars false
namespace Go.Proofs.YtiadhbmnfjfioaaGreatDoor
namespace Mi
open Mm Wd Hh

variable {bf bt p steps op a x :Int} {k :Nat} {r r' :Rn} {i :Mv} {h :Hv} {l :List UInt8}
def meet (bf bt:Int) (p:Int×Int):Bool:=decide (max p.1 bf<min (lo (p.1+p.2)) bt)
def ownB (bf bt:Int) (ss:List (Int×Int)):Bool:=ss.any (meet bf bt)
theorem Ai (bf bt p:Int):∀k,hits bf bt p k=true↔∃j:Nat,j<k∧bf≤lo (p+j)∧lo (p+j)<bt
 |0=>⟨fun h=>(by cases h),fun⟨j,h,_⟩=>absurd h (by omega)⟩
 |k+1=>by
  unfold hits;rw[aqV,Ai bf bt p k,decide_eq_true_iff];constructor
  ·rintro(⟨j,h,q⟩|q)
   ·exact⟨j,by omega,q⟩
   ·exact⟨k,by omega,q⟩
  ·rintro⟨j,h,q⟩;by_cases e:j=k
   ·subst e;exact .inr q
   ·exact .inl ⟨j,by omega,q⟩
theorem wM (h0:0<=p)(h1:p+k<4294967296)(hk:k<=4):hits bf bt p k=meet bf bt (p,(k:Int)):=by
 have e:∀j:Nat,j<=k->lo (p+j)=p+j:=fun j h=>aqr (by omega) (by omega)
 rw[arx,Ai];unfold meet;rw[decide_eq_true_iff];show _↔max p bf<min (lo (p+k)) bt
 rw[e k (by omega)];constructor
 ·rintro⟨j,hj,a,b⟩;rw[e j (by omega)]at a b;rw[Int.max_def,Int.min_def];split<;>split<;>omega
 ·intro h;rw[Int.max_def,Int.min_def]at h;by_cases c:p<=bf
  ·refine⟨(bf-p).toNat,?_,?_⟩
   ·split at h<;>split at h<;>omega
   ·rw[e _ (by split at h<;>split at h<;>omega)];split at h<;>split at h<;>omega
  ·refine⟨0,?_,?_⟩
   ·split at h<;>split at h<;>omega
   ·rw[e _ (by omega)];split at h<;>split at h<;>omega
def fK (r:Rn) (i:Mv):Ev:=
 if i.op=2 then⟨r.h,r.m,[],[],some i.n⟩
 else if 211<=i.op/\i.op<=215 then bF r.h r.m (i.op-200) (lo (r.get i.a+i.n))
 else if 316<=i.op/\i.op<=318 then aH r.h r.m (i.op-300) (lo (r.get i.a+i.n)) (r.get i.b)
 else if 428<=i.op/\i.op<=445 then⟨r.h,r.m,[],[],some (eT (i.op-400) (r.get i.a) (r.get i.b))⟩
 else if 528<=i.op/\i.op<=545 then⟨r.h,r.m,[],[],some (eT (i.op-500) (r.get i.a) i.n)⟩
 else if 646<=i.op/\i.op<=656 then aK r.h r.m (i.op-600) (r.get i.a) (r.get i.b)
 else⟨r.h,r.m,[],[],none⟩
def Rn.ev (r:Rn) (e:Ev):Rn:={ r with h:=e.h,m:=e.m,out:=r.out++e.out,av:=r.av++e.av }
def Rn.iV (r:Rn) (d:Int):Option Int→Rn
 |some x=>r.put d x
 |none=>r
def fu (r:Rn) (i:Mv):Rn:=
 if i.op=1 then { r with n:=r.n+1,here:=i.n }else if i.op=5 then r.ev (bA r.h r.m)else if i.op=6 then { r with h:=r.h.trap 6 }
 else(r.ev (fK r i)).iV i.d (fK r i).res
def FI (r:Rn) (i:Mv):Int:=if i.op=4 then lo (r.get i.a+i.n)-lo (r.get i.a+i.n)%2 else i.n
def vo (bf bt steps:Int) (r:Rn) (i:Mv):Bool:=if i.op=1 then decide ((r.n:Int)=steps) ||ownB bf bt r.av else if i.op=3 then true else if i.op=4 then true else holds (i.op-100) (r.get i.a) (r.get i.b)
def QU (bf bt steps:Int) (r:Rn) (i:Mv):Rn:=if vo bf bt steps r i=true then r.stop (FI r i)else if(fu r i).h.state=0 then fu r i else(fu r i).stop (fu r i).here
theorem eZ (r:Rn)(k x:Int):(r.put k x).h.state=r.h.state:=by
 unfold Rn.put;split
 ·rfl
 ·unfold Hv.set;split<;>rfl
theorem jJ (r:Rn)(o:Option Int):r.ev ⟨r.h,r.m,[],[],o⟩=r:=by simp[Rn.ev]
theorem tY (h:vo bf bt steps r i=true):QU bf bt steps r i=r.stop (FI r i):=at7 h
theorem gK (h:vo bf bt steps r i=false)(q:(fu r i).h.state=0):QU bf bt steps r i=fu r i:=by unfold QU;rw[at6 (by simp[h]),at7 q]
theorem iW (h:vo bf bt steps r i=false)(q:¬(fu r i).h.state=0):QU bf bt steps r i=(fu r i).stop (fu r i).here:=by unfold QU;rw[at6 (by simp[h]),at6 q]
theorem jF (h:0<=named op):op=1\/op=2\/op=3\/op=4\/op=5\/op=6\/(105<=op/\op<=110)\/(211<=op/\op<=215)\/(316<=op/\op<=318)\/(428<=op/\op<=445)\/(528<=op/\op<=545)\/(646<=op/\op<=656):=by
 unfold named at h;split at h
 ·omega
 split at h
 ·omega
 split at h
 ·omega
 split at h
 ·omega
 split at h
 ·omega
 split at h
 ·omega
 split at h
 ·omega
 split at h
 ·omega
 split at h
 ·omega
 split at h
 ·omega
 omega
theorem Aj {b:Int}(h:op<5\/10<op):holds op a b=false:=by unfold holds;rw[ak,ak,ak,ak,ak,ak]
theorem lG (h:i.op≠1/\i.op≠3/\i.op≠4/\(i.op<105\/110<i.op)):vo bf bt steps r i=false:=by unfold vo;rw[at6 h.1,at6 h.2.1,at6 h.2.2.1,Aj (by omega)]
theorem ow (h:i.op≠1/\i.op≠5/\i.op≠6):fu r i=(r.ev (fK r i)).iV i.d (fK r i).res:=by unfold fu;rw[at6 h.1,at6 h.2.1,at6 h.2.2]
theorem gM {c k:Int}(h:100<=c)(hk:0<=k/\k<100)(h2:i.op=c+k)(h3:c%100=0):ja bf bt steps r i=vH bf bt r c k i:=by unfold ja;rw[ak,ak,ak,ak,ak,ak,show i.op-i.op%100=c by omega,show i.op%100=k by omega]
theorem fI (h:r=r'):{ r with own:=r'.own }=r':=by subst h;rfl
theorem LQ (d x:Int){o:Bool}(h:{ r with own:=r'.own }=r'):{ r.put d x with own:=(r'.put d x).own }=r'.put d x:=by have e:=h.symm;rw[e];unfold Rn.put;split<;>rfl
theorem FJ (hi:0<=named i.op)(hs:r.h.state=0)(hw:r.own=ownB bf bt r.av):{ QU bf bt steps r i with own:=(ja bf bt steps r i).own }=ja bf bt steps r i:=by
 rcases jF hi with h|h|h|h|h|h|h|h|h|h|h|h
 ·have e:ja bf bt steps r i=Iy steps r i.n:=by unfold ja;rw[at7 h]
  have e1:vo bf bt steps r i=(decide ((r.n:Int)=steps) ||r.own):=by unfold vo;rw[at7 h,hw]
  have e2:FI r i=i.n:=by unfold FI;rw[ak]
  have e3:fu r i={ r with n:=r.n+1,here:=i.n }:=by unfold fu;rw[at7 h]
  rw[e];refine fI ?_;unfold Iy;split
  ·rename_i q;rw[tY (by rw[e1];simpa using q),e2]
  ·rename_i q;have q1:vo bf bt steps r i=false:=by
    rw[e1];simp only[not_or,Bool.not_eq_true]at q;simp[q.1,q.2]
   rw[gK q1 (by rw[e3];exact hs),e3]
 ·have e:ja bf bt steps r i=r.put i.d i.n:=by unfold ja;rw[ak,at7 h]
  have e0:fK r i=⟨r.h,r.m,[],[],some i.n⟩:=by unfold fK;rw[at7 h]
  have e3:fu r i=r.put i.d i.n:=by rw[ow (by omega),e0,jJ];rfl
  rw[e];refine fI ?_;rw[gK (lG (by omega)) (by rw[e3,eZ];exact hs),e3]
 ·have e:ja bf bt steps r i=r.stop i.n:=by unfold ja;rw[ak,ak,at7 h]
  rw[e];refine fI ?_;rw[tY (by unfold vo;rw[ak,at7 h])];unfold FI;rw[ak]
 ·have e:ja bf bt steps r i=r.stop (lo (r.get i.a+i.n)-lo (r.get i.a+i.n)%2):=by unfold ja;rw[ak,ak,ak,at7 h]
  rw[e];refine fI ?_;rw[tY (by unfold vo;rw[ak,ak,at7 h])];unfold FI;rw[at7 h]
 ·have e:ja bf bt steps r i=tX r:=by unfold ja;rw[ak,ak,ak,ak,at7 h]
  have e3:fu r i=r.ev (bA r.h r.m):=by unfold fu;rw[ak,at7 h]
  have e1:vo bf bt steps r i=false:=lG (by omega);rw[e];refine fI ?_;unfold tX;unfold bA at e3;split
  ·rename_i q;rw[at7 q]at e3;rw[iW e1 (by rw[e3];simp[Rn.ev,Hv.halt]),e3];simp[Rn.ev,Rn.stop]
  split
  ·rename_i q0 q;rw[at6 q0,at7 q]at e3;rw[gK e1 (by rw[e3];exact hs),e3];simp[Rn.ev]
  ·rename_i q0 q;rw[at6 q0,at6 q]at e3;rw[iW e1 (by rw[e3];simp[Rn.ev,Hv.trap]),e3];simp[Rn.ev,Rn.stop,Rn.trap]
 ·have e:ja bf bt steps r i=r.trap 6:=by unfold ja;rw[ak,ak,ak,ak,ak,at7 h]
  have e3:fu r i={ r with h:=r.h.trap 6 }:=by unfold fu;rw[ak,ak,at7 h]
  rw[e];refine fI ?_;rw[iW (lG (by omega)) (by rw[e3];simp[Hv.trap]),e3];rfl
 ·rw[gM (c:=100) (k:=i.op-100) (by omega) (by omega) (by omega) (by omega)];have e1:vo bf bt steps r i=holds (i.op-100) (r.get i.a) (r.get i.b):=by unfold vo;rw[ak,ak,ak]
  have e2:FI r i=i.n:=by unfold FI;rw[ak]
  have e0:fK r i=⟨r.h,r.m,[],[],none⟩:=by unfold fK;rw[ak,ak,ak,ak,ak,ak]
  have e3:fu r i=r:=by rw[ow (by omega),e0,jJ];rfl
  refine fI ?_;unfold vH;rw[at7 rfl];split
  ·rename_i q;rw[tY (by rw[e1];exact q),e2]
  ·rename_i q;rw[gK (by rw[e1];simpa using q) (by rw[e3];exact hs),e3]
 ·rw[gM (c:=200) (k:=i.op-200) (by omega) (by omega) (by omega) (by omega)];have e1:vo bf bt steps r i=false:=lG (by omega);have e0:fK r i=bF r.h r.m (i.op-200) (lo (r.get i.a+i.n)):=by unfold fK;rw[ak,at7 h]
  have e3:fu r i=(r.ev (fK r i)).iV i.d (fK r i).res:=ow (by omega);refine fI ?_;unfold vH;rw[ak,at7 rfl];unfold Af;unfold bF at e0;split
  ·rename_i q;rw[at7 q]at e0;rw[e0,jJ]at e3;rw[gK e1 (by rw[e3];exact(eZ _ _ _).trans hs),e3];rfl
  ·rename_i q;rw[at6 q]at e0;rw[e0]at e3;rw[iW e1 (by rw[e3];simp[Rn.ev,Rn.iV,Hv.trap]),e3];simp[Rn.ev,Rn.stop,Rn.trap,Rn.iV]
 ·rw[gM (c:=300) (k:=i.op-300) (by omega) (by omega) (by omega) (by omega)];have e1:vo bf bt steps r i=false:=lG (by omega);have e0:fK r i=aH r.h r.m (i.op-300) (lo (r.get i.a+i.n)) (r.get i.b):=by unfold fK;rw[ak,ak,at7 h]
  have e3:fu r i=(r.ev (fK r i)).iV i.d (fK r i).res:=ow (by omega);unfold vH;rw[ak,ak,at7 rfl];unfold tV;unfold aH at e0;split
  ·rename_i q;rw[at7 q]at e0;rw[e0]at e3;rw[gK e1 (by rw[e3];exact hs),e3];simp[Rn.ev,Rn.iV,Rn.stored]
  ·rename_i q;refine fI ?_;rw[at6 q]at e0;rw[e0]at e3;rw[iW e1 (by rw[e3];simp[Rn.ev,Rn.iV,Hv.trap]),e3];simp[Rn.ev,Rn.stop,Rn.trap,Rn.iV]
 ·rw[gM (c:=400) (k:=i.op-400) (by omega) (by omega) (by omega) (by omega)];have e0:fK r i=⟨r.h,r.m,[],[],some (eT (i.op-400) (r.get i.a) (r.get i.b))⟩:=by unfold fK;rw[ak,ak,ak,at7 h]
  have e3:fu r i=r.put i.d (eT (i.op-400) (r.get i.a) (r.get i.b)):=by rw[ow (by omega),e0,jJ];rfl
  refine fI ?_;unfold vH;rw[ak,ak,ak,at7 rfl];rw[gK (lG (by omega)) (by rw[e3,eZ];exact hs),e3]
 ·rw[gM (c:=500) (k:=i.op-500) (by omega) (by omega) (by omega) (by omega)];have e0:fK r i=⟨r.h,r.m,[],[],some (eT (i.op-500) (r.get i.a) i.n)⟩:=by unfold fK;rw[ak,ak,ak,ak,at7 h]
  have e3:fu r i=r.put i.d (eT (i.op-500) (r.get i.a) i.n):=by rw[ow (by omega),e0,jJ];rfl
  refine fI ?_;unfold vH;rw[ak,ak,ak,ak,at7 rfl];rw[gK (lG (by omega)) (by rw[e3,eZ];exact hs),e3]
 ·rw[gM (c:=600) (k:=i.op-600) (by omega) (by omega) (by omega) (by omega)];have e1:vo bf bt steps r i=false:=lG (by omega);have e0:fK r i=aK r.h r.m (i.op-600) (r.get i.a) (r.get i.b):=by unfold fK;rw[ak,ak,ak,ak,ak,at7 h]
  have e3:fu r i=(r.ev (fK r i)).iV i.d (fK r i).res:=ow (by omega);unfold vH;rw[ak,ak,ak,ak,ak,at7 rfl];unfold Ag;unfold aK at e0;by_cases q6:i.op-600=46
  ·rw[at7 q6]at e0 ⊢;refine fI ?_;unfold mLr;unfold gB at e0;split
   ·rename_i q;rw[at7 q]at e0;rw[e0]at e3;have e4:fu r i={ r with h:=r.h.hold true (r.get i.a) }.put i.d (aN r.m 13 (r.get i.a)):=by rw[e3];simp[Rn.ev,Rn.iV]
    rw[gK e1 (by rw[e4,eZ];exact hs),e4]
   ·rename_i q;rw[at6 q]at e0;rw[e0]at e3;rw[iW e1 (by rw[e3];simp[Rn.ev,Rn.iV,Hv.trap]),e3];simp[Rn.ev,Rn.stop,Rn.trap,Rn.iV]
  rw[at6 q6]at e0 ⊢;by_cases q7:i.op-600=47
  ·rw[at7 q7]at e0 ⊢;unfold mSc;unfold eU at e0;by_cases q:bM r.m 13 (r.get i.a)=true
   ·rw[at7 q]at e0 ⊢;by_cases q2:r.h.held=true/\r.h.aP=r.get i.a
    ·rw[at7 q2]at e0 ⊢;rw[e0]at e3;have e4:fu r i=({ r with h:=r.h.hold false 0,m:=il r.m 18 (r.get i.a) (r.get i.b),av:=r.av++[(r.get i.a,4)] }:Rn).put i.d 0:=by rw[e3];simp[Rn.ev,Rn.iV]
     rw[gK e1 (by rw[e4,eZ];exact hs),e4];refine LQ (o:=true) _ _ ?_;rfl
    ·rw[at6 q2]at e0 ⊢;rw[e0]at e3;have e4:fu r i={ r with h:=r.h.hold false 0 }.put i.d 1:=by rw[e3];simp[Rn.ev,Rn.iV]
     refine fI ?_;rw[gK e1 (by rw[e4,eZ];exact hs),e4]
   ·rw[at6 q]at e0 ⊢;rw[e0]at e3;refine fI ?_;rw[iW e1 (by rw[e3];simp[Rn.ev,Rn.iV,Hv.trap]),e3];simp[Rn.ev,Rn.stop,Rn.trap,Rn.iV]
  rw[at6 q7]at e0 ⊢;unfold LM;unfold iN at e0;by_cases q:bM r.m 13 (r.get i.a)=true
  ·rw[at7 q]at e0 ⊢;rw[e0]at e3;have e4:fu r i=({ r with m:=il r.m 18 (r.get i.a) (mO (i.op-600) (aN r.m 13 (r.get i.a)) (r.get i.b)),av:=r.av++[(r.get i.a,4)] }:Rn).put i.d (aN r.m 13 (r.get i.a)):=by rw[e3];simp[Rn.ev,Rn.iV]
   rw[gK e1 (by rw[e4,eZ];exact hs),e4];refine LQ (o:=true) _ _ ?_;rfl
  ·rw[at6 q]at e0 ⊢;rw[e0]at e3;refine fI ?_;rw[iW e1 (by rw[e3];simp[Rn.ev,Rn.iV,Hv.trap]),e3];simp[Rn.ev,Rn.stop,Rn.trap,Rn.iV]
structure Gd (bf bt:Int) (r:Rn):Prop where
 ok:r.Ok
 st:r.over=false->r.h.state=0
 own:r.own=ownB bf bt r.av
 len:r.m.length<=4096
theorem Gd.put (g:Gd bf bt r)(k:Int)(hx:W x):Gd bf bt (r.put k x):=by
 refine⟨g.ok.put k hx,?_,?_,?_⟩
 ·rw[eZ];have:(r.put k x).over=r.over:=by unfold Rn.put;split<;>rfl
  rw[this];exact g.st
 ·have:(r.put k x).own=r.own/\(r.put k x).av=r.av:=by unfold Rn.put;split<;>exact⟨rfl,rfl⟩
  rw[this.1,this.2];exact g.own
 ·have:(r.put k x).m=r.m:=by unfold Rn.put;split<;>rfl
  rw[this];exact g.len
theorem Gd.stop (g:Gd bf bt r)(hx:W x):Gd bf bt (r.stop x):=⟨g.ok.stop hx,fun h=>(by cases h),g.own,g.len⟩
theorem Gd.trap (g:Gd bf bt r)(c:Int):Gd bf bt (r.trap c):=⟨g.ok.trap c,fun h=>(by cases h),g.own,g.len⟩
theorem Gd.hart (g:Gd bf bt r)(o:h.Ok)(e:h.state=r.h.state):Gd bf bt { r with h:=h }:=⟨g.ok.hart o,fun q=>e.trans (g.st q),g.own,g.len⟩
theorem Gd.stored (g:Gd bf bt r)(m:List UInt8)(hm:m.length=r.m.length)(h0:0<=p)(h1:p+k<=r.m.length)(hk:k<=4):Gd bf bt ({ r with m:=m }.stored bf bt p k):=by
 have hl:=g.len;refine⟨(g.ok.mem m).stored _ _ _ _,g.st,?_,by show m.length<=4096;omega⟩;show(r.own ||hits bf bt p k)=ownB bf bt (r.av++[(p,(k:Int))])
 rw[wM h0 (by omega) hk,g.own];unfold ownB;rw[aq5];simp
theorem De {n:Nat}(h:qy l.length n a=true):a+n<=l.length:=by unfold qy at h;simp only[auk]at h;exact h.2.2
theorem Gd.vH (g:Gd bf bt r)(c op:Int)(hn:W i.n):Gd bf bt (vH bf bt r c op i):=by
 have wa:=g.ok.get i.a;have wb:=g.ok.get i.b;have wl:=W.lo (r.get i.a+i.n);unfold Mi.vH;split
 ·split
  ·exact g.stop hn
  ·exact g
 split
 ·unfold Af;split
  ·exact g.put _ (W.aN _ _ _)
  ·exact g.trap _
 split
 ·unfold tV;split
  ·rename_i h;exact g.stored _ (fH h) wl.1 (De h) (qz _)
  ·exact g.trap _
 split
 ·exact g.put _ (W.eT wa wb)
 split
 ·exact g.put _ (W.eT wa hn)
 split
 ·unfold Ag;split
  ·unfold mLr;split
   ·exact(g.hart (g.ok.h.hold true wa.1 wa.2) rfl).put _ (W.aN _ _ _)
   ·exact g.trap _
  split
  ·unfold mSc;split
   ·rename_i h;split
    ·exact((g.hart (g.ok.h.hold false (x:=0) (by omega) (by omega)) rfl).stored _ (fH (bG h)) wa.1 (De (bG h)) (qz 18)).put _ .zero
    ·exact(g.hart (g.ok.h.hold false (x:=0) (by omega) (by omega)) rfl).put _ ⟨by omega,by omega⟩
   ·exact g.trap _
  ·unfold LM;split
   ·rename_i h;exact(g.stored _ (fH (bG h)) wa.1 (De (bG h)) (qz 18)).put _ (W.aN _ _ _)
   ·exact g.trap _
 ·exact g
theorem Gd.ja (g:Gd bf bt r)(hn:W i.n)(ho:r.over=false):Gd bf bt (ja bf bt steps r i):=by
 have wl:=W.lo (r.get i.a+i.n);unfold Mi.ja;split
 ·unfold Iy;split
  ·exact g.stop hn
  ·exact⟨⟨g.ok.h,g.ok.tl,g.ok.tb,hn.1,hn.2⟩,g.st,g.own,g.len⟩
 split
 ·exact g.put _ hn
 split
 ·exact g.stop hn
 split
 ·exact g.stop ⟨by have:=wl.1;have:=wl.2;omega,by have:=wl.1;have:=wl.2;omega⟩
 split
 ·unfold tX;split
  ·exact⟨g.ok.hart (g.ok.h.halt.go g.ok.h0 g.ok.h1) |> fun o=>⟨o.h,o.tl,o.tb,o.h0,o.h1⟩,fun h=>(by cases h),g.own,g.len⟩
  split
  ·exact⟨⟨g.ok.h,g.ok.tl,g.ok.tb,g.ok.h0,g.ok.h1⟩,g.st,g.own,g.len⟩
  ·exact g.trap _
 split
 ·exact g.trap _
 ·exact g.vH _ _ hn
theorem Gd.start (o:h.Ok)(hs:h.state=0)(hl:l.length<=4096):Gd bf bt (mstart h l):=⟨⟨o,rfl,fun j=>by match j with|0|1|2|3=>exact W.zero|j+4=>exact W.zero,o.nH,o.jV⟩,fun _=>hs,rfl,hl⟩
theorem Gd.bB {bf bt steps:Int}{r:Rn}(g:Gd bf bt r){code:List Mv}(hn:∀i∈code,W i.n):∀j,Gd bf bt (bB bf bt steps r (code.take j))
 |0=>g
 |j+1=>by
  have q:=Gd.bB (steps:=steps) g hn j;cases hi:code[j]? with
  |none=>
   have e:code.take (j+1)=code.take j:=by rw[apU,hi];simp
   rw[e];exact q
  |some i=>
   cases ho:(Mi.bB bf bt steps r (code.take j)).over with
   |false=>
    rw[qG bf bt steps hi ho];exact q.ja (hn i (aps hi)) ho
   |true=>
    have e:Mi.bB bf bt steps r (code.take (j+1))=Mi.bB bf bt steps r (code.take j):=by
     rw[apU,hi,fJ,eY _ _ _ ho]
    rw[e];exact q
theorem R9 (o:r.Ok)(hn:W i.n)(h:(fK r i).res=some x):W x:=by
 have wa:=o.get i.a;have wb:=o.get i.b;unfold fK at h;split at h
 ·injection h with h;rw[<-h];exact hn
 split at h
 ·unfold bF at h;split at h
  ·injection h with h;rw[<-h];exact W.aN _ _ _
  ·cases h
 split at h
 ·unfold aH at h;split at h<;>cases h
 split at h
 ·injection h with h;rw[<-h];exact W.eT wa wb
 split at h
 ·injection h with h;rw[<-h];exact W.eT wa hn
 split at h
 ·unfold aK at h;split at h
  ·unfold gB at h;split at h
   ·injection h with h;rw[<-h];exact W.aN _ _ _
   ·cases h
  split at h
  ·unfold eU at h;split at h
   ·split at h
    ·injection h with h;rw[<-h];exact .zero
    ·injection h with h;rw[<-h];exact .one
   ·cases h
  ·unfold iN at h;split at h
   ·injection h with h;rw[<-h];exact W.aN _ _ _
   ·cases h
 ·cases h
end Mi
namespace Bk
open Mm Hh

variable {l :List UInt8} {pc :Int} {n k :Nat}
def jR (l:List UInt8) (pc:Int):Int:=if bM l 13 pc=true then(if Dc.aO (aN l 13 pc)=0 then 2 else 0)else 1
def eB (op:Int):Bool:=decide ((3<=op/\op<=10)\/op=58\/op=59)
def at4 (pc:Int) (k:Nat):Int:=Wd.lo (pc+4*k)
def blk (l:List UInt8) (pc:Int):Nat→Nat→List Int
 |0,_=>[]
 |n+1,k=>if jR l (at4 pc k)=0 then aN l 13 (at4 pc k)::(if eB (Dc.aO (aN l 13 (at4 pc k)))=true then[]else blk l pc n (k+1))else[]
theorem yn (pc:Int)(k:Nat):0<=at4 pc k/\at4 pc k<4294967296:=by unfold at4 Wd.lo;omega
theorem pg (h:¬jR l (at4 pc k)=0):blk l pc (n+1) k=[]:=by unfold blk;rw[at6 h]
theorem pq (h:jR l (at4 pc k)=0)(hl:eB (Dc.aO (aN l 13 (at4 pc k)))=true):blk l pc (n+1) k=[aN l 13 (at4 pc k)]:=by unfold blk;rw[at7 h,at7 hl]
theorem yo (h:jR l (at4 pc k)=0)(hl:eB (Dc.aO (aN l 13 (at4 pc k)))=false):blk l pc (n+1) k=aN l 13 (at4 pc k)::blk l pc n (k+1):=by rw[blk,at7 h,at6 (by simp[hl])]
theorem LU (l:List UInt8)(pc:Int)(k:Nat):blk l pc (16-16) k=[]:=rfl
theorem YB (h:bM l 13 pc=false):aN l 13 pc=0:=by unfold aN;rw[h];rfl
theorem agl:Dc.aO 0=0:=by decide
end Bk
namespace Hh
open Mm Wd

variable {h h' :Hv} {l m :List UInt8} {out :List Int} {av :List (Int × Int)} {c :Int}
structure Rn (h:Hv):Prop where
 z:rg h 0=0
 hd:h.held=false->h.aP=0
 st:h.state=0
 cs:h.cause=0
theorem Ak (m:may h=true)(s:h.state=0):Rn h:=by simp only[may,auk]at m;obtain⟨a,b,c⟩:=m;exact⟨a,b,s,by omega⟩
def Good (h:Hv) (l:List UInt8) (s:Sv):Prop:=may s.h=true/\s.m.length=l.length/\rg s.h 0=0/\s.out.length<=1/\(s.h.state≠0->{ s.h with state:=h.state,cause:=h.cause }=h/\s.m=l/\s.out=[])
theorem Sa (z:rg h 0=0)(hd:h.held=false->h.aP=0)(s:h.state=0)(c:h.cause=0):may h=true:=by simp only[may,auk];exact⟨z,hd,.inl ⟨.inl s,c⟩⟩
theorem Al (z:rg h' 0=0)(hd:h'.held=false->h'.aP=0)(s:h'.state=0)(c:h'.cause=0)(hm:m.length=l.length)(ho:out.length<=1):Good h l ⟨h',m,out,av⟩:=⟨Sa z hd s c,hm,z,ho,fun h=>absurd s h⟩
theorem qI (r:Rn h)(l:List UInt8)(c0:1<=c)(c1:c<=6):Good h l ⟨h.trap c,l,[],[]⟩:=by
 refine⟨?_,rfl,r.z,by simp,fun _=>⟨?_,rfl,rfl⟩⟩
 ·simp only[may,auk];exact⟨r.z,r.hd,.inr ⟨rfl,c0,c1⟩⟩
 ·cases h;rfl
theorem IA (r:Rn h)(l:List UInt8):Good h l ⟨h.halt,l,[],[]⟩:=by
 refine⟨?_,rfl,r.z,by simp,fun _=>⟨?_,rfl,rfl⟩⟩
 ·simp only[may,auk];exact⟨r.z,r.hd,.inl ⟨.inr rfl,r.cs⟩⟩
 ·cases h;rfl
theorem Sb (z:rg h 0=0)(r:Nat)(x:Int):rg (h.set r x) 0=0:=by
 unfold Hv.set;split
 ·exact z
 ·rw[Ll,ak];exact z
theorem LV (h:Hv)(r:Nat)(x:Int):(h.set r x).held=h.held/\(h.set r x).aP=h.aP/\(h.set r x).state=h.state/\(h.set r x).cause=h.cause:=by unfold Hv.set;split<;>exact⟨rfl,rfl,rfl,rfl⟩
theorem cZ (r:Rn h')(res:Option Int)(rd:Nat)(nx:Int)(hm:m.length=l.length)(ho:out.length<=1):Good h l (done ⟨h',m,out,av,res⟩ rd nx):=by
 unfold done Hv.put;cases res with
 |none=>
  simp only;unfold Hv.on;rw[at7 r.st];exact Al r.z r.hd r.st r.cs hm ho
 |some x=>
  obtain⟨f1,f2,f3,f4⟩:=LV h' rd x;simp only;unfold Hv.on;rw[at7 (f3.trans r.st)];exact Al (h':=(h'.set rd x).go nx) (Sb r.z rd x) (by show(h'.set rd x).held=false->(h'.set rd x).aP=0;rw[f1,f2];exact r.hd) (f3.trans r.st) (f4.trans r.cs) hm ho
theorem gN (r:Rn h)(l:List UInt8)(c0:1<=c)(c1:c<=6)(rd:Nat)(nx:Int):Good h l (done ⟨h.trap c,l,[],[],none⟩ rd nx):=by unfold done Hv.put Hv.on;simp only;rw[at6 (by show¬(2:Int)=0;omega)];exact qI r l c0 c1
theorem Sd (r:Rn h)(a:Int):Rn (h.hold true a):=⟨r.z,fun e=>(by cases e),r.st,r.cs⟩
theorem Ao (r:Rn h):Rn (h.hold false 0):=⟨r.z,fun _=>rfl,r.st,r.cs⟩
theorem LW (r:Rn h)(l:List UInt8)(op rd r1 r2 im:Int):Good h l (ins h l op rd r1 r2 im):=by
 unfold ins fT;split
 ·exact cZ r _ _ _ rfl (by simp)
 split
 ·exact cZ r _ _ _ rfl (by simp)
 split
 ·exact cZ r _ _ _ rfl (by simp)
 split
 ·unfold bF;split
  ·exact cZ r _ _ _ rfl (by simp)
  ·exact gN r l (by omega) (by omega) _ _
 split
 ·unfold aH;split
  ·exact cZ r _ _ _ (jZ (by assumption)) (by simp)
  ·exact gN r l (by omega) (by omega) _ _
 split
 ·exact cZ r _ _ _ rfl (by simp)
 split
 ·exact cZ r _ _ _ rfl (by simp)
 split
 ·unfold aK;split
  ·unfold gB;split
   ·exact cZ (Sd r _) _ _ _ rfl (by simp)
   ·exact gN r l (by omega) (by omega) _ _
  ·split
   ·unfold eU;split
    ·split
     ·exact cZ (Ao r) _ _ _ (jZ (bG (by assumption))) (by simp)
     ·exact cZ (Ao r) _ _ _ rfl (by simp)
    ·exact gN r l (by omega) (by omega) _ _
   ·unfold iN;split
    ·exact cZ r _ _ _ (jZ (bG (by assumption))) (by simp)
    ·exact gN r l (by omega) (by omega) _ _
 split
 ·unfold bA;split
  ·unfold done Hv.put Hv.on;simp only;rw[at6 (by show¬(1:Int)=0;omega)];exact IA r l
  ·split
   ·exact cZ r _ _ _ rfl (by simp)
   ·exact gN r l (by omega) (by omega) _ _
 split
 ·exact gN r l (by omega) (by omega) _ _
 ·exact cZ r _ _ _ rfl (by simp)
theorem lJ (r:Rn h)(l:List UInt8):Good h l (dV h l):=by
 unfold dV oW;split
 ·split
  ·exact qI r l (by omega) (by omega)
  ·exact LW r l _ _ _ _ _
 ·exact qI r l (by omega) (by omega)
theorem Sg {e:Ev}(o:e.Ok l)(rd:Nat){nx:Int}(w:W nx):(done e rd nx).h.Ok:=acK (Yy o.h rd o.res) w
theorem LX (o:h.Ok)(l:List UInt8):(dV h l).h.Ok:=by
 unfold dV oW ins;split
 ·split
  ·exact o.trap 2
  ·exact Sg (Da o l (W.reg o _) (W.reg o _) (W.lo _)) _ .qD
 ·exact o.trap 1
end Hh
namespace Ts
open Mm Wd Mi Bk
open Hh hiding Rn

variable {l :List UInt8} {a op bY last steps :Int} {h :Hv} {S :Sv} {cnt :Nat} {xs :Nat -> Int} {bd :Nat -> List Mv} {tail :List Mv}
theorem wN {l':List UInt8}{a:Nat}:∀n,(∀i,a≤i→i<a+n→bv l i=bv l' i)→raw l a n=raw l' a n
 |0,_=>rfl
 |n+1,h=>by
  unfold raw;rw[wN n fun i h1 h2=>h i h1 (by omega),h (a+n) (by omega) (by omega)]
theorem Si {p x:Int}(h:dX l op p=true)(hp:0<=p)(ha:0<=a)(d:p+(gG op:Int)<=a\/a+4<=p):aN (il l op p x) 13 a=aN l 13 a:=by
 have hl:=Mi.fH (x:=x) h;unfold aN;have e:bM (il l op p x) 13 a=bM l 13 a:=by unfold bM;rw[hl]
 rw[e];split
 ·rename_i q;congr 1;have hq:a+4<=l.length:=by
   unfold bM qy at q;simp only[auk]at q;exact q.2.2
  show raw _ _ 4=raw _ _ 4
  refine wN 4 fun i h1 h2=>?_
  unfold il;rw[at7 h,KX _ _ _ _ _ (by omega),ak]
 ·rfl
def YC (l:List UInt8) (S:Sv):Prop:=(S.m=l/\S.av=[])\/∃op p x,0<=p/\dX l op p=true/\S.m=il l op p x/\S.av=[(p,((gG op:Nat):Int))]
def EvM (l:List UInt8) (e:Ev):Prop:=(e.m=l/\e.av=[])\/∃op p x,0<=p/\dX l op p=true/\e.m=il l op p x/\e.av=[(p,((gG op:Nat):Int))]
theorem FM {o:List Int}{r:Option Int}:EvM l ⟨h,l,o,[],r⟩:=.inl ⟨rfl,rfl⟩
theorem YD (o:h.Ok)(l:List UInt8){b n:Int}(ha:W a):EvM l (fT h l op a b n):=by
 unfold fT;split
 ·exact FM
 split
 ·exact FM
 split
 ·exact FM
 split
 ·unfold bF;split<;>exact FM
 split
 ·unfold aH;split
  ·rename_i q;exact .inr ⟨_,_,_,(W.lo _).1,q,rfl,rfl⟩
  ·exact FM
 split
 ·exact FM
 split
 ·exact FM
 split
 ·unfold aK;split
  ·unfold gB;split<;>exact FM
  split
  ·unfold eU;split
   ·rename_i q;split
    ·exact .inr ⟨18,a,b,ha.1,bG q,rfl,rfl⟩
    ·exact FM
   ·exact FM
  ·unfold iN;split
   ·rename_i q;exact .inr ⟨18,a,_,ha.1,bG q,rfl,rfl⟩
   ·exact FM
 split
 ·unfold bA;split
  ·exact FM
  split<;>exact FM
 split<;>exact FM
theorem FO (o:h.Ok)(l:List UInt8):YC l (dV h l):=by
 unfold dV oW;split
 ·split
  ·exact .inl ⟨rfl,rfl⟩
  ·exact YD (op:=Dc.aO (aN l 13 h.pc)) o l (W.reg o _)
 ·exact .inl ⟨rfl,rfl⟩
structure QV (r s:Mi.Rn):Prop where
 h:r.h=s.h
 m:r.m=s.m
 out:r.out=s.out
 n:r.n=s.n
 av:r.av=s.av
structure Fit (bf bt a:Int) (q:Mi.Rn) (S:Sv) (q':Mi.Rn):Prop where
 ok:q'.Ok
 m:q'.m=S.m
 out:q'.out=q.out++S.out
 av:q'.av=q.av++S.av
 n:q'.n=q.n
 own:q'.own=(q.own ||S.av.any (meet bf bt))
 here:q'.over=false->q'.here=a
 go:(q'.over=true/\q'.h=S.h)\/(q'.over=false/\S.h.state=0/\S.h.pc=lo (a+4)/\q'.h=S.h.go q.h.pc)
def Df (bf bt steps a x:Int) (body:List Mv):Prop:=∀q:Mi.Rn,q.over=false->q.Ok->q.h.state=0->rg q.h 0=0->q.here=a->q.m.length<=4096->
 Fit bf bt a q (oW (q.h.go a) q.m x) (bB bf bt steps q body)/\((bB bf bt steps q body).over=true->eB (Dc.aO x)=true\/¬(oW (q.h.go a) q.m x).h.state=0)
def Dh (bf bt steps a:Int) (tail:List Mv):Prop:=∀q:Mi.Rn,q.over=false->0<q.n->lo (q.here+4)=a->QV (mend (bB bf bt steps q tail)) { q with h:=q.h.go a }
def pz (bY:Int) (bd:Nat→List Mv):Nat→Nat→List Mv
 |0,_=>[]
 |n+1,k=>⟨1,0,0,0,at4 bY k⟩::(bd k++pz bY bd n (k+1))
theorem qJ {r:Mi.Rn}(h:r.over=true):mend r=r:=by unfold mend;rw[at6 (by simp[h])]
theorem LY (bf bt steps:Int)(q:Mi.Rn)(a:Int):ja bf bt steps q ⟨1,0,0,0,a⟩=Iy steps q a:=by unfold ja;rw[at7 rfl]
theorem Au (h:Hv)(x y:Int):(h.go x).go y=h.go y:=rfl
theorem WM (h:Hv):h.go h.pc=h:=rfl
theorem LZ (hS:YC l S)(hb:bY<last)(hl:l.length<=4096):S.av.any (vI bY last)=S.av.any (meet bY last):=by
 rcases hS with⟨_,e⟩|⟨op,p,x,hp,ho,_,e⟩
 ·rw[e];rfl
 ·rw[e];simp only[List.any_cons,List.any_nil,Bool.or_false];have hz:0<gG op/\p+(gG op:Int)<=l.length:=by
   unfold dX qy at ho;simp only[auk]at ho;exact⟨ho.1,ho.2.2⟩
  have hlo:lo (p+((gG op:Nat):Int))=p+(gG op:Int):=aqr (by omega) (by omega);unfold vI meet;simp only[hlo];rw[decide_eq_decide,Int.max_def,Int.min_def];constructor
  ·intro h;(repeat' split)<;>omega
  ·intro h;(repeat' split at h)<;>omega
theorem tZ (hS:YC l S)(hl:l.length<=4096)(hno:S.av.any (vI bY last)=false)(h0:0<=a)(h1:bY<=a)(h2:a+4<=last):aN S.m 13 a=aN l 13 a:=by
 rcases hS with⟨e,_⟩|⟨op,p,x,hp,ho,e,es⟩
 ·rw[e]
 ·rw[e];refine Si ho hp h0 ?_;rw[es]at hno;simp only[List.any_cons,List.any_nil,Bool.or_false]at hno;have hz:0<gG op/\p+(gG op:Int)<=l.length:=by
   unfold dX qy at ho;simp only[auk]at ho;exact⟨ho.1,ho.2.2⟩
  have hlo:lo (p+((gG op:Nat):Int))=p+(gG op:Int):=aqr (by omega) (by omega);unfold vI at hno;simp only[hlo,decide_eq_false_iff_not]at hno;omega
structure Sj (l:List UInt8) (bY last:Int) (cnt:Nat) (xs:Nat→Int):Prop where
 pos:0<cnt
 low:0<=bY
 top:bY+4*cnt=last
 len:l.length<=4096
 fit:last<=l.length
 at_:∀j,j<=cnt->at4 bY j=bY+4*j
 ok:∀j,j<cnt->bM l 13 (at4 bY j)=true
 op:∀j,j<cnt->¬Dc.aO (xs j)=0
 fin:∀j,j<cnt->eB (Dc.aO (xs j))=true->j+1=cnt
structure Rel (bY steps:Int) (k:Nat) (q r:Mi.Rn):Prop where
 over:q.over=false
 ok:q.Ok
 may:may r.h=true
 st:r.h.state=0
 h:r.h=q.h.go (at4 bY k)
 m:r.m=q.m
 out:r.out=q.out
 n:r.n=q.n
 av:r.av=q.av
 own:q.own=false
 le:(q.n:Int)<=steps
 beg:k=0\/(0<q.n/\lo (q.here+4)=at4 bY k)
theorem AA (B:Sj l bY last cnt xs)(hb:∀j,j<cnt->Df bY last steps (at4 bY j) (xs j) (bd j))(ht:Dh bY last steps (at4 bY cnt) tail):
  ∀(n k:Nat) (q r:Mi.Rn),k+n=cnt->Rel bY steps k q r->(∀j,k<=j->j<cnt->aN r.m 13 (at4 bY j)=xs j)->r.m.length=l.length->QV (mend (bB bY last steps q (pz bY bd n k++tail))) (FD bY last steps n k r)
 |0,k,q,r,hk,R,_,_=>by
  have hkc:k=cnt:=by omega
  have hp:=B.pos;rcases R.beg with h0|⟨h1,h2⟩
  ·omega
  ·have e:=ht q R.over h1 (by rw[h2,hkc]);show QV (mend (bB bY last steps q tail)) r
   refine⟨?_,?_,?_,?_,?_⟩
   ·rw[e.h,R.h,hkc]
   ·rw[e.m,R.m]
   ·rw[e.out,R.out]
   ·rw[e.n,R.n]
   ·rw[e.av,R.av]
 |n+1,k,q,r,hk,R,hw,hlen=>by
  have hkc:k<cnt:=by omega
  have ha:=B.at_ k (by omega);have ha1:=B.at_ (k+1) (by omega);have hlow:=B.low;have htop:=B.top;have hfit:=B.fit;have hll:=B.len;have e0:bB bY last steps q (pz bY bd (n+1) k++tail)=bB bY last steps (Iy steps q (at4 bY k)) (bd k++(pz bY bd n (k+1)++tail)):=by
   show bB bY last steps q (⟨1,0,0,0,at4 bY k⟩::((bd k++pz bY bd n (k+1))++tail))=_
   rw[bB,at6 (by simp[R.over]),LY,aqa]
  rw[e0];by_cases hn:(q.n:Int)=steps
  ·have e1:Iy steps q (at4 bY k)=q.stop (at4 bY k):=by unfold Iy;rw[at7 (.inl hn)]
   have e2:FD bY last steps (n+1) k r=r:=by unfold FD;rw[at6 (by rw[R.n];omega)]
   rw[e1,eY _ _ _ rfl,qJ rfl,e2];exact⟨R.h.symm,R.m.symm,R.out.symm,R.n.symm,R.av.symm⟩
  ·have e1:Iy steps q (at4 bY k)={ q with n:=q.n+1,here:=at4 bY k }:=by unfold Iy;rw[at6 (by simp[hn,R.own])]
   rw[e1,fJ];have hbd:=yn bY k;have okq:Mi.Rn.Ok { q with n:=q.n+1,here:=at4 bY k }:=⟨R.ok.h,R.ok.tl,R.ok.tb,hbd.1,hbd.2⟩;have hst:q.h.state=0:=by have:=R.st;rw[R.h]at this;exact this
   have hrn:Hh.Rn r.h:=Ak R.may R.st;have hz:rg q.h 0=0:=by have:=hrn.z;rw[R.h]at this;exact this
   have okr:r.h.Ok:=by rw[R.h];exact R.ok.h.go hbd.1 hbd.2
   obtain⟨F,FL⟩:=hb k hkc { q with n:=q.n+1,here:=at4 bY k } R.over okq hst hz rfl (by show q.m.length<=4096;rw[<-R.m,hlen];exact hll);have hpc:r.h.pc=at4 bY k:=by rw[R.h];rfl
   have eS:dV r.h r.m=oW (q.h.go (at4 bY k)) q.m (xs k):=by
    unfold dV;have hok:bM r.m 13 r.h.pc=true:=by
     rw[hpc];have:=B.ok k hkc;unfold bM at this ⊢;rw[hlen];exact this
    rw[at7 hok,hpc,hw k (apn _) hkc,R.h,R.m]
   have gS:=lJ hrn r.m;have mS:=FO okr r.m;rw[<-show dV r.h r.m=oW (({ q with n:=q.n+1,here:=at4 bY k }:Mi.Rn).h.go (at4 bY k)) ({ q with n:=q.n+1,here:=at4 bY k }:Mi.Rn).m (xs k)from eS]at F FL;have agm:FD bY last steps (n+1) k r=if wL bY last k (dV r.h r.m)=true then b1 r else FD bY last steps n (k+1) (b1 r):=by
    rw[FD,at7];have:=R.le;rw[R.n];omega
   rw[agm];have L9:lo (at4 bY k+4)=at4 bY (k+1):=by
    rw[ha,ha1];have:lo (bY+4*(k:Int)+4)=bY+4*(k:Int)+4:=aqr (by omega) (by omega);rw[this];omega
   have agn:Wd.lo (bY+(4*(k:Int)+4))=at4 bY (k+1):=by
    rw[<-L9,ha];congr 1;omega
   have WN:=LZ mS (bY:=bY) (last:=last) (by omega) (by rw[hlen];exact hll);generalize hq':bB bY last steps { q with n:=q.n+1,here:=at4 bY k } (bd k)=q' at *
   have eqb:q'.h=(dV r.h r.m).h->QV q' (b1 r):=fun e=>⟨e,F.m,by rw[F.out];show q.out++_=r.out++_;rw[R.out],by rw[F.n];show q.n+1=r.n+1;rw[R.n],by rw[F.av];show q.av++_=r.av++_;rw[R.av]⟩
   rcases F.go with⟨g1,g2⟩|⟨g1,g2,g3,g4⟩
   ·rw[eY _ _ _ g1,qJ g1];have hE:=eqb g2;split
    ·exact hE
    ·rename_i hbs;have hs0:(dV r.h r.m).h.state=0:=by
      unfold wL at hbs;simp only[aqV,auk,not_or,Classical.not_not]at hbs;exact hbs.1
     have hfin:k+1=cnt:=by
      rcases FL g1 with h|h
      ·exact B.fin k hkc h
      ·exact absurd hs0 h
     have hn0:n=0:=by omega
     subst hn0;exact hE
   ·have hS4:q'.h.go (at4 bY (k+1))=(dV r.h r.m).h:=by
     rw[g4,Au,<-L9,<-g3,WM]
    have hbs:wL bY last k (dV r.h r.m)=(dV r.h r.m).av.any (vI bY last):=by
     unfold wL;rw[auh (by simp[g2]),auh (by rw[agn,<-L9];simp[g3])];simp
    have acN:=F.here g1;have hnn:0<q'.n:=by rw[F.n];exact Nat.succ_pos _
    have hEg:∀s:Mi.Rn,QV s { q' with h:=q'.h.go (at4 bY (k+1)) }->QV s (b1 r):=fun s e=>by
     refine⟨?_,?_,?_,?_,?_⟩
     ·rw[e.h];exact hS4
     ·rw[e.m];exact F.m
     ·rw[e.out];show q'.out=_;rw[F.out];show q.out++_=r.out++_;rw[R.out]
     ·rw[e.n];show q'.n=_;rw[F.n];show q.n+1=r.n+1;rw[R.n]
     ·rw[e.av];show q'.av=_;rw[F.av];show q.av++_=r.av++_;rw[R.av]
    rw[hbs];split
    ·rename_i hh;have hown:q'.own=true:=by rw[F.own,<-WN,hh];simp
     cases n with
     |zero=>
      have hc1:k+1=cnt:=by omega
      refine hEg _ ?_;rw[hc1];exact ht q' g1 hnn (by rw[acN,L9,hc1])
     |succ n'=>
      refine hEg _ ?_;show QV (mend (bB bY last steps q' (⟨1,0,0,0,at4 bY (k+1)⟩::((bd (k+1)++pz bY bd n' (k+1+1))++tail)))) _
      rw[bB,at6 (by simp[g1]),LY];have e3:Iy steps q' (at4 bY (k+1))=q'.stop (at4 bY (k+1)):=by unfold Iy;rw[at7 (.inr hown)]
      rw[e3,eY _ _ _ rfl,qJ rfl];exact⟨rfl,rfl,rfl,rfl,rfl⟩
    ·rename_i hh;have hno:(dV r.h r.m).av.any (vI bY last)=false:=by simpa using hh
     have hown:q'.own=false:=by rw[F.own,<-WN,hno];show(q.own ||false)=false;rw[R.own];rfl
     refine AA B hb ht n (k+1) q' (b1 r) (by omega) ⟨g1,F.ok,gS.1,g2,hS4.symm,F.m.symm,by rw[F.out];show r.out++_=q.out++_;rw[R.out],by rw[F.n];show r.n+1=q.n+1;rw[R.n],by rw[F.av];show r.av++_=q.av++_;rw[R.av],hown,?_,.inr ⟨hnn,by rw[acN];exact L9⟩⟩ ?_ ?_
     ·rw[F.n];have:=R.le;show((q.n+1:Nat):Int)<=steps
      omega
     ·intro j hj1 hj2;have haj:=B.at_ j (by omega);show aN (dV r.h r.m).m 13 (at4 bY j)=xs j
      rw[tZ mS (bY:=bY) (last:=last) (by rw[hlen];exact hll) hno (by omega) (by omega) (by omega)];exact hw j (by omega) hj2
     ·show(dV r.h r.m).m.length=l.length
      rw[gS.2.1,hlen]
theorem IB (B : Sj l bY last cnt xs) (hb : ∀ j, j < cnt → Df bY last steps (at4 bY j) (xs j) (bd j)) (ht : Dh bY last steps (at4 bY cnt) tail)(o :h.Ok) (hm :may h =true) (hs :h.state =0) (hp :h.pc =bY) (h0 :0 <= steps) (hx : ∀ j, j < cnt -> aN l 13 (at4 bY j) =xs j) :QV (dC bY last steps h l (pz bY bd cnt 0 ++ tail)) (FD bY last steps cnt 0 (mstart h l)) :=by
  have e :at4 bY 0 =bY :=by have :=B.at_ 0 (apF _); simpa using this
  refine AA B hb ht cnt 0 (mstart h l) (mstart h l) (apu _) ⟨rfl, (Gd.start (bf :=bY) (bt :=last) o hs B.len).ok, hm, hs, ?_, rfl, rfl, rfl, rfl, rfl, by simpa[mstart]using h0, .inl rfl⟩ (fun j _ hj => hx j hj) rfl;rw[e, <- hp];rfl
theorem tail_nil (bf bt steps a:Int):Dh bf bt steps a []:=fun q ho hn hh=>by
 show QV (mend q) _
 unfold mend;rw[at7 ⟨ho,hn⟩,hh];exact⟨rfl,rfl,rfl,rfl,rfl⟩
end Ts
end Go.Proofs.YtiadhbmnfjfioaaGreatDoor
