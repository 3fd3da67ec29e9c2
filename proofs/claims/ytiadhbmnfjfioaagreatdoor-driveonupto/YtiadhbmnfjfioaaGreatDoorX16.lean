/- ours -/
import Derived.Test.YtiadhbmnfjfioaaGreatDoorX15
set_option linter.unusedVariables false
set_option linter.unusedSimpArgs false
set_option maxHeartbeats 8000000
set_option maxRecDepth 100000
set_option linter.unusedSectionVars false
namespace Go.Proofs.YtiadhbmnfjfioaaGreatDoor
open Go.Proofs.Tryz hiding cs
open Go.ChangeShapes Go.WideShapes Go.ChangeAt Go.RowKit
variable{a a0:Act}{K:Act->World->Prop}{listed:Array Bool}{z cs:Array Value}{fr':Bool}{e:Ending}{Hy:List (List Nat)}{f:List (Option Value)}{T:List (TypeId×Array Value)}{l:List Nat}{ops:List Oper}{m:List UInt8}{j b i x id mc hc pc n uc t k N g B:Nat}{o:Oper}{ma ha pa ua:Option Addr}{v U' M H P U:Value}{F:Value->World->Prop}{D:Value×Value×Value}{w w' w9:World}
namespace Rg
open Mm
def nS:List Oper→List (Option Value)→Act→Act
 |o::r,some v::s,a=>nS r s (a.put o.dst v)
 |_::r,none::s,a=>nS r s a
 |_,_,a=>a
theorem mJ (a:Act)(d:Option Tmp)(v:Value):(a.put d v).tmps.size=a.tmps.size:=by cases d<;>simp[Act.put]
theorem qm:∀(ops:List Oper) (f:List (Option Value)) (a:Act),(nS ops f a).tmps.size=a.tmps.size
 | [],[],a=>rfl
 | [],_::_,a=>rfl
 |_::_,[],a=>rfl
 |o::r,some v::s,a=>(qm r s _).trans (mJ a _ _)
 |o::r,none::s,a=>qm r s a
theorem eval_put_same {a':Act}(hs:a.tmps.size=a'.tmps.size)(d:Tmp)(v:Value):(a.put (some d) v).eval (.tmp d)=(a'.put (some d) v).eval (.tmp d):=by simp[Act.eval,Act.put,aqm,arf,hs]
theorem Cu (x:Operand):∀(ops:List Oper) (f g:List (Option Value)) (a a':Act),f.length=g.length->a.tmps.size=a'.tmps.size->a.eval x=a'.eval x->
  (∀(j:Nat) (o:Oper) (d:Tmp),ops[j]?=some o->o.dst=some d->x=.tmp d->f[j]?=g[j]?)->(nS ops f a).eval x=(nS ops g a').eval x
 | [],f,g,a,a',_,_,h,_=>by cases f<;>cases g<;>exact h
 |o::r,[],[],a,a',_,_,h,_=>h
 |o::r,p::s,q::t,a,a',hl,hs,h,hd=>by
  have hr:∀(b b':Act),b.tmps.size=b'.tmps.size->b.eval x=b'.eval x->(nS r s b).eval x=(nS r t b').eval x:=fun b b' e1 e2=>
   Cu x r s t b b' (by simpa using hl) e1 e2 fun j o' d h1 h2 h3=>by simpa using hd (j+1) o' d (by simpa using h1) h2 h3
  by_cases hx:∃d,o.dst=some d/\x=.tmp d
  ·obtain⟨d,h1,rfl⟩:=hx;have e:=hd 0 o d rfl h1 rfl;simp only[apw,auj]at e;subst e;cases p with
   |none=>exact hr _ _ hs h
   |some v=>exact hr _ _ (by rw[mJ,mJ];exact hs) (by rw[h1];exact eval_put_same hs d v)
  ·have hn:∀d,o.dst=some d->x≠.tmp d:=fun d h1 h2=>hx ⟨d,h1,h2⟩
   have k:∀(b:Act) (z:Option Value),(match z with|some v=>b.put o.dst v|none=>b).eval x=b.eval x:=fun b z=>by
    cases z with
    |none=>rfl
    |some v=>exact Act.eval_put hn
   have k2:∀(b:Act) (z:Option Value),(match z with|some v=>b.put o.dst v|none=>b).tmps.size=b.tmps.size:=fun b z=>by
    cases z with
    |none=>rfl
    |some v=>exact mJ _ _ _
   have e1:∀(b:Act) (z:Option Value) (u:List (Option Value)),nS (o::r) (z::u) b=nS r u (match z with|some v=>b.put o.dst v|none=>b):=fun b z u=>by cases z<;>rfl
   rw[e1,e1];exact hr _ _ (by rw[k2,k2];exact hs) (by rw[k,k];exact h)
theorem uZ:∀(ops:List Oper) (f:List (Option Value)) (a:Act) (d:Option Tmp) (v:Value),(∀o∈ops,∀t,o.dst=some t→d≠some t)→(nS ops f a).put d v=nS ops f (a.put d v)
 | [],[],a,d,v,_=>rfl
 | [],_::_,a,d,v,_=>rfl
 |_::_,[],a,d,v,_=>rfl
 |o::r,none::s,a,d,v,h=>uZ r s a d v fun o' m=>h o' (aqx _ m)
 |o::r,some u::s,a,d,v,h=>by
  show(nS r s (a.put o.dst u)).put d v=nS r s ((a.put d v).put o.dst u)
  rw[uZ r s _ d v fun o' m=>h o' (aqx _ m),Act.put_comm a u v fun t ht=>h o (aqM ..) t ht]
def gV:List Oper→Bool
 | []=>true
 |o::r=>r.all (fun o'=>o.dst.isNone ||o.dst !=o'.dst) && gV r
theorem zI:∀(ops:List Oper) (f:List (Option Value)) (a:Act) (i:Nat) (o:Oper) (v:Value),gV ops=true→ops[i]?=some o→f[i]?=some none→(nS ops f a).put o.dst v=nS ops (f.set i (some v)) a
 | [],_,_,_,_,_,_,h,_=>by simp at h
 |_::_,[],_,_,_,_,_,_,h=>by simp at h
 |o::r,p::s,a,0,o',v,ha,ho,hf=>by
  simp only[apw,auj]at ho hf;subst ho hf;unfold gV at ha;rw[apD,apM]at ha;show(nS r s a).put o.dst v=nS r s (a.put o.dst v)
  refine uZ r s a _ v fun o' hm t ht e=>?_
  have:=ha.1 o' hm;rw[e,ht]at this;simp at this
 |o::r,p::s,a,i+1,o',v,ha,ho,hf=>by
  simp only[apI]at ho hf;unfold gV at ha;rw[apD]at ha;cases p with
  |none=>exact zI r s a i o' v ha.2 ho hf
  |some u=>exact zI r s _ i o' v ha.2 ho hf
def zn (z:Array Value):Bool:=z.toList.all fun v=>match v with
 | .int .u8 _=>false
 | .int .u32 _=>false
 |_=>true
def Nn (w:World) (b:Nat):Prop:=∀i v,w.cell? ⟨b,i,none⟩=some v->∀z,v≠.int .u8 z/\v≠.int .u32 z
structure Rk (N:Nat) (T:List (TypeId×Array Value)) where
 R:World->Value->Prop
 st:∀{w w':World} {v:Value},Gr w w'->R w v->R w' v
 sb:∀{w:World} {b:Nat} {o:Array Value} {t:TypeId} {cs:Array Value} {v:Value},N<=b->w.heap[b]?=some (.cells o t (0,0))->(t,o)∈T->(zn o=true->Nn w b)->R w v->R (w.setRow b cs) v
structure Kd (N:Nat) (T:List (TypeId×Array Value)) where
 rk:Rk N T
 bx:Option (TypeId×Array Value×Nat×Nat)
 av:Option (Nat×Nat)
section
def Val (x:Value):Kd N T:=⟨⟨fun _ v=>v=x,fun _ h=>h,fun _ _ _ _ h=>h⟩,none,none⟩
def zW {α:Type} (V:α->Value) (F:World->α->Prop) (st:∀{w w':World} {x:α},Gr w w'->F w x->F w' x) (sb:∀{w:World} {b:Nat} {o:Array Value} {t:TypeId} {cs:Array Value} {x:α},w.heap[b]?=some (.cells o t (0,0))->(t,o)∈T->(zn o=true->Nn w b)->F w x->F (w.setRow b cs) x):Kd N T:=⟨⟨fun w v=>∃x,v=V x/\F w x,fun g ⟨x,e,h⟩=>⟨x,e,st g h⟩,fun _ h1 h2 h3 ⟨x,e,h⟩=>⟨x,e,sb h1 h2 h3 h⟩⟩,none,none⟩
def Fa {α:Type} (V:α->Value) (F:World->α->Prop) (st:∀{w w':World} {x:α},Gr w w'->F w x->F w' x):Kd N []:=zW V F st fun _ h=>by cases h
def Ro (c:Array Value) (t:TypeId) (n:Nat):Kd N []:=Fa (fun b:Nat=>.slice (some ⟨b,0,none⟩) n n) (fun W b=>W.heap[b]?=some (.cells c t (0,0))) fun g h=>(g.block _ (gs h).1).trans h
def Rp (t:TypeId) (z:Array Value) (s x:Nat):Kd N T:=⟨⟨fun _ v=>∃b,v=.pointer (some ⟨b,0,none⟩)/\N<=b,fun _ h=>h,fun _ _ _ _ h=>h⟩,some (t,z,s,x),none⟩
def Rq (a x:Nat):Kd N T:=⟨⟨fun _ _=>True,fun _ h=>h,fun _ _ _ _ h=>h⟩,none,some (a,x)⟩
end
section
variable{P:Program}{Q:Exit->Act->World->Prop}
def at' (Rs:List (Kd N T)) (j:Nat) (w:World) (v:Value):Prop:=match Rs[j]? with
 |some r=>r.rk.R w v
 |none=>True
theorem aeM {Rs:List (Kd N T)}{k:Kd N T}(hk:Rs[j]?=some k)(h:k.rk.R w v):at' Rs j w v:=by unfold at';rw[hk];exact h
theorem XA {Rs:List (Kd N T)}(h:at' Rs j w v)(q:∀k:Kd N T,k.rk.R w v->k.rk.R w' v):at' Rs j w' v:=by
 unfold at' at *
 cases e:Rs[j]? with
 |none=>trivial
 |some k=>rw[e]at h;exact q k h
def dep (Rs:List (Kd N T)) (w:World):List Nat→List (Option Value)→(List (Option Value)→Prop)→Prop
 | [],f,k=>k f
 |j::r,f,k=>∀v,at' Rs j w v->dep Rs w r (f.set j (some v)) k
def made (N:Nat) (w:World) (v:Value):Option (TypeId×Array Value×Nat×Nat)→Prop
 |none=>True
 |some (t,z,_,_)=>∃b,v=.pointer (some ⟨b,0,none⟩)/\N<=b/\w.heap[b]?=some (.cells z t (0,0))
def Ob (P:Program) (ops:List Oper) (a:Act) (o:Oper) (f:List (Option Value)) (w:World) (k:Kd N T):Prop:=∀K:Act->World->Prop,Shut (∀v w',Gr w w'->k.rk.R w' v->made N w' v k.bx->K ((nS ops f a).put o.dst v) w')->Oper.wp P o (nS ops f a) w K (fun _ _ _=>False)
def ObS (P:Program) (Rs:List (Kd N T)) (o:Oper) (a x:Nat):Prop:=match o.op,(Rs[a]?).bind (·.bx)with
 | .store ty _ _,some (t,z,_,_)=>(P.info? ty).map (·.size)=some z.size/\∀w v,at' Rs x w v->∃cs,v=.agg cs/\cs.size=z.size/\cs.all (·.oneCell')=true
 |_,_=>False
def inT (T:List (TypeId×Array Value)):Option (TypeId×Array Value×Nat×Nat)→Prop
 |none=>True
 |some (t,z,_,_)=>(t,z)∈T
def Rt (P:Program) (Rs:List (Kd N T)) (w0:World) (ops:List Oper) (a:Act):List Oper→List (List Nat)→List (Kd N T)→Prop
 |o::r,ds::dr,k::kr=>(match k.av with
  |some (p,x)=>(∀w v,k.rk.R w v)/\ObS P Rs o p x
  |none=>inT T k.bx/\∀w,Gr w0 w->dep Rs w ds (List.replicate ops.length none) fun f=>Ob P ops a o f w k)/\Rt P Rs w0 ops a r dr kr
 |_,_,_=>True
def Ct (w:World) (t:TypeId) (p v:Value):Prop:=∃b cs,p=.pointer (some ⟨b,0,none⟩)/\v=.agg cs/\w.heap[b]?=some (.cells cs t (0,0))
def Fin' (Q:Exit→Act→World→Prop) (Rs:List (Kd N T)) (w:World):List Value→List Oper→List (Kd N T)→Act→Prop
 |vs,o::r,k::kr,a=>∀v,k.rk.R w v->(match k.av with
  |some (p,x)=>Ct w ((((Rs[p]?).bind (·.bx)).map (·.1)).getD 0) (vs.getD p undef) (vs.getD x undef) 
  |none=>True)->Fin' Q Rs w (vs++[v]) r kr (a.put o.dst v)
 |_,_,_,a=>Q .normal a w
def VR (ops:List Oper) (o:Oper) (ds:List Nat):Bool:=
 o.guard.isNone && (match o.op with|.select _ _=>false|_=>true) &&
 ds.all (fun j=>o.after.any fun e=>Region.binds .any e && e.on ==j) &&
 (List.range ops.length).all fun j=>ds.contains j ||match (ops[j]?).bind (·.dst)with
  |some d=>!(o.op.operands.toList.any fun x=>match x with|.tmp t=>t ==d|_=>false)
  |none=>true
def rV (ops:List Oper):List Oper→List (List Nat)→Bool
 |o::r,ds::dr=>VR ops o ds && rV ops r dr
 | [],[]=>true
 |_,_=>false
def vU (Rs:List (Kd N T)):Bool:=
 (List.range Rs.length).all (fun i=>match (Rs[i]?).bind (·.bx)with
  |some (t,z,s,x)=>((Rs[s]?).bind (·.av)) ==some (i,x) && (Rs[i]?).all (·.av.isNone) && (List.range Rs.length).all (fun j=>j ==i ||match (Rs[j]?).bind (·.bx)with
   |some (t',_)=>t' !=t
   |none=>true)
  |none=>true) &&
 (List.range Rs.length).all fun s=>match (Rs[s]?).bind (·.av)with
  |some (a,x)=>(match (Rs[a]?).bind (·.bx)with
   |some (_,_,s',x')=>s' ==s && x' ==x
   |none=>false)
  |none=>true
def u6 (ops:List Oper) (n:Nat):List Oper→List (List Nat)→List (Kd N T)→Bool
 |o::r,ds::dr,k::kr=>(match k.av with
  |some (a,x)=>(match o.op,(ops[a]?).bind (·.dst),(ops[x]?).bind (·.dst)with
   | .store _ (.tmp d) (.tmp e),some d',some e'=>d ==d' && e ==e' && decide (d<n) && decide (e<n) && ds.contains a && ds.contains x && o.dst.isNone
   |_,_,_=>false)
  |none=>true) && u6 ops n r dr kr
 |_,_,_=>true
structure St (Rs:List (Kd N T)) (w0:World) (ops:List Oper) (a0:Act) (listed:Array Bool) (a:Act) (w:World) (f:List (Option Value)):Prop where
 len:f.length=ops.length
 ls:listed.size=ops.length
 act:a=nS ops f a0
 gr:Gr w0 w
 P6:∀i:Nat,listed[i]?=some true->∃v,f[i]?=some (some v)/\at' Rs i w v
 none':∀i:Nat,listed[i]?=some false->f[i]?=some none
 cl:∀(i:Nat) (o:Oper),ops[i]?=some o->listed[i]?=some true->∀e∈o.after,Region.binds .any e=true->listed[e.on]?=some true
 bx:∀(i:Nat) (t:TypeId) (z:Array Value) (s x:Nat),(Rs[i]?).bind (·.bx)=some (t,z,s,x)->∀v,f[i]?=some (some v)->∃b,v=.pointer (some ⟨b,0,none⟩)/\N<=b/\b<w.heap.size/\
  (f[s]?=some none->w.heap[b]?=some (.cells z t (0,0)))/\(∀u,f[s]?=some (some u)->∃cs,f[x]?=some (some (.agg cs))/\w.heap[b]?=some (.cells cs t (0,0)))
theorem P8 {Rs:List (Kd N T)}{w:World}{F:List (Option Value)}{k:List (Option Value)->Prop}:∀(ds:List Nat) (f:List (Option Value)),(∀j∈ds,∃v,F[j]?=some (some v)/\at' Rs j w v)->dep Rs w ds f k->
  ∃g,g.length=f.length/\(∀j:Nat,(j∈ds->j<f.length->g[j]?=F[j]?)/\(j ∉ ds->g[j]?=f[j]?))/\k g
 | [],f,_,h=>⟨f,rfl,fun j=>⟨fun m=>by(cases m),fun _=>rfl⟩,h⟩
 |j::r,f,hd,h=>by
  obtain⟨v,e,hv⟩:=hd j (aqM ..);obtain⟨g,h1,h2,h3⟩:=P8 r (f.set j (some v)) (fun i m=>hd i (aqx _ m)) (h v hv);rw[ap6]at h1;refine⟨g,h1,fun i=>⟨fun m hl=>?_,fun m=>?_⟩,h3⟩
  ·by_cases hi:i∈r
   ·exact(h2 i).1 hi (by rw[ap6];exact hl)
   ·rcases apx.1 m with rfl|m
    ·rw[(h2 i).2 hi,e,aqu hl]
    ·exact absurd m hi
  ·rw[(h2 i).2 fun q=>m (aqx _ q),aq8 fun q=>m (by rw[<-q];exact aqM ..)]
theorem zJ {Rs:List (Kd N T)}{w0:World}{ops:List Oper}{a:Act}{n:Nat}:∀(r:List Oper) (dr:List (List Nat)) (kr:List (Kd N T)) (i:Nat) (o:Oper),r.length=kr.length->rV ops r dr=true->u6 ops n r dr kr=true->Rt P Rs w0 ops a r dr kr->r[i]?=some o->
  ∃ds k,kr[i]?=some k/\VR ops o ds=true/\u6 ops n [o] [ds] [k]=true/\(match k.av with
   |some (p,x)=>(∀w v,k.rk.R w v)/\ObS P Rs o p x
   |none=>inT T k.bx/\∀w,Gr w0 w->dep Rs w ds (List.replicate ops.length none) fun f=>Ob P ops a o f w k)
 | [],_,_,_,_,_,_,_,_,h=>by simp at h
 |_::_,[],_,_,_,_,h,_,_,_=>by simp[rV]at h
 |_::_,_::_,[],_,_,h,_,_,_,_=>by simp at h
 |o::r,ds::dr,k::kr,0,o',hl,hk,hq,h,e=>by
  simp only[apw,auj]at e;subst e;unfold rV at hk;rw[apD]at hk;unfold u6 at hq;rw[apD]at hq;exact⟨ds,k,rfl,hk.1,by unfold u6;rw[apD];exact⟨hq.1,rfl⟩,h.1⟩
 |o::r,ds::dr,k::kr,i+1,o',hl,hk,hq,h,e=>by
  unfold rV at hk;rw[apD]at hk;unfold u6 at hq;rw[apD]at hq;exact zJ r dr kr i o' (by simpa using hl) hk.2 hq.2 h.2 (by simpa using e)
theorem ry {d:Tmp}:∀(ops:List Oper) (f:List (Option Value)) (a:Act),(∀o∈ops,o.dst≠some d)→(nS ops f a).eval (.tmp d)=a.eval (.tmp d)
 | [],[],a,_=>rfl
 | [],_::_,a,_=>rfl
 |_::_,[],a,_=>rfl
 |o::r,none::s,a,h=>ry r s a fun o' m=>h o' (aqx _ m)
 |o::r,some v::s,a,h=>by
  show(nS r s (a.put o.dst v)).eval (.tmp d)=_
  rw[ry r s _ fun o' m=>h o' (aqx _ m)];exact Act.eval_put fun t ht e=>h o (aqM ..) (by injection e with e;rw[e];exact ht)
theorem zK {d:Tmp}{v:Value}:∀(ops:List Oper) (f:List (Option Value)) (a:Act) (i:Nat) (o:Oper),gV ops=true→ops[i]?=some o→o.dst=some d→f[i]?=some (some v)→d<a.tmps.size→(nS ops f a).eval (.tmp d)=v
 | [],_,_,_,_,_,h,_,_,_=>by simp at h
 |_::_,[],_,_,_,_,_,_,h,_=>by simp at h
 |o::r,p::s,a,0,o',ha,ho,hd,hf,hz=>by
  simp only[apw,auj]at ho hf;subst ho hf;unfold gV at ha;rw[apD,apM]at ha;show(nS r s (a.put o.dst v)).eval (.tmp d)=v
  rw[ry r s _ fun o' m e=>?_,hd]
  ·simp[Act.eval,Act.put,aqm,hz]
  ·have:=ha.1 o' m;rw[e,hd]at this;simp at this
 |o::r,p::s,a,i+1,o',ha,ho,hd,hf,hz=>by
  simp only[apI]at ho hf;unfold gV at ha;rw[apD]at ha;cases p with
  |none=>exact zK r s a i o' ha.2 ho hd hf hz
  |some u=>exact zK r s _ i o' ha.2 ho hd hf (by rw[mJ];exact hz)
theorem aeN (h:zn z=true){t:TypeId}(hb:w.heap[b]?=some (.cells z t (0,0))):Nn w b:=by
 intro i v hv y;rw[cr hb]at hv;unfold zn at h;rw[apM]at h;have hm:v∈z.toList:=by
  rw[<-aqD]at hv;exact aps hv
 have:=h v hm;constructor<;>(rintro rfl;simp at this)
theorem zL {Rs:List (Kd N T)}(h:vU Rs=true){t:TypeId}{s:Nat}(e:(Rs[i]?).bind (·.bx)=some (t,z,s,x)):(Rs[s]?).bind (·.av)=some (i,x)/\(Rs[i]?).bind (·.av)=none/\∀(j:Nat) (t':TypeId) (y:Array Value×Nat×Nat),(Rs[j]?).bind (·.bx)=some (t',y)->j≠i->t'≠t:=by
 unfold vU at h;rw[apD,apM,apM]at h;have hi:i<Rs.length:=by
  cases hr:Rs[i]? with
  |none=>rw[hr]at e;cases e
  |some k=>exact(apj.1 hr).1
 have h1:=h.1 i (aqZ.2 hi);rw[e]at h1;simp only[apD,auU,apM,aqZ]at h1;obtain⟨⟨a1,a5⟩,a4⟩:=h1;refine⟨a1,?_,fun j t' y hj hne ht=>?_⟩
 ·cases hr:Rs[i]? with
  |none=>rfl
  |some k=>rw[hr]at a5;simpa using a5
 ·have hjl:j<Rs.length:=by
   cases hr:Rs[j]? with
   |none=>rw[hr]at hj;cases hj
   |some k=>exact(apj.1 hr).1
  have:=a4 j hjl;rw[hj]at this;simp only[aqV,auU,bne_iff_ne]at this;rcases this with q|q
  ·exact hne q
  ·exact q ht
theorem P9 {Rs:List (Kd N T)}(h:vU Rs=true){s a:Nat}(e:(Rs[s]?).bind (·.av)=some (a,x)):∃t z,(Rs[a]?).bind (·.bx)=some (t,z,s,x):=by
 unfold vU at h;rw[apD,apM,apM]at h;have hi:s<Rs.length:=by
  cases hr:Rs[s]? with
  |none=>rw[hr]at e;cases e
  |some k=>exact(apj.1 hr).1
 have h1:=h.2 s (aqZ.2 hi);rw[e]at h1;cases hb:(Rs[a]?).bind (·.bx)with
 |none=>simp only[hb]at h1;cases h1
 |some y=>
  obtain⟨t,z,s',x'⟩:=y;simp only[hb,apD,auU]at h1;obtain⟨rfl,rfl⟩:=h1;exact⟨t,z,rfl⟩
def left (listed:Array Bool):Nat:=listed.toList.countP (· ==false)
theorem Cw:∀(l:List Bool) (i:Nat),l[i]?=some false→(l.set i true).countP (· == false)+1=l.countP (· == false)
 | [],i,h=>by simp at h
 |b::l,0,h=>by simp at h;subst h;simp
 |b::l,i+1,h=>by
  have:=Cw l i (by simpa using h);rw[apy,List.countP_cons,List.countP_cons];omega
theorem xP (hs:listed.size=ops.length)(hi:i∈Region.ready .any ops.toArray listed):∃o,ops[i]?=some o/\listed[i]?=some false/\∀e∈o.after,Region.binds .any e=true->listed[e.on]?=some true:=by
 obtain⟨hn,o,ho,ha⟩:=mem_ready.1 hi;rw[apm]at ho;have hil:i<listed.size:=by rw[hs];exact(apj.1 ho).1
 refine⟨o,ho,?_,fun e he hb=>?_⟩
 ·rw[aqm,aqk hil]at hn;rw[aqk hil];simpa using hn
 ·have h2:=ha e he hb;rw[aqm]at h2;cases h3:listed[e.on]? with
  |none=>rw[h3]at h2;simp at h2
  |some b=>rw[h3]at h2;simp at h2;rw[h2]
theorem Hu {ops:List Oper}(hs:listed.size=ops.length){i:Nat}(hi:i∈Region.ready .any ops.toArray listed):left (listed.setIfInBounds i true)+1=left listed:=by obtain⟨o,_,h,_⟩:=xP hs hi;unfold left;rw[Array.toList_setIfInBounds];exact Cw _ i (by rw[aqD];exact h)
theorem eQ {v:Option Value}(h:i≠j):(f.set i v)[j]?=f[j]?:=aq8 h
section
variable{Rs:List (Kd N T)}{w0:World}
theorem St.base (S:St Rs w0 ops a0 listed a w f)(hap:gV ops=true)(ho:ops[i]?=some o)(hn:listed[i]?=some false)(VS:∀e∈o.after,Region.binds .any e=true→listed[e.on]?=some true)(g:Gr w0 w')(hv:at' Rs i w' v)(hR:∀j u,j≠i→f[j]?=some (some u)→at' Rs j w u→at' Rs j w' u)(hbx:∀(j:Nat) (t:TypeId) (z:Array Value) (s x:Nat),(Rs[j]?).bind (·.bx)=some (t,z,s,x)->∀u,(f.set i (some v))[j]?=some (some u)->∃b,u=.pointer (some ⟨b,0,none⟩)/\N<=b/\b<w'.heap.size/\ ((f.set i (some v))[s]?=some none->w'.heap[b]?=some (.cells z t (0,0)))/\(∀y,(f.set i (some v))[s]?=some (some y)->∃cs,(f.set i (some v))[x]?=some (some (.agg cs))/\w'.heap[b]?=some (.cells cs t (0,0)))):St Rs w0 ops a0 (listed.setIfInBounds i true) (a.put o.dst v) w' (f.set i (some v)):=by
 have hi:=(apj.1 ho).1;refine⟨by rw[ap6];exact S.len,by rw[ap4];exact S.ls,by rw[S.act];exact zI ops f a0 i o v hap ho (S.none' i hn),g,fun j hj=>?_,fun j hj=>?_,fun j o' ho' hj=>?_,hbx⟩
 ·by_cases h:i=j
  ·subst h;exact⟨v,aqu (by rw[S.len];exact hi),hv⟩
  ·rw[aqp h]at hj;obtain⟨u,h1,h2⟩:=S.P6 j hj;exact⟨u,by rw[eQ h];exact h1,hR j u (Ne.symm h) h1 h2⟩
 ·by_cases h:i=j
  ·subst h;rw[Array.getElem?_setIfInBounds_self]at hj;split at hj<;>simp at hj
  ·rw[aqp h]at hj;rw[eQ h];exact S.none' j hj
 ·have up:∀k:Nat,listed[k]?=some true->(listed.setIfInBounds i true)[k]?=some true:=fun k hk=>by
   by_cases h:i=k
   ·subst h;rw[hn]at hk;cases hk
   ·rw[aqp h];exact hk
  by_cases h:i=j
  ·subst h;rw[ho]at ho';injection ho' with ho';subst ho';exact fun e he hb=>up _ (VS e he hb)
  ·rw[aqp h]at hj;exact fun e he hb=>up _ (S.cl j o' ho' hj e he hb)
theorem St.step (hN:N=w0.heap.size)(hl:ops.length=Rs.length)(hap:gV ops=true)(EX:vU Rs=true)(S:St Rs w0 ops a0 listed a w f)(ho:ops[i]?=some o)(hn:listed[i]?=some false)(VS:∀e∈o.after,Region.binds .any e=true→listed[e.on]?=some true)(hsa:∀(s:Nat) (os:Oper) (x:Nat),(Rs[s]?).bind (·.av)=some (i,x)->ops[s]?=some os->∃e∈os.after,Region.binds .any e=true/\e.on=i)(hns:(Rs[i]?).bind (·.av)=none)(g:Gr w w')(hv:at' Rs i w' v)(hm:made N w' v ((Rs[i]?).bind (·.bx))):St Rs w0 ops a0 (listed.setIfInBounds i true) (a.put o.dst v) w' (f.set i (some v)):=by
 have hi:=(apj.1 ho).1;have hfi:=S.none' i hn;refine S.base hap ho hn VS (S.gr.trans g) hv (fun j u _ _ h=>XA h fun k q=>k.rk.st g q) fun j t z s x hj u hu=>?_
 obtain⟨hs,hjs,hd⟩:=zL EX hj;have hsi:i≠s:=fun e=>by rw[e,hs]at hns;cases hns
 rw[eQ hsi];by_cases h:i=j
 ·subst h;rw[aqu (by rw[S.len];exact hi)]at hu;injection hu with hu;injection hu with hu;subst hu;rw[hj]at hm;obtain⟨b,e,h1,h2⟩:=hm;refine⟨b,e,h1,(gs h2).1,fun _=>h2,fun y hy=>?_⟩;exfalso;have hsl:s<ops.length:=by rw[<-S.len];exact(apj.1 hy).1
  obtain⟨e,he,hb,hon⟩:=hsa s _ x hs (api hsl);have hls:listed[s]?=some true:=by
   have hz':s<listed.size:=by rw[S.ls];exact hsl
   rw[aqk hz'];cases hb:listed[s]with
   |true=>rfl
   |false=>
    have:=S.none' s (by rw[aqk hz',hb]);rw[hy]at this;injection this with this;cases this
  have:=S.cl s _ (api hsl) hls e he hb;rw[hon,hn]at this;cases this
 ·rw[eQ h]at hu;obtain⟨b,e,h1,h2,h3,h4⟩:=S.bx j t z s x hj u hu;have hb:=g.block b h2;refine⟨b,e,h1,apq h2 g.size,fun q=>hb.trans (h3 q),fun y hy=>?_⟩;obtain⟨cs,e1,e2⟩:=h4 y hy;refine⟨cs,?_,hb.trans e2⟩;by_cases hx:i=x
  ·subst hx;rw[hfi]at e1;injection e1 with e1;cases e1
  ·rw[eQ hx];exact e1
theorem St.av (hN:N=w0.heap.size)(hap:gV ops=true)(EX:vU Rs=true)(S:St Rs w0 ops a0 listed a w f)(ho:ops[i]?=some o)(hn:listed[i]?=some false)(VS:∀e∈o.after,Region.binds .any e=true→listed[e.on]?=some true){p x:Nat}(hs:(Rs[i]?).bind (·.av)=some (p,x)){b:Nat}{cs:Array Value}(hp:f[p]?=some (some (.pointer (some ⟨b,0,none⟩))))(hx:f[x]?=some (some (.agg cs)))(hb:N<=b){t:TypeId}{z:Array Value}(hbx:(Rs[p]?).bind (·.bx)=some (t,z,i,x))(ht:(t,z)∈T)(hz:w.heap[b]?=some (.cells z t (0,0)))(hsz:cs.size=z.size)(hi0:∀w v,at' Rs i w v):St Rs w0 ops a0 (listed.setIfInBounds i true) (a.put o.dst undef) (w.setRow b cs) (f.set i (some undef)):=by
 have hi:i<ops.length:=(apj.1 ho).1;have hfi:=S.none' i hn;obtain⟨_,hps,hd⟩:=zL EX hbx;have hrow:(w.setRow b cs).heap[b]?=some (.cells cs t (0,0)):=aup _ _ _ _ _ (0,0) hz;refine S.base hap ho hn VS (below_setRow S.gr (by rw[<-hN];exact hb) cs) (hi0 _ _) (fun j u _ _ h=>XA h fun k q=>k.rk.sb hb hz ht (fun e=>aeN e hz) q) fun j t' z' s x' hj u hu=>?_
 obtain⟨hs',hjs,hd'⟩:=zL EX hj;have hij:i≠j:=fun e=>by rw[<-e,hs]at hjs;cases hjs
 rw[eQ hij]at hu;obtain⟨b',e,h1,h2,h3,h4⟩:=S.bx j t' z' s x' hj u hu;have hxx:∀{y:Nat} {c:Array Value},f[y]?=some (some (.agg c))->(f.set i (some undef))[y]?=some (some (.agg c)):=fun {y c} e1=>by
  by_cases hy:i=y
  ·subst hy;rw[hfi]at e1;injection e1 with e1;cases e1
  ·rw[eQ hy];exact e1
 by_cases hjp:j=p
 ·subst hjp;rw[hbx]at hj;injection hj with hj;simp only[auX]at hj;obtain⟨rfl,rfl,rfl,rfl⟩:=hj;rw[hp]at hu;injection hu with hu;injection hu with hu;subst hu;injection e with e;injection e with e;injection e with e;subst e;refine⟨b,rfl,h1,by rw[setRow_size];exact h2,fun q=>?_,fun y hy=>⟨cs,hxx hx,hrow⟩⟩;rw[aqu (by rw[S.len];exact hi)]at q;injection q with q;cases q
 ·have hty:=hd j t' _ hj hjp;have hsi:i≠s:=fun e=>by
   subst e;rw[hs]at hs';injection hs' with hs';simp only[auX]at hs';exact hjp hs'.1.symm
  rw[eQ hsi];have hbb:∀{c:Array Value},w.heap[b']?=some (.cells c t' (0,0))->(w.setRow b cs).heap[b']?=some (.cells c t' (0,0)):=fun {c} e1=>by
   refine(sV (fun q=>?_)).trans e1;rw[q,hz]at e1;injection e1 with e1;injection e1 with _ e1;exact hty e1.symm
  refine⟨b',e,h1,by rw[setRow_size];exact h2,fun q=>hbb (h3 q),fun y hy=>?_⟩;obtain⟨c,e1,e2⟩:=h4 y hy;exact⟨c,hxx e1,hbb e2⟩
end
theorem abn {A:Act}{d:Option Tmp}{u:Value}(hs:a.tmps.size=A.tmps.size)(h:A.put d u=A.put d v):a.put d u=a.put d v:=by
 cases d with
 |none=>rfl
 |some d=>
  by_cases hd:d<A.tmps.size
  ·have h2:(A.tmps.setIfInBounds d u)[d]?=(A.tmps.setIfInBounds d v)[d]?:=congrArg (fun x:Act=>x.tmps[d]?) h;rw[aqA hd,aqA hd]at h2;injection h2 with h2;rw[h2]
  ·have hd':a.tmps.size<=d:=by rw[hs];exact Nat.le_of_not_lt hd
   have e:∀x,a.tmps.setIfInBounds d x=a.tmps:=fun x=>Array.setIfInBounds_eq_of_size_le hd'
   simp only[Act.put,e]
theorem aeO {A:Act}{F:Value->World->Prop}(he:execOp A.eval o=execOp a.eval o)(hs:a.tmps.size=A.tmps.size)(hK:∀v w',F v w'->K (a.put o.dst v) w')(h:Oper.wp P o A w (fun a' w'=>∃v,a'=A.put o.dst v/\F v w') (fun _ _ _=>False)):Oper.wp P o a w K Q:=by
 unfold Oper.wp at *
 rw[he]at h;have fin:∀u w',(∃v,A.put o.dst u=A.put o.dst v/\F v w')->K (a.put o.dst u) w':=fun u w' ⟨v,e,n⟩=>by rw[abn hs e];exact hK v w' n
 generalize(execOp a.eval o).run P w=r at *
 cases r with
 |ok n w'=>
  cases n<;>simp only[Oper.upon]at h ⊢
  case value u=>exact fin u w' h
  case skip=>exact fin _ w' h
  case defer d=>
   obtain⟨v,e,_⟩:=h;have e2:=congrArg Act.defers e;cases hd:o.dst<;>rw[hd]at e2<;>simp[Act.put]at e2
  case enter f args=>
   refine au0 h fun e w'' q=>?_
   cases e with
   |returned u=>exact fin u w'' q
   |panicked c=>exact q.elim
   |outgrown=>obtain⟨_,_,q⟩:=q;exact q.elim
  case row row args=>exact Rows.mono h fun u w'' q=>fin u w'' q
 |halt x w'=>
  cases x<;>simp only[Oper.upon]at h
theorem St.op {Rs:List (Kd N T)}{w0:World}{ops:List Oper}{a0:Act}{Hy:List (List Nat)}(hN:N=w0.heap.size)(hl:ops.length=Rs.length)(hap:gV ops=true)(EX:vU Rs=true)(hok:rV ops ops Hy=true)(hst:u6 ops a0.tmps.size ops Hy Rs=true)(H:Rt P Rs w0 ops a0 ops Hy Rs){listed:Array Bool}{a:Act}{w:World}{f:List (Option Value)}(S:St Rs w0 ops a0 listed a w f){i:Nat}(hi:i∈Region.ready .any ops.toArray listed){K:Act->World->Prop}(hK:∀a' w' f',St Rs w0 ops a0 (listed.setIfInBounds i true) a' w' f'->K a' w'):wpOp P ops.toArray Q i K a w:=by
 obtain⟨o,ho,hn,VS⟩:=xP S.ls hi;have ho2:ops.toArray[i]?=some o:=by rw[apm];exact ho
 obtain⟨ds,k,hk,hok',hst',Gt⟩:=zJ ops Hy Rs i o hl hok hst H ho;unfold VR at hok';simp only[apD,apM]at hok';obtain⟨⟨⟨g1,g2⟩,g3⟩,g4⟩:=hok';have hd:∀j∈ds,∃v,f[j]?=some (some v)/\at' Rs j w v:=fun j hj=>by
  have:=g3 j hj;rw[Array.any_eq_true']at this;obtain⟨e,he,h⟩:=this;rw[apD,auU]at h;exact S.P6 j (h.2 ▸ VS e he h.1)
 refine wpOp_step ho2 fun K' hKK=>?_
 have hw:Region.wanted o (yielded ops.toArray a.tmps)=true:=by
  unfold Region.wanted;cases h:o.guard with
  |none=>rfl
  |some y=>rw[h]at g1;simp at g1
 rw[at7 hw];have hbi:(Rs[i]?).bind (·.av)=k.av:=by rw[hk];rfl
 have hbb:(Rs[i]?).bind (·.bx)=k.bx:=by rw[hk];rfl
 cases hks:k.av with
 |none=>
  rw[hks]at Gt;simp only at Gt;obtain⟨g,hg1,hg2,hg⟩:=P8 ds _ hd (Gt.2 w S.gr);rw[List.length_replicate]at hg1;have hev:∀x∈o.op.operands,a.eval x=(nS ops g a0).eval x:=fun x hx=>by
   rw[S.act];refine Cu x ops f g a0 a0 (by rw[S.len,hg1]) rfl rfl fun j oj d h1 h2 h3=>?_
   have hj:=(apj.1 h1).1;have h4:=g4 j (aqZ.2 hj);by_cases hjd:j∈ds
   ·exact((hg2 j).1 hjd (by rw[List.length_replicate];exact hj)).symm
   ·rw[h1]at h4;simp only[aqj,h2]at h4;rw[aqV]at h4;rcases h4 with h4|h4
    ·exact absurd (by simpa using h4) hjd
    ·exfalso;rw[Bool.not_eq_true',List.any_eq_false]at h4;have h5:=h4 x (by simpa using hx);rw[h3]at h5;simp at h5
  have hsel:∀cs b,o.op≠.select cs b:=fun cs b e=>by rw[e]at g2;simp at g2
  have hex:=execOp_congr o hsel hev;have hsa:∀(s:Nat) (os:Oper) (x:Nat),(Rs[s]?).bind (·.av)=some (i,x)->ops[s]?=some os->∃e∈os.after,Region.binds .any e=true/\e.on=i:=fun s os x h1 h2=>by
   obtain⟨ds',k',h3,h4,h5,_⟩:=zJ ops Hy Rs s os hl hok hst H h2;rw[h3]at h1;simp only[aqj]at h1;unfold u6 at h5;rw[h1]at h5;simp only[apD]at h5;have h6:ds'.contains i=true:=by
    have h6:=h5.1
    revert h6
    split
    ·intro h6;simp only[apD]at h6;exact h6.1.1.2
    ·intro h6;cases h6
   unfold VR at h4;simp only[apD,apM]at h4;have h7:=h4.1.2 i (by simpa using h6);rw[Array.any_eq_true']at h7;obtain⟨e,he,h⟩:=h7;rw[apD,auU]at h;exact⟨e,he,h.1,h.2⟩
  have fin:∀v w',Gr w w'->k.rk.R w' v->made N w' v k.bx->K' (a.put o.dst v) w':=fun v w' q h hm=>hKK _ _ (hK _ _ _ (S.step hN hl hap EX ho hn VS hsa (hbi.trans hks) q (aeM hk h) (by rw[hbb];exact hm)))
  exact aeO (F:=fun v w'=>Gr w w'/\k.rk.R w' v/\made N w' v k.bx) hex.symm (by rw[S.act,qm,qm]) (fun v w' h=>fin v w' h.1 h.2.1 h.2.2) (hg _ fun v w' q h hm=>⟨v,rfl,q,h,hm⟩)
 |some px=>
  obtain⟨p,x⟩:=px;rw[hks]at Gt;simp only at Gt;obtain⟨t,z,hbx⟩:=P9 EX (hbi.trans hks);have htz:(t,z)∈T:=by
   have hpl:p<ops.length:=by
    rw[hl];cases hr:Rs[p]? with
    |none=>rw[hr]at hbx;cases hbx
    |some k=>exact(apj.1 hr).1
   obtain⟨ds',k',h3,_,_,h6⟩:=zJ ops Hy Rs p _ hl hok hst H (api hpl);have hsn:=(zL EX hbx).2.1;rw[h3]at hsn hbx;simp only[aqj]at hsn hbx;rw[hsn]at h6;have:=h6.1;rw[hbx]at this;exact this
  unfold u6 at hst';rw[hks]at hst';simp only[apD]at hst';have nT:=hst'.1;obtain⟨hI,Gt⟩:=Gt;unfold ObS at Gt;rw[hbx]at Gt;cases hop:o.op<;>rw[hop]at Gt nT<;>simp only at Gt
  case store ty X Y=>
   cases hdp:(ops[p]?).bind (·.dst)with
   |none=>rw[hdp]at nT;cases X<;>cases Y<;>simp at nT
   |some d'=>
    cases hdx:(ops[x]?).bind (·.dst)with
    |none=>rw[hdp,hdx]at nT;cases X<;>cases Y<;>simp at nT
    |some e'=>
     rw[hdp,hdx]at nT;cases X<;>try (simp at nT;done)
     cases Y<;>try (simp at nT;done)
     rename_i d e;simp only[apD,auU,auk]at nT;obtain⟨⟨⟨⟨⟨⟨rfl,rfl⟩,hdn⟩,hen⟩,hcp⟩,hcx⟩,hdst⟩:=nT;obtain⟨vp,hfp,hvp⟩:=hd p (by simpa using hcp);obtain⟨vx,hfx,hvx⟩:=hd x (by simpa using hcx);obtain⟨cs,rfl,hsz,hone⟩:=Gt.2 w vx hvx;obtain⟨b,rfl,hb,_,hz,_⟩:=S.bx p t z i x hbx vp hfp;have hz':=hz (S.none' i hn);have get:∀{q:Nat} {v:Value} {dd:Tmp},(ops[q]?).bind (·.dst)=some dd->f[q]?=some (some v)->dd<a0.tmps.size->a.eval (.tmp dd)=v:=fun {q v dd} h1 h2 h3=>by
      rw[S.act];cases hq:ops[q]? with
      |none=>rw[hq]at h1;cases h1
      |some oq=>rw[hq]at h1;exact zK ops f a0 q oq hap hq h1 h2 h3
     have hk':∀w v,at' Rs i w v:=fun w v=>by
      unfold at';rw[hk];exact hI w v
     exact wp_store_row ty _ _ hop b cs (get hdp hfp hdn) (get hdx hfx hen) t z hz' (by rw[Gt.1,hsz]) hsz.symm hone (hKK _ _ (hK _ _ _ (S.av hN hap EX ho hn VS (hbi.trans hks) hfp hfx hb hbx htz hz' hsz hk')))
def u7:List Oper→Nat→Bool
 | [],_=>true
 |o::r,i=>o.after.all (fun e=>!Region.binds .any e ||decide (e.on<i)) && u7 r (i+1)
theorem Ia:∀(l:List Oper) (k j:Nat) (o:Oper),u7 l k=true→l[j]?=some o→∀e∈o.after,Region.binds .any e=true→e.on<k+j
 | [],_,_,_,_,h=>by simp at h
 |p::r,k,0,o,h,e=>by
  simp only[apw,auj]at e;subst e;unfold u7 at h;rw[apD,aq3]at h;intro e he hb;have:=h.1 e he;rw[hb]at this;simpa using this
 |p::r,k,j+1,o,h,e=>by
  unfold u7 at h;rw[apD]at h;intro e' he hb;have:=Ia r (k+1) j o h.2 (by simpa using e) e' he hb;omega
theorem VT (hd:u7 ops 0=true)(hs:listed.size=ops.length)(hr:Region.ready .any ops.toArray listed=[]):∀i:Nat,i<ops.length->listed[i]?=some true:=by
 intro i;induction i using Nat.strongRecOn with
 |ind i ih=>
  intro hi;have hz:i<listed.size:=by rw[hs];exact hi
  rw[aqk hz];cases hb:listed[i]with
  |true=>rfl
  |false=>
   exfalso;have:i∈Region.ready .any ops.toArray listed:=by
    refine mem_ready.2 ⟨by rw[aqm,aqk hz,hb];rfl,ops[i],by rw[apm,api hi],fun e he hb'=>?_⟩;have h1:=Ia ops 0 i _ hd (api hi) e he hb';have h2:=ih e.on ab ab;rw[aqm,h2];rfl
   rw[hr]at this;cases this
theorem Qa {Rs:List (Kd N T)}{w:World}{F:List (Option Value)}(EX:vU Rs=true)(hct:∀(s a x:Nat) (t:TypeId) (z:Array Value),(Rs[s]?).bind (·.av)=some (a,x)->(Rs[a]?).bind (·.bx)=some (t,z,s,x)->∃b cs,F[a]?=some (some (.pointer (some ⟨b,0,none⟩)))/\F[x]?=some (some (.agg cs))/\w.heap[b]?=some (.cells cs t (0,0))):
  ∀(ops:List Oper) (kr:List (Kd N T)) (f:List (Option Value)) (vs:List Value) (a:Act),ops.length=kr.length->f.length=ops.length->F=vs.map some++f->Rs.drop vs.length=kr->(∀(i:Nat) (k:Kd N T),kr[i]?=some k->(∃v,f[i]?=some (some v)/\k.rk.R w v)/\∀p x,k.av=some (p,x)->p<vs.length+i/\x<vs.length+i)->Fin' Q Rs w vs ops kr a->Q .normal (nS ops f a) w
 | [],_,[],vs,a,_,_,_,_,_,h=>by
  unfold Fin' at h;exact h
 | [],_,_::_,vs,a,_,h,_,_,_,_=>by simp at h
 |_::_,[],_,vs,_,h,_,_,_,_,_=>by simp at h
 |_::_,_::_,[],vs,_,_,h,_,_,_,_=>by simp at h
 |o::r,k::kr,p::s,vs,a,hl,hf,hF,hR,hv,h=>by
  obtain⟨⟨v,e,hk⟩,hs⟩:=hv 0 k rfl;simp only[apw,auj]at e;subst e;have hRk:Rs[vs.length]?=some k:=by
   have:=congrArg (·[0]?) hR;simpa using this
  have hR2:Rs.drop (vs++[v]).length=kr:=by
   rw[apo,apW,<-aqG,hR];rfl
  have fit:∀{j:Nat} {u:Value},j<vs.length->F[j]?=some (some u)->vs.getD j undef=u:=fun {j u} hj hu=>by
   rw[hF,apA (by simpa using hj),apT]at hu;cases hq:vs[j]? with
   |none=>rw[hq]at hu;cases hu
   |some y=>
    rw[hq]at hu;simp only[ap7,auj]at hu;rw[apV,hq,hu];rfl
  unfold Fin' at h;refine Qa EX hct r kr s (vs++[v]) _ (by simpa using hl) (by simpa using hf) (by rw[hF];simp) hR2 (fun i k' h'=>?_) (h v hk ?_)
  ·obtain⟨h1,h2⟩:=hv (i+1) k' (by simpa using h');refine⟨by simpa using h1,fun p x hpx=>?_⟩;have:=h2 p x hpx;rw[apo,apW];omega
  ·cases hks:k.av with
   |none=>trivial
   |some px=>
    obtain⟨p,x⟩:=px;obtain⟨hp,hx⟩:=hs p x hks;obtain⟨t,z,hb⟩:=P9 EX (s:=vs.length) (a:=p) (x:=x) (by rw[hRk];exact hks);obtain⟨b,cs,e1,e2,e3⟩:=hct _ _ _ _ _ (by rw[hRk];exact hks) hb;refine⟨b,cs,fit ab e1,fit ab e2,?_⟩;rw[hb];exact e3
def abo (Rs:List (Kd N T)):Bool:=(List.range Rs.length).all fun s=>match (Rs[s]?).bind (·.av)with
 |some (a,x)=>decide (a<s) && decide (x<s)
 |none=>true
theorem Es {Rs:List (Kd N T)}{w0:World}(hN:N=w0.heap.size)(hl:ops.length=Rs.length)(hap:gV ops=true)(EX:vU Rs=true)(hlt:abo Rs=true)(hok:rV ops ops Hy=true)(hst:u6 ops a0.tmps.size ops Hy Rs=true)(H:Rt P Rs w0 ops a0 ops Hy Rs)(hdn:u7 ops 0=true)(hF:∀w,Gr w0 w->Fin' Q Rs w [] ops Rs a0):∀(n:Nat) (listed:Array Bool) (a:Act) (w:World) (f:List (Option Value)),left listed<=n->St Rs w0 ops a0 listed a w f->wpAny P .any ops.toArray Q n listed a w:=by
 have fin:∀(listed:Array Bool) (a:Act) (w:World) (f:List (Option Value)),St Rs w0 ops a0 listed a w f->Region.ready .any ops.toArray listed=[]->Q .normal a w:=fun listed a w f S h=>by
  have all:=VT hdn S.ls h;have val:∀i:Nat,i<ops.length->∃v,f[i]?=some (some v)/\at' Rs i w v:=fun i hi=>S.P6 i (all i hi)
  rw[S.act];refine Qa (F:=f) EX (fun s p x t z h1 h2=>?_) ops Rs f [] a0 hl S.len rfl rfl (fun i k hk=>⟨?_,fun p x hpx=>?_⟩) (hF w S.gr)
  ·have lt:∀{i:Nat} {α:Type} {y:α} {g:Kd N T->Option α},(Rs[i]?).bind g=some y->i<ops.length:=fun {i α y g} h=>by
    rw[hl];cases hr:Rs[i]? with
    |none=>rw[hr]at h;cases h
    |some k=>exact(apj.1 hr).1
   obtain⟨v,e,_⟩:=val p (lt h2);obtain⟨u,e2,_⟩:=val s (lt h1);obtain⟨b,rfl,_,_,_,h4⟩:=S.bx p t z s x h2 v e;obtain⟨cs,e3,e4⟩:=h4 u e2;exact⟨b,cs,e,e3,e4⟩
  ·obtain⟨v,e,q⟩:=val i (by rw[hl];exact(apj.1 hk).1);unfold at' at q;rw[hk]at q;exact⟨v,e,q⟩
  ·unfold abo at hlt;rw[apM]at hlt;have:=hlt i (aqZ.2 (apj.1 hk).1);rw[hk]at this;simp only[aqj,hpx,apD,auk]at this;simpa using this
 intro n;induction n with
 |zero=>
  intro listed a w f hn S;have h:Region.ready .any ops.toArray listed=[]:=by
   cases hr:Region.ready .any ops.toArray listed with
   |nil=>rfl
   |cons i r=>
    have:=Hu (ops:=ops) (i:=i) S.ls (by rw[hr];exact aqM ..);omega
  exact⟨h,fin listed a w f S h⟩
 |succ n ih=>
  intro listed a w f hn S;refine⟨fin listed a w f S,fun i hi=>S.op hN hl hap EX hok hst H hi fun a' w' f' S'=>ih _ a' w' f' ?_ S'⟩;have:=Hu (ops:=ops) S.ls hi;omega
theorem ve (Rs:List (Kd w.heap.size T))(Hy:List (List Nat))(hm:P.follows .mixedOrders=true)(hc:(gV ops && rV ops ops Hy && u7 ops 0 && ops.length == Rs.length && vU Rs && abo Rs && u6 ops a.tmps.size ops Hy Rs)=true)(H:Rt P Rs w ops a ops Hy Rs)(hF:∀w',Gr w w'->Fin' Q Rs w' [] ops Rs a):(Code.region id ops.toArray true).wp P Q a w:=by
 simp only[apD,auU]at hc;obtain⟨⟨⟨⟨⟨⟨c1,c2⟩,c3⟩,c4⟩,c5⟩,c6⟩,c7⟩:=hc;refine wp_region_any hm ?_;have e:ops.toArray.size=ops.length:=ap2 ..;rw[e];refine Es rfl c4 c1 c5 c6 c2 c7 H c3 hF ops.length _ a _ (List.replicate ops.length none) ?_ ⟨aq,aq,?_,(Gr.refl w).drew,fun i hi=>?_,fun i hi=>?_,fun i o _ hi=>?_,fun i t z s x _ v hv=>?_⟩
 ·unfold left;rw[Array.toList_replicate,List.countP_replicate];simp
 ·have:∀(l:List Oper) (n:Nat),nS l (List.replicate n none) a=a:=by
   intro l;induction l with
   |nil=>intro n;cases n<;>rfl
   |cons o r ih=>intro n;cases n with
    |zero=>rfl
    |succ n=>exact ih n
  exact(this _ _).symm
 ·rw[aqX]at hi;split at hi<;>simp at hi
 ·rw[aqX]at hi;split at hi
  ·rename_i h;rw[aqK,at7 h]
  ·simp at hi
 ·rw[aqX]at hi;split at hi<;>simp at hi
 ·rw[aqK]at hv;split at hv<;>simp at hv
end
end Rg
namespace Vp
variable[Inhabited Hc.bN]
open Mm Hh Hc Mc Ud As En
variable{w w' w1 w2:World}{ty g B:Nat}{M H P U:Value}{p:Pl}
theorem Qb {K K0:Nat}{hs:List Hv}(X:Mx w K M H m hs)(h:K0<=K):Mx w K0 M H m hs:=by
 have up:∀{e sz n:Nat} {v:Value} {xs:List Value},w.ownsRow K e sz v n xs->w.ownsRow K0 e sz v n xs:=fun q=>by
  rcases q with⟨a,b|⟨k,cap,cur,hv,hk,r⟩⟩
  ·exact⟨a,.inl b⟩
  ·exact⟨a,.inr ⟨k,cap,cur,hv,apr h hk,r⟩⟩
 exact⟨up X.mem,up X.hrt,X.ok⟩
theorem fE.pre {D:Value×Value×Value}{r:Pl×List Nat}(F:Fx (Dm g D.1 D.2.1 D.2.2) (Dm g M H P) w w1)(h:fE ty B w1 g M H P r e w'):fE ty B w g D.1 D.2.1 D.2.2 r e w':=by obtain⟨he,M',H',P',U',X,F2⟩:=h;exact⟨he,M',H',P',U',X,F.trans F2⟩
theorem abp {kF:List Uv}{oa:Option Addr}(X:Pr ty B w g M H P U p)(hw:wrong p.m p.hs p.ps=0)(hus:fr'=true→kF=gD (ik p) (jS (ik p) (nums p.ps)))(G:Gr w w9)(R:Ry w9 w.heap.size (.slice ma (aL (ik p) (nums p.ps)).m.length mc) (.slice ha (aL (ik p) (nums p.ps)).hs.length hc) oa (aL (ik p) (nums p.ps)))(hu:fr'=true->∃ua uc,U'=.slice ua kF.length uc/\kF.length<=uc/\Un w9 ua kF.length kF)(un:∃ua n uc,U'=.slice ua n uc)(Q:Ch g w9 w')(hb:w'.heap[g]?=some (.cells #[.slice ma (aL (ik p) (nums p.ps)).m.length mc,.slice ha (aL (ik p) (nums p.ps)).hs.length hc,.slice none 0 0,U',.bool fr'] ty (0,0)))(he:e=.returned (str (UQ (aL (ik p) (nums p.ps))))):fE ty B w g M H P (nJ p kF fr') e w':=by
 have ok:lg ⟨(aL (ik p) (nums p.ps)).m,(aL (ik p) (nums p.ps)).hs,[],kF,fr'⟩:=by
  have:=aau X.ok (us:=kF) (fr:=fr') (fun _ h=>hus h);unfold nJ at this;rw[at7 hw]at this;exact this
 have e0:nJ p kF fr'=(⟨(aL (ik p) (nums p.ps)).m,(aL (ik p) (nums p.ps)).hs,[],kF,fr'⟩,UQ (aL (ik p) (nums p.ps))):=by unfold nJ;rw[at7 hw]
 rw[e0];obtain⟨X2,F2⟩:=Pr.ran (w2:=w') X G Q hb R.mx ok hu un;exact⟨he,_,_,_,_,X2,F2⟩
structure Rf (p:Pl) (E K:Nat) (w:World) (x:Value×Value×Value×Value):Prop where
 one:x.1.oneCell'=true/\x.2.1.oneCell'=true/\x.2.2.1.oneCell'=true/\x.2.2.2.oneCell'=true
 yes:E=0->wrong p.m p.hs p.ps=0/\∃ma mc ha hc oa oc,x=(.slice ma (aL (ik p) (nums p.ps)).m.length mc,.slice ha (aL (ik p) (nums p.ps)).hs.length hc,.slice oa (aL (ik p) (nums p.ps)).out.length oc,.int .i64 (aL (ik p) (nums p.ps)).steps)/\Ry w K x.1 x.2.1 oa (aL (ik p) (nums p.ps))
theorem Rf.gr {E K:Nat}{x:Value×Value×Value×Value}(h:Rf p E K w x)(G:Gr w w'):Rf p E K w' x:=
 ⟨h.one,fun e=>by
  obtain⟨h1,ma,mc,ha,hc,oa,oc,h2,h3⟩:=h.yes e;exact⟨h1,ma,mc,ha,hc,oa,oc,h2,h3.gr G⟩⟩
theorem Rf.row {E K b:Nat}{x:Value×Value×Value×Value}{o cs:Array Value}{t:Nat}(h:Rf p E K w x)(hb:w.heap[b]?=some (.cells o t (0,0)))(ht:t≠5/\t≠43)(hn:Rg.Nn w b):Rf p E K (w.setRow b cs) x:=
 ⟨h.one,fun e=>by
  obtain⟨h1,ma,mc,ha,hc,oa,oc,h2,h3⟩:=h.yes e;exact⟨h1,ma,mc,ha,hc,oa,oc,h2,h3.row hb ht.1 ht.2 hn⟩⟩
def Uf (p:Pl) (E:Nat) (w:World) (u:Value):Prop:=(∃ua n uc,u=.slice ua n uc)/\(E=0->∃ua uc,u=.slice ua (gD (ik p) (jS (ik p) (nums p.ps))).length uc/\(gD (ik p) (jS (ik p) (nums p.ps))).length<=uc/\Un w ua (gD (ik p) (jS (ik p) (nums p.ps))).length (gD (ik p) (jS (ik p) (nums p.ps))))
theorem Uf.gr {E:Nat}{u:Value}(h:Uf p E w u)(G:Gr w w'):Uf p E w' u:=
 ⟨h.1,fun e=>by
  obtain⟨ua,uc,h1,h2,h3⟩:=h.2 e;exact⟨ua,uc,h1,h2,h3.of G⟩⟩
theorem Uf.row {E b:Nat}{u:Value}{cs:Array Value}(h:Uf p E w u)(hn:Rg.Nn w b):Uf p E (w.setRow b cs) u:=
 ⟨h.1,fun e=>by
  obtain⟨ua,uc,h1,h2,h3⟩:=h.2 e;exact⟨ua,uc,h1,h2,abl h3 hn⟩⟩
structure Bf (p:Pl) (n K:Nat) (w:World) (x:Value×Value):Prop where
 one:x.1.oneCell'=true/\x.2.oneCell'=true
 yes:n<=p.us.length->∃ma mc ha hc,x=(.slice ma (bE (p.hs,p.m) (p.us.drop (p.us.length-n))).2.length mc,.slice ha (bE (p.hs,p.m) (p.us.drop (p.us.length-n))).1.length hc)/\Mx w K x.1 x.2 (bE (p.hs,p.m) (p.us.drop (p.us.length-n))).2 (bE (p.hs,p.m) (p.us.drop (p.us.length-n))).1
theorem Bf.gr {n K:Nat}{x:Value×Value}(h:Bf p n K w x)(G:Gr w w'):Bf p n K w' x:=
 ⟨h.one,fun e=>by
  obtain⟨ma,mc,ha,hc,h1,h2⟩:=h.yes e;exact⟨ma,mc,ha,hc,h1,h2.of G⟩⟩
theorem Bf.row {n K b:Nat}{x:Value×Value}{o cs:Array Value}{t:Nat}(h:Bf p n K w x)(hb:w.heap[b]?=some (.cells o t (0,0)))(ht:t≠5/\t≠43):Bf p n K (w.setRow b cs) x:=
 ⟨h.one,fun e=>by
  obtain⟨ma,mc,ha,hc,h1,h2⟩:=h.yes e;exact⟨ma,mc,ha,hc,h1,h2.to fun k o t f ht' e=>sV (by rcases ht' with rfl|rfl;exact aa e hb ht.1.symm;exact aa e hb ht.2.symm)⟩⟩
section
variable(hT : ∀ x ∈ T, (x.1 ≠ 5 /\ x.1 ≠ 43) /\ Rg.zn x.2 =true)
def VU (p:Pl) (E:Nat):Rg.Kd N T:=Rg.zW (fun x:(Value×Value×Value×Value)×Value=>.tuple #[.agg #[x.1.1,x.1.2.1,x.1.2.2.1,x.1.2.2.2],x.2,.int .i64 E]) (fun w x=>Rf p E N w x.1/\Uf p E w x.2) (fun g h=>⟨h.1.gr g,h.2.gr g⟩) fun hb ht hn h=>⟨h.1.row hb (hT _ ht).1 (hn (hT _ ht).2),h.2.row (hn (hT _ ht).2)⟩
def Ib (p:Pl) (E:Nat):Rg.Kd N T:=Rg.zW (fun x:(Value×Value×Value×Value)×Value×Value×Value×Value=>.tuple #[.agg #[x.1.1,x.1.2.1,x.1.2.2.1,x.1.2.2.2],.agg #[x.2.1,x.2.2.1,x.2.2.2.1,x.2.2.2.2],.int .i64 E]) (fun w x=>Rf p E N w x.1/\x.2.1.oneCell'=true/\x.2.2.1.oneCell'=true/\x.2.2.2.1.oneCell'=true/\x.2.2.2.2.oneCell'=true) (fun g h=>⟨h.1.gr g,h.2⟩) fun hb ht hn h=>⟨h.1.row hb (hT _ ht).1 (hn (hT _ ht).2),h.2⟩
def kSh (p:Pl) (E:Nat):Rg.Kd N T:=Rg.zW (fun x:Value×Value×Value×Value=>.agg #[x.1,x.2.1,x.2.2.1,x.2.2.2]) (fun w x=>Rf p E N w x) (fun g h=>h.gr g) fun hb ht hn h=>h.row hb (hT _ ht).1 (hn (hT _ ht).2)
def kUs (p:Pl) (E:Nat):Rg.Kd N T:=Rg.zW (fun u:Value=>u) (fun w u=>Uf p E w u) (fun g h=>h.gr g) fun _ ht hn h=>h.row (hn (hT _ ht).2)
def kCa:Rg.Kd N T:=Rg.zW (fun x:Value×Value×Value×Value=>.agg #[x.1,x.2.1,x.2.2.1,x.2.2.2]) (fun _ x=>x.1.oneCell'=true/\x.2.1.oneCell'=true/\x.2.2.1.oneCell'=true/\x.2.2.2.oneCell'=true) (fun _ h=>h) fun _ _ _ h=>h
def kBk (p:Pl) (n E:Nat):Rg.Kd N T:=Rg.zW (fun x:Value×Value=>.tuple #[.agg #[x.1,x.2],.int .i64 E]) (fun w x=>Bf p n N w x) (fun g h=>h.gr g) fun hb ht _ h=>h.row hb (hT _ ht).1
def kMa (p:Pl) (n:Nat):Rg.Kd N T:=Rg.zW (fun x:Value×Value=>.agg #[x.1,x.2]) (fun w x=>Bf p n N w x) (fun g h=>h.gr g) fun hb ht _ h=>h.row hb (hT _ ht).1
end
theorem Pr.parts (X:Pr ty B w g (.slice ma p.m.length mc) (.slice ha p.hs.length hc) (.slice pa p.ps.length pc) U p):Mem w ma p.m.length p.m/\(ma=none->mc=0)/\Hs w ha p.hs.length p.hs/\Ps w pa p.ps.length p.ps:=by obtain⟨xB,mc',ha',hc',pa',pc',ua,un,uc,e1,e2,e3,_,h1,h2,h3,h4⟩:=X.open;injection e1 with a1 _ a2;injection e2 with b1 _ b2;injection e3 with c1 _ c2;subst a1 a2 b1 b2 c1 c2;exact⟨h1,h2,h3,h4⟩
theorem xQ (p:Pl):((wrong p.m p.hs p.ps).toNat:Int)=wrong p.m p.hs p.ps:=by have:=(mI p.m p.hs p.ps).1;omega
section
variable{W:World}
theorem aiP (X:Pr ty B w g (.slice ma p.m.length mc) (.slice ha p.hs.length hc) (.slice pa p.ps.length pc) U p)(T:Tz B w)(G:Gr w W):Calls prog 10 #[.agg #[.slice ma p.m.length mc,.slice ha p.hs.length hc],.slice pa p.ps.length pc] W fun e w'=>∃x:(Value×Value×Value×Value)×Value,e=.returned (.tuple #[.agg #[x.1.1,x.1.2.1,x.1.2.2.1,x.1.2.2.2],x.2,.int .i64 ((wrong p.m p.hs p.ps).toNat:Nat)])/\(Rf p (wrong p.m p.hs p.ps).toNat w.heap.size w' x.1/\Uf p (wrong p.m p.hs p.ps).toNat w' x.2)/\Gr W w':=by
 obtain⟨Mm,hcap,VV,Pp⟩:=X.parts;have en:=xQ p;by_cases hw:wrong p.m p.hs p.ps=0
 ·refine(PZ mc hc pc p.m.length (T.gr G) (Mm.of G) hcap (VV.of G) (Pp.of G) hw).mono ?_;rintro e w' ⟨a,b,c,d,e1,f,h,i,rfl,R,h1,h2,G2⟩;refine⟨((_,_,_,_),_),by rw[hw];rfl,⟨⟨⟨rfl,rfl,rfl,rfl⟩,fun _=>⟨hw,a,b,c,d,e1,f,rfl,⟨Qb R.mx G.size,R.out⟩⟩⟩,⟨⟨_,_,_,rfl⟩,fun _=>⟨h,i,rfl,h2,h1⟩⟩⟩,G2⟩
 ·have b1:=X.ok.m4;have b2:=X.ok.h4;have b3:=X.ok.p3;refine(UZ mc hc pc p.m.length rfl (VV.of G) (Pp.of G) ab ab ab hw).mono ?_;rintro e w' ⟨rfl,G2⟩;have h0:(wrong p.m p.hs p.ps).toNat≠0:=ab;exact⟨((_,_,_,_),_),by rw[en],⟨⟨⟨rfl,rfl,rfl,rfl⟩,fun h=>absurd h h0⟩,⟨⟨_,_,_,rfl⟩,fun h=>absurd h h0⟩⟩,G2⟩
theorem aiQ {room:Nat}(hr:room<4294967296)(X:Pr ty B w g (.slice ma p.m.length mc) (.slice ha p.hs.length hc) (.slice pa p.ps.length pc) U p)(T:Tz B w)(G:Gr w W):Calls prog 12 #[.agg #[.slice ma p.m.length mc,.slice ha p.hs.length hc],.slice pa p.ps.length pc,.int .i64 (room:Int)] W fun e w'=>∃x:(Value×Value×Value×Value)×Value×Value×Value×Value,e=.returned (.tuple #[.agg #[x.1.1,x.1.2.1,x.1.2.2.1,x.1.2.2.2],.agg #[x.2.1,x.2.2.1,x.2.2.2.1,x.2.2.2.2],.int .i64 (EU p room:Nat)])/\(Rf p (EU p room) w.heap.size w' x.1/\x.2.1.oneCell'=true/\x.2.2.1.oneCell'=true/\x.2.2.2.1.oneCell'=true/\x.2.2.2.2.oneCell'=true)/\Gr W w':=by
 obtain⟨Mm,hcap,VV,Pp⟩:=X.parts;by_cases hE:EU p room=0
 ·obtain⟨hw,h6⟩:wrong p.m p.hs p.ps=0/\room<=64:=by
   have hw:=mI p.m p.hs p.ps;unfold EU at hE;split at hE
   ·rename_i h1;split at hE<;>omega
   ·omega
  refine(P5 mc hc pc p.m.length (T.gr G) (Mm.of G) hcap (VV.of G) (Pp.of G) hw ab ab).mono ?_;rintro e w' ⟨a,b,c,d,e1,f,c1,c2,c3,c4,c5,c6,rfl,R,G2⟩;exact⟨((_,_,_,_),_,_,_,_),by rw[hE];rfl,⟨⟨⟨rfl,rfl,rfl,rfl⟩,fun _=>⟨hw,a,b,c,d,e1,f,rfl,⟨Qb R.mx G.size,R.out⟩⟩⟩,rfl,rfl,rfl,rfl⟩,G2⟩
 ·have b1:=X.ok.m4;have b2:=X.ok.h4;have b3:=X.ok.p3;have H:Calls prog 12 #[.agg #[.slice ma p.m.length mc,.slice ha p.hs.length hc],.slice pa p.ps.length pc,.int .i64 (room:Int)] W fun e w'=>∃ma1 mc1 ha1 hc1 oa1 oc1 k2 k4,e=.returned (.tuple #[.agg #[.slice ma1 0 mc1,.slice ha1 0 hc1,.slice oa1 0 oc1,.int .i64 0],.agg #[.int .i64 0,.slice k2 0 k4,.int .i64 0,.int .i64 0],.int .i64 (EU p room:Nat)])/\Gr W w':=by
   letI:Inhabited Hc.bN:=⟨⟨w.heap.size⟩⟩
   have h0:aaj w ma ha pa p.m.length mc p.hs.length hc p.ps.length pc (room:Int) (EU p room:Nat):=by
    unfold EU at hE ⊢;by_cases hw:wrong p.m p.hs p.ps=0
    ·rw[at7 hw]at hE ⊢;by_cases h6:64<room
     ·rw[at7 h6]at hE ⊢;exact UJ mc hc pc p.m.length (room:Int) Mm hcap VV Pp hw (.inr ⟨ab,ab⟩) (apn _)
     ·rw[at6 h6]at hE;exact absurd rfl hE
    ·rw[at6 hw,xQ];exact aak mc hc pc p.m.length (room:Int) rfl VV Pp ab ab ab hw
   refine(h0 W G).mono ?_;rintro e w' ⟨v,a,c,rfl,⟨x1,x2,x3,x4,x5,x6,rfl,_⟩,G2⟩;exact⟨x1,x2,x3,x4,x5,x6,a,c,rfl,G2⟩
  refine H.mono ?_;rintro e w' ⟨x1,x2,x3,x4,x5,x6,a,c,rfl,G2⟩;exact⟨((_,_,_,_),_,_,_,_),rfl,⟨⟨⟨rfl,rfl,rfl,rfl⟩,fun h=>absurd h hE⟩,rfl,rfl,rfl,rfl⟩,G2⟩
end
structure Ran (ty f:Nat):Prop where
 y:∀{w:World} {g:Nat} {M H P U:Value} {oa:Option Addr} {n oc st:Nat} {fr:Value} {ma ha:Option Addr} {mn mc hn hc:Nat} {l:List Nat},w.heap[g]?=some (.cells #[M,H,P,U,fr] ty (0,0))->Ns .u32 w oa n l->(∀b o,oa=some ⟨b,o,none⟩->0<n->b≠g)->(∀x∈l,x<4294967296)->n<=200000->st<=200000->(∀{W:World},Ch g w W->gz W)->
  Calls prog f #[.pointer (some ⟨g,0,none⟩),.agg #[.slice ma mn mc,.slice ha hn hc,.slice oa n oc,.int .i64 st],.int .i64 0] w fun e w'=>e=.returned (str (bH JQ (st::l)))/\w'.heap[g]?=some (.cells #[.slice ma mn mc,.slice ha hn hc,.slice none 0 0,U,fr] ty (0,0))/\Ch g w w'
 n:∀{w:World} {g e:Nat} {v0 v1 v2 v3:Value},e≠0->e<=100->(v0.oneCell'=true/\v1.oneCell'=true/\v2.oneCell'=true/\v3.oneCell'=true)->(∀{W:World},Gr w W->gz W)->
  Calls prog f #[.pointer (some ⟨g,0,none⟩),.agg #[v0,v1,v2,v3],.int .i64 e] w fun e' w'=>e'=.returned (str (bH zu [e]))/\Gr w w'
theorem Ran.yes {f:Nat}{fr':Bool}{kF:List Uv}{U':Value}{w9 w8:World}{x:Value×Value×Value×Value}(HR:Ran ty f)(X:Pr ty B w g M H P U p)(T:Tz B w)(hus:fr'=true→kF=gD (ik p) (jS (ik p) (nums p.ps)))(G:Gr w w9)(R:Rf p 0 w.heap.size w9 x)(hu:fr'=true->∃ua uc,U'=.slice ua kF.length uc/\kF.length<=uc/\Un w9 ua kF.length kF)(un:∃ua n uc,U'=.slice ua n uc)(Q:Ch g w9 w8)(hb:w8.heap[g]?=some (.cells #[M,H,P,U',.bool fr'] ty (0,0))):Calls prog f #[.pointer (some ⟨g,0,none⟩),.agg #[x.1,x.2.1,x.2.2.1,x.2.2.2],.int .i64 0] w8 (fE ty B w g M H P (nJ p kF fr')):=by
 obtain⟨hw,ma,mc,ha,hc,oa,oc,rfl,R⟩:=R.yes rfl;have og:=PU X.ok hw;have h1:=og.few;have h2:=og.st;have N9:=aeB R.out (fun x hx=>(og.w x hx).1);have X9:=X.gr G;have nb:∀b o,oa=some ⟨b,o,none⟩->0<(aL (ik p) (nums p.ps)).out.length->b≠g:=fun b o e h0=>by
  obtain⟨b',o',e',_,hc'⟩:=R.out.spot h0;rw[e]at e';injection e' with e';injection e' with e1 e2;subst e1 e2;have:=hc' 0 h0;rintro rfl;exact(X9.Xy _ _ this _).2 rfl
 have N8:Ns .u32 w8 oa (aL (ik p) (nums p.ps)).out.length ((aL (ik p) (nums p.ps)).out.map Int.toNat):=⟨N9.len,fun h0=>by
  obtain⟨b,o,e,hb',hc'⟩:=N9.spot h0;exact⟨b,o,e,apq hb' Q.size,fun t x hx=>(aui (a:=⟨b,o+t,none⟩) (Q.block b hb' (fun h=>by injection h with h;exact nb b o e h0 h))).trans (hc' t x hx)⟩⟩
 refine(HR.y hb N8 (fun b o e h0=>nb b o e h0) (fun x hx=>?_) ab ab (fun {W} q=>(T.below ?_).PY)).mono ?_
 ·obtain⟨y,hy,rfl⟩:=apK.1 hx;have:=og.w y hy;omega
 ·have:Ch g w W:=((Ch.refl g w).gr G).trans (Q.trans q);exact this.below X.bg X.le
 ·rintro e w' ⟨he,hb',Q'⟩;exact abp X hw hus G R hu un (Q.trans Q') hb' he
theorem VW (X:Pr ty B w g M H P U p)(hf:p.fr=true)(hn:n≤p.us.length)(G:Gr w w9)(Y:Mx w9 w.heap.size (.slice ma (bE (p.hs,p.m) (p.us.drop (p.us.length-n))).2.length mc) (.slice ha (bE (p.hs,p.m) (p.us.drop (p.us.length-n))).1.length hc) (bE (p.hs,p.m) (p.us.drop (p.us.length-n))).2 (bE (p.hs,p.m) (p.us.drop (p.us.length-n))).1)(Q:Ch g w9 w')(hb:w'.heap[g]?=some (.cells #[.slice ma (bE (p.hs,p.m) (p.us.drop (p.us.length-n))).2.length mc,.slice ha (bE (p.hs,p.m) (p.us.drop (p.us.length-n))).1.length hc,P,U,.bool false] ty (0,0)))(he:e=.returned (str Cf)):fE ty B w g M H P (kW p [n]) e w':=by
 obtain⟨_,_,h1,h2,h3⟩:=zy X.ok hf hn;have e0:kW p [n]=({ p with hs:=(bE (p.hs,p.m) (p.us.drop (p.us.length-n))).1,m:=(bE (p.hs,p.m) (p.us.drop (p.us.length-n))).2,fr:=false },Cf):=by simp only[kW,at7 (show p.fr=true/\n<=p.us.length from⟨hf,hn⟩)]
 rw[e0];have ok:lg { p with m:=(bE (p.hs,p.m) (p.us.drop (p.us.length-n))).2,hs:=(bE (p.hs,p.m) (p.us.drop (p.us.length-n))).1,fr:=false }:=
  ⟨by show(bE _ _).2.length<=_;rw[h3];exact X.ok.m4,by show(bE _ _).1.length<=_;rw[h2];exact X.ok.h4,h1,X.ok.p3,X.ok.pk,fun h=>(by cases h),fun h=>(by cases h)⟩
 obtain⟨X2,F2⟩:=Pr.aa0 (w2:=w') X G Q hb Y ok;exact⟨he,_,_,_,_,X2,F2⟩
theorem aeQ (o:lg p)(hf:p.fr=true)(hn:n<=p.us.length)(Mm:Mem w ma p.m.length p.m)(hcap:ma=none->mc=0)(H:Hs w ha p.hs.length p.hs)(U:Us w ua p.us.length p.us)(hlc:p.us.length<=uc):Calls prog 17 #[.agg #[.slice ma p.m.length mc,.slice ha p.hs.length hc],.slice ua p.us.length uc,.int .i64 n] w fun e w'=>∃xB mc' ha' hc',e=.returned (.tuple #[.agg #[.slice xB (bE (p.hs,p.m) (p.us.drop (p.us.length-n))).2.length mc',.slice ha' (bE (p.hs,p.m) (p.us.drop (p.us.length-n))).1.length hc'],.int .i64 0])/\Mx w' w.heap.size (.slice xB (bE (p.hs,p.m) (p.us.drop (p.us.length-n))).2.length mc') (.slice ha' (bE (p.hs,p.m) (p.us.drop (p.us.length-n))).1.length hc') (bE (p.hs,p.m) (p.us.drop (p.us.length-n))).2 (bE (p.hs,p.m) (p.us.drop (p.us.length-n))).1/\Gr w w':=by
 obtain⟨h0,_,h1,h2,h3⟩:=zy o hf hn;have hy:U6 p.m.length p.hs p.us (n:Int)=0:=by
  have h4:=(o.ne hf).1;unfold U6;rw[at6,at6 (by rw[h0];simp),ak];unfold jL;rw[auq ⟨o.m4,h4,o.h4⟩,apM.2 fun h hm=>(o.hok h hm).2];simp
 refine(J7 Mm hcap H U (by have:=(o.ne hf).2;omega) hlc hy).mono ?_;rintro e w' ⟨v,rfl,h,G⟩;rw[apG]at h;obtain⟨M',H',rfl,X⟩:=U8 h (apn _);obtain⟨xB,mc',ha',hc',rfl,rfl⟩:=ru X;exact⟨_,_,_,_,rfl,X,G⟩
theorem ubk {n:Nat}{W:World}(X:Pr ty B w g (.slice ma p.m.length mc) (.slice ha p.hs.length hc) (.slice pa p.ps.length pc) (.slice ua p.us.length uc) p)(hf:p.fr=true)(HUs:Us w ua p.us.length p.us)(hlc:p.us.length<=uc)(G:Gr w W):Calls prog 17 #[.agg #[.slice ma p.m.length mc,.slice ha p.hs.length hc],.slice ua p.us.length uc,.int .i64 n] W fun e w'=>∃x:Value×Value,e=.returned (.tuple #[.agg #[x.1,x.2],.int .i64 ((if n<=p.us.length then 0 else 3:Nat):Nat)])/\Bf p n w.heap.size w' x/\Gr W w':=by
 obtain⟨Mm,hcap,VV,Pp⟩:=X.parts;by_cases hn:n<=p.us.length
 ·refine(aeQ X.ok hf hn (Mm.of G) hcap (VV.of G) (HUs.of G) hlc).mono ?_;rintro e w' ⟨a,b,c,d,rfl,Y,G2⟩;exact⟨(_,_),by rw[at7 hn];rfl,⟨⟨rfl,rfl⟩,fun _=>⟨a,b,c,d,rfl,Qb Y G.size⟩⟩,G2⟩
 ·have b1:=X.ok.m4;have b2:=X.ok.h4;have b3:=(X.ok.ne hf).2;have hz:=(zy X.ok hf (apF _)).1;have hk:U6 p.m.length p.hs p.us (n:Int)=3:=by
   have h4:=(X.ok.ne hf).1;unfold U6;rw[at6,at6 (by rw[hz];simp),dU];unfold jL;rw[auq ⟨X.ok.m4,h4,X.ok.h4⟩,apM.2 fun h hm=>(X.ok.hok h hm).2];simp
  have h0:=PE (ma:=ma) (mc:=mc) (hc:=hc) (lc:=uc) (mn:=p.m.length) (st:=(n:Int)) (VV.of G) (HUs.of G) ab ab ab (by rw[hk];omega);rw[hk]at h0;refine h0.mono ?_;rintro e w' ⟨rfl,G2⟩;exact⟨(_,_),by rw[at6 hn];rfl,⟨⟨rfl,rfl⟩,fun h=>absurd h hn⟩,G2⟩
end Vp
namespace Vp
variable[Inhabited Hc.bN]
open Mm Hh Hc Mc Ud As En Kc
variable{p:Pl}
theorem UI:(prog.info? 47).map (·.size)=some 4:=al
theorem wF:(prog.info? 54).map (·.size)=some 4:=al
theorem abq {a b c d:Value}(h:a.oneCell'=true/\b.oneCell'=true/\c.oneCell'=true/\d.oneCell'=true):(#[a,b,c,d]:Array Value).all (·.oneCell')=true:=by simp[h.1,h.2.1,h.2.2.1,h.2.2.2]
theorem all2 {a b:Value}(h:a.oneCell'=true/\b.oneCell'=true):(#[a,b]:Array Value).all (·.oneCell')=true:=by simp[h.1,h.2]
def tS:List (TypeId×Array Value):=[(47,#[.slice none 0 0,.slice none 0 0,.slice none 0 0,.int .i64 0])]
def tSC:List (TypeId×Array Value):=[(47,#[.slice none 0 0,.slice none 0 0,.slice none 0 0,.int .i64 0]),(54,#[.int .i64 0,.slice none 0 0,.int .i64 0,.int .i64 0])]
def tM:List (TypeId×Array Value):=[(28,#[.slice none 0 0,.slice none 0 0])]
theorem Qc:∀x∈tS,(x.1≠5/\x.1≠43)/\Rg.zn x.2=true:=an
theorem Qd:∀x∈tSC,(x.1≠5/\x.1≠43)/\Rg.zn x.2=true:=an
theorem notM:∀x∈tM,(x.1≠5/\x.1≠43)/\Rg.zn x.2=true:=an
theorem Qe (h:Rg.Ct w t (.pointer (some ⟨b,0,none⟩)) (.agg cs)):w.heap[b]?=some (.cells cs t (0,0)):=by obtain⟨b',cs',e1,e2,h⟩:=h;injection e1 with e1;injection e1 with e1;injection e1 with e1;injection e2 with e2;subst e1 e2;exact h
theorem Cx {c u:Nat}{o q:Array Value}(h:w.heap[b]?=some (.cells o t (0,0)))(h':w.heap[c]?=some (.cells q u (0,0)))(e:t≠u):b≠c:=aa h h' e
theorem nG:Ran 71 78:=⟨fun hb N hx hl hn hs T=>VH hb N hx hl hn hs T,fun h0 h1 hv T=>aa9 h0 h1 hv T⟩
theorem zb (X:Pr 71 B w g M H P U p)(T:Tz B w):Calls prog 47 #[.pointer (some ⟨g,0,none⟩)] w (fE 71 B w g M H P (aap p [])):=by
 obtain⟨ma,mc,ha,hc0,pa,pc,ua,un,uc,rfl,rfl,rfl,rfl, -⟩:=X.open;have z0:=iE X.blk;have z1:=iY X.blk;have z2:=E8 X.blk;have hgl:=(gs X.blk).1;have HU:Hid (∀W:World,Gr w W->_):=fun W G=>aiP X T G
 have HX:=kH X;have HT:=kH T;have HE:Hid ((wrong p.m p.hs p.ps).toNat<=100/\((wrong p.m p.hs p.ps).toNat≠0->nJ p (gD (ik p) (jS (ik p) (nums p.ps))) true=(p,bH zu [(wrong p.m p.hs p.ps).toNat]))):=⟨by have:=mI p.m p.hs p.ps;omega,fun h=>by unfold nJ;rw[ak]⟩;obtain⟨RES,hq⟩:∃r,aap p []=r:=⟨_,rfl⟩;rw[hq];have HQ:Hid (nJ p (gD (ik p) (jS (ik p) (nums p.ps))) true=RES):=hq;generalize(wrong p.m p.hs p.ps).toNat=E at *
 go_enter func47,ntmps47;go_wp2_with fail;refine Rg.ve (T:=tS) [Rg.Val (.pointer (some ⟨g,0,none⟩)),Rg.Val (.pointer (some ⟨g,0,none⟩)),Rg.Val (.pointer (some ⟨g,0,none⟩)),Rg.Val (.agg #[.slice ma p.m.length mc,.slice ha p.hs.length hc0]),Rg.Val (.pointer (some ⟨g,0,none⟩)),Rg.Val (.pointer (some ⟨g,0,none⟩)),Rg.Val (.pointer (some ⟨g,2,none⟩)),Rg.Val (.slice pa p.ps.length pc),VU Qc p E,VU Qc p E,kSh Qc p E,kUs Qc p E,Rg.Val (.int .i64 (E:Nat)),Rg.Rp 47 #[.slice none 0 0,.slice none 0 0,.slice none 0 0,.int .i64 0] 14 10,Rg.Rq 13 10,kUs Qc p E,Rg.Val (.int .i64 (E:Nat))] [[],[0],[1],[2],[],[4],[5],[6],[3,7],[8],[9],[9],[9],[],[13,10],[11],[12]] al al ?_ ?_
 ·simp only[Rg.Rt,Rg.ObS,Rg.dep,Rg.Ob,Rg.at',Rg.Val,Rg.Fa,Rg.zW,Rg.Rp,Rg.Rq,Rg.made,Rg.nS,List.replicate,apH,ap8,apC,apy,apw,apI,aqj,Act.put,apl,Rg.inT,tS,tSC,tM,apx,apE,true_or,or_true,au7,VU,kSh,kUs];refine⟨?_,?_,?_,?_,?_,?_,?_,?_,?_,?_,?_,?_,?_,?_,?_,?_,?_,trivial⟩
  case refine_15=>exact⟨fun _ _=>trivial,UI,fun w v ⟨x,e,h⟩=>⟨_,e,rfl,abq h.one⟩⟩
  all_goals intro W hW
  all_goals (have q0:=(hW.cell _ (by exact hgl)).trans z0;have q1:=(hW.cell _ (by exact hgl)).trans z1;have q2:=(hW.cell _ (by exact hgl)).trans z2)
  case refine_9=>
   rintro _ rfl _ rfl K hK;go_simp;refine(HU W hW).mono ?_;rintro e w' ⟨x,rfl,h,G⟩;exact hK.out _ _ G ⟨x,rfl,h⟩ trivial
  all_goals intros
  all_goals rename_i K hK
  all_goals first|(rename_i hh;obtain⟨_,rfl,hf⟩:=hh)|skip
  all_goals subst_vars
  all_goals go_simp
  all_goals first|exact hK.out _ _ (Gr.refl _) rfl trivial|exact hK.out _ _ br ⟨_,rfl,hW.size⟩ ⟨_,rfl,hW.size,at5 _ _⟩|exact hK.out _ _ (Gr.refl _) ⟨_,rfl,hf⟩ trivial|exact hK.out _ _ (Gr.refl _) ⟨_,rfl,hf.1⟩ trivial|exact hK.out _ _ (Gr.refl _) ⟨_,rfl,hf.2⟩ trivial
 ·intro w9 G9;simp only[Rg.Fin',Rg.Val,Rg.Fa,Rg.zW,Rg.Rp,Rg.Rq,ave,Act.put,apl,apC,apy,apw,apI,aqj,ap7,aqw,apO,apZ,arc,ard,VU,kSh,kUs];rintro _ rfl _ rfl _ rfl _ rfl _ rfl _ rfl _ rfl _ rfl v8-v9-_ ⟨⟨s0,s1,s2,s3⟩,rfl,R⟩ v11-_ rfl _ ⟨b,rfl,hb0⟩ v14 hct _ ⟨u,rfl,hu⟩ _ rfl;have hb:=Qe hct;have y0:=iE hb;have y1:=iY hb;have y2:=E8 hb;have y3:=QQ hb;have hk:=(HX.gr G9).blk;have x3:=QQ hk;have x4:=E9 hk;have f3:w9.frozen? ⟨g,3,none⟩=false:=lh hk;have f4:w9.frozen? ⟨g,4,none⟩=false:=lh hk;have ne:=Cx hk hb an;have ne2:=ne.symm;have HRR:=kH R;have HUU:=kH hu;have HK:=kH hk;have HG:=kH G9;obtain⟨⟨a1,n1,c1,rfl⟩,_⟩:=hu;by_cases hE:E=0
  ·subst hE;have HA:=Ran.yes (M:=.slice ma p.m.length mc) (H:=.slice ha p.hs.length hc0) (P:=.slice pa p.ps.length pc) (U:=.slice ua un uc) (w8:=(w9.setCell ⟨g,3,none⟩ (.slice a1 n1 c1)).setCell ⟨g,4,none⟩ (.bool true)) (fr':=true) (kF:=gD (ik p) (jS (ik p) (nums p.ps))) (U':=.slice a1 n1 c1) (x:=(s0,s1,s2,s3)) nG HX HT (fun _=>rfl) HG HRR (fun _=>HUU.2 rfl) ⟨_,_,_,rfl⟩ (((Ch.refl g w9).setCell 3 _).setCell 4 _) (by
    have e:=hss (i:=3) (v:=.slice a1 n1 c1) HK;rw[hss e];simp)
   rw[HQ.out]at HA;have HRA:=kH HA;go_wp2_with fail;refine HRA.mono ?_;rintro e w' ⟨rfl,h⟩;go_wp2_with fail;go_ret;exact⟨rfl,h⟩
  ·have HRA:Hid (Calls prog 78 #[.pointer (some ⟨g,0,none⟩),.agg #[s0,s1,s2,s3],.int .i64 (E:Nat)] w9 fun e w'=>e=.returned (str (bH zu [E]))/\Gr w9 w'):=nG.n hE HE.1 HRR.one fun G=>(HT.gr (HG.trans G)).PY
   have hE':¬(E:Int)=0:=ab;rw[HE.out.2 hE]at HQ;go_wp2_with fail;refine HRA.mono ?_;rintro e w' ⟨rfl,h⟩;have HGE:=kH (HG.trans h);go_wp2_with fail;go_ret;rw[<-HQ.out];exact⟨rfl,_,_,_,_,HX.gr HGE,Fx.bD HGE⟩
theorem Qf (p:Pl)(room:Nat):EU p room<=100/\rR p [room]=if EU p room=0 then nJ { p with fr:=false } p.us false else({ p with fr:=false },bH zu [EU p room]):=by
 have hw:=mI p.m p.hs p.ps;unfold EU;by_cases h:wrong p.m p.hs p.ps=0
 ·by_cases h6:64<room
  ·simp[rR,h,h6]
  ·simp[rR,h,h6]
 ·have h0:¬(wrong p.m p.hs p.ps).toNat=0:=ab;refine⟨by rw[at6 h];omega,?_⟩;simp only[rR,at6 h,at6 h0,at6 (show¬(wrong p.m p.hs p.ps=0/\64<room)from fun q=>h q.1),nJ]
theorem Qg {room:Nat}(hr:room<4294967296)(X:Pr 71 B w g M H P U p)(T:Tz B w):Calls prog 48 #[.pointer (some ⟨g,0,none⟩),.int .u32 room] w (fE 71 B w g M H P (rR p [room])):=by
 obtain⟨ma,mc,ha,hc0,pa,pc,ua,un,uc,rfl,rfl,rfl,rfl, -⟩:=X.open;obtain⟨X1,F1⟩:=X.down;have f4:w.frozen? ⟨g,4,none⟩=false:=lh X.blk;have z4:=E9 X.blk;have kL:Hid _:=X1;have rY:Hid (Fx _ _ _ _):=F1;have HT1:Hid (Tz B (w.setCell ⟨g,4,none⟩ (.bool false))):=T.below (F1.below (fun k hk=>(X.dom k hk).1) X.le);have hwr:IntKind.i64.wrap (room:Int)=(room:Int):=by rw[auQ];omega
 have HU0:Hid (∀W1:World,Pr 71 B W1 g (.slice ma p.m.length mc) (.slice ha p.hs.length hc0) (.slice pa p.ps.length pc) (.slice ua un uc) { p with fr:=false }->Tz B W1->∀W:World,Gr W1 W->Calls prog 12 #[.agg #[.slice ma p.m.length mc,.slice ha p.hs.length hc0],.slice pa p.ps.length pc,.int .i64 (room:Int)] W _):=fun W1 X T W G=>aiQ (p:={ p with fr:=false }) hr X T G
 obtain⟨hE1,hq⟩:=Qf p room;obtain⟨RES,hq2⟩:∃r,rR p [room]=r:=⟨_,rfl⟩;rw[hq2];rw[hq2]at hq;have HQ:Hid (RES=_):=hq;have HE:Hid (EU p room<=100):=hE1;clear X X1 F1 T hq hq2 hE1;rw[show EU { p with fr:=false } room=EU p room from rfl]at HU0;generalize EU p room=E at *
 go_enter func48,ntmps48;go_wp2_with fail;refine aT (fun W1=>Pr 71 B W1 g (.slice ma p.m.length mc) (.slice ha p.hs.length hc0) (.slice pa p.ps.length pc) (.slice ua un uc) { p with fr:=false }/\Fx (Dm g (.slice ma p.m.length mc) (.slice ha p.hs.length hc0) (.slice pa p.ps.length pc)) (Dm g (.slice ma p.m.length mc) (.slice ha p.hs.length hc0) (.slice pa p.ps.length pc)) w W1/\Tz B W1) ⟨kL,rY,HT1⟩ ?_;clear kL rY HT1 z4 f4;rintro w1 ⟨X,F,T⟩;have HU:Hid _:=HU0 w1 X T;have HX:Hid (Pr 71 B w1 g (.slice ma p.m.length mc) (.slice ha p.hs.length hc0) (.slice pa p.ps.length pc) (.slice ua un uc) { p with fr:=false }):=X;have HF:Hid (Fx (Dm g (.slice ma p.m.length mc) (.slice ha p.hs.length hc0) (.slice pa p.ps.length pc)) (Dm g (.slice ma p.m.length mc) (.slice ha p.hs.length hc0) (.slice pa p.ps.length pc)) w w1):=F;have HT:Hid (Tz B w1):=T;have z0:=iE X.blk;have z1:=iY X.blk;have z2:=E8 X.blk;have hgl:g<w1.heap.size:=(gs X.blk).1;clear X F T HU0;refine Rg.ve (T:=tSC) [Rg.Val (.pointer (some ⟨g,0,none⟩)),Rg.Val (.pointer (some ⟨g,0,none⟩)),Rg.Val (.pointer (some ⟨g,0,none⟩)),Rg.Val (.agg #[.slice ma p.m.length mc,.slice ha p.hs.length hc0]),Rg.Val (.pointer (some ⟨g,0,none⟩)),Rg.Val (.pointer (some ⟨g,0,none⟩)),Rg.Val (.pointer (some ⟨g,2,none⟩)),Rg.Val (.slice pa p.ps.length pc),Rg.Val (.int .u32 (room:Int)),Rg.Val (.int .i64 (room:Int)),Ib Qd { p with fr:=false } E,Ib Qd { p with fr:=false } E,kSh Qd { p with fr:=false } E,kCa,Rg.Val (.int .i64 (E:Nat)),Rg.Rp 47 #[.slice none 0 0,.slice none 0 0,.slice none 0 0,.int .i64 0] 17 12,Rg.Rp 54 #[.int .i64 0,.slice none 0 0,.int .i64 0,.int .i64 0] 18 13,Rg.Rq 15 12,Rg.Rq 16 13,Rg.Val (.int .i64 (E:Nat))] [[],[0],[1],[2],[],[4],[5],[6],[],[8],[3,7,9],[10],[11],[11],[11],[],[],[15,12],[16,13],[14]] al al ?_ ?_
 ·simp only[Rg.Rt,Rg.ObS,Rg.dep,Rg.Ob,Rg.at',Rg.Val,Rg.Fa,Rg.zW,Rg.Rp,Rg.Rq,Rg.made,Rg.nS,List.replicate,apH,ap8,apC,apy,apw,apI,aqj,Act.put,apl,Rg.inT,tS,tSC,tM,apx,apE,true_or,or_true,au7,Ib,kSh,kCa];refine⟨?_,?_,?_,?_,?_,?_,?_,?_,?_,?_,?_,?_,?_,?_,?_,?_,?_,?_,?_,?_,trivial⟩
  case refine_18=>exact⟨fun _ _=>trivial,UI,fun w v ⟨x,e,h⟩=>⟨_,e,rfl,abq h.one⟩⟩
  case refine_19=>exact⟨fun _ _=>trivial,wF,fun w v ⟨x,e,h⟩=>⟨_,e,rfl,abq h⟩⟩
  all_goals intro W hW
  all_goals (have q0:=(hW.cell _ (by exact hgl)).trans z0;have q1:=(hW.cell _ (by exact hgl)).trans z1;have q2:=(hW.cell _ (by exact hgl)).trans z2)
  case refine_11=>
   rintro _ rfl _ rfl _ rfl K hK;go_simp;refine(HU W hW).mono ?_;rintro e w' ⟨x,rfl,h,G⟩;exact hK.out _ _ G ⟨x,rfl,h⟩ trivial
  all_goals intros
  all_goals rename_i K hK
  all_goals first|(rename_i hh;obtain⟨_,rfl,hf⟩:=hh)|skip
  all_goals subst_vars
  all_goals go_simp
  all_goals first|exact hK.out _ _ (Gr.refl _) rfl trivial|exact hK.out _ _ br ⟨_,rfl,hW.size⟩ ⟨_,rfl,hW.size,at5 _ _⟩|exact hK.out _ _ (Gr.refl _) ⟨_,rfl,hf⟩ trivial|exact hK.out _ _ (Gr.refl _) ⟨_,rfl,hf.1⟩ trivial|exact hK.out _ _ (Gr.refl _) ⟨_,rfl,hf.2⟩ trivial
 ·intro w9 G9;simp only[Rg.Fin',Rg.Val,Rg.Fa,Rg.zW,Rg.Rp,Rg.Rq,ave,Act.put,apl,apC,apy,apw,apI,aqj,ap7,aqw,apO,apZ,arc,ard,Ib,kSh,kCa];rintro _ rfl _ rfl _ rfl _ rfl _ rfl _ rfl _ rfl _ rfl _ rfl _ rfl v10-v11-_ ⟨⟨s0,s1,s2,s3⟩,rfl,R⟩ v13-_ rfl _ ⟨b,rfl,hb0⟩ v16-v17 hct v18-_ rfl;have hb:=Qe hct;have y0:=iE hb;have y1:=iY hb;have y2:=E8 hb;have y3:=QQ hb;have hk:=(HX.gr G9).blk;have HRR:Hid _:=R;have HK:Hid _:=hk;have HG:Hid (Gr w1 w9):=G9;clear hct hb hb0 hk G9 R;by_cases hE:E=0
  ·subst hE;have HA:=Ran.yes (p:={ p with fr:=false }) (fr':=false) (kF:=p.us) (x:=(s0,s1,s2,s3)) nG HX HT (fun h=>by cases h) HG HRR (fun h=>by cases h) ⟨ua,un,uc,rfl⟩ (Ch.refl g w9) HK;rw[at7 rfl]at HQ;rw[<-HQ.out]at HA;have HRA:Hid (Calls prog 78 #[.pointer (some ⟨g,0,none⟩),.agg #[s0,s1,s2,s3],.int .i64 0] _ _):=HA;clear HA;go_wp2_with fail;refine HRA.mono ?_;rintro e w' ⟨rfl,h⟩;have HA:Hid (fE 71 B w1 g (.slice ma p.m.length mc) (.slice ha p.hs.length hc0) (.slice pa p.ps.length pc) RES (.returned (str RES.2)) w'):=⟨rfl,h⟩;clear h;go_wp2_with fail;go_ret;exact fE.pre (D:=(_,_,_)) HF HA
  ·have HRA:Hid (Calls prog 78 #[.pointer (some ⟨g,0,none⟩),.agg #[s0,s1,s2,s3],.int .i64 (E:Nat)] w9 fun e w'=>e=.returned (str (bH zu [E]))/\Gr w9 w'):=nG.n hE HE HRR.one fun G=>(HT.gr (HG.trans G)).PY
   have hE':¬(E:Int)=0:=ab;rw[at6 hE]at HQ;go_wp2_with fail;refine HRA.mono ?_;rintro e w' ⟨rfl,h⟩;have HGE:Hid (Gr w1 w'):=HG.trans h;clear h;go_wp2_with fail;go_ret;rw[HQ.out];exact fE.pre (D:=(_,_,_)) HF ⟨rfl,_,_,_,_,HX.gr HGE,Fx.bD HGE⟩
theorem Cy (h:¬(p.fr=true/\n<=p.us.length)):kW p [n]=(p,aQ):=by simp only[kW,at6 h]
theorem abt (hr:n<4294967296)(X:Pr 71 B w g M H P U p)(hf:p.fr=true):Calls prog 54 #[.pointer (some ⟨g,0,none⟩),.int .u32 n] w (fE 71 B w g M H P (kW p [n])):=by
 obtain⟨N,n1,n2,n3,n4⟩:=X.row;obtain⟨ua,uc,rfl,hlc,HUs⟩:=(n4 hf).us;obtain⟨ma,mc,ha,hc0,pa,pc,_,_,_,rfl,rfl,rfl, -⟩:=X.open;have z0:=iE X.blk;have z1:=iY X.blk;have z3:=QQ X.blk;have z4:=E9 X.blk;have hgl:g<w.heap.size:=(gs X.blk).1;rw[hf]at z4;have HU:Hid (∀W:World,Gr w W->_):=fun W G=>ubk (n:=n) X hf HUs hlc G
 have HX:Hid _:=X;have hwr:IntKind.i64.wrap (n:Int)=(n:Int):=by rw[auQ];omega
 have HP:Hid (∀(w9 w':World) (x:Value×Value),n<=p.us.length->Gr w w9->Bf p n w.heap.size w9 x->Ch g w9 w'->w'.heap[g]?=some (.cells #[x.1,x.2,.slice pa p.ps.length pc,.slice ua p.us.length uc,.bool false] 71 (0,0))->fE 71 B w g (.slice ma p.m.length mc) (.slice ha p.hs.length hc0) (.slice pa p.ps.length pc) (kW p [n]) (.returned (str Cf)) w'):=fun w9 w' x hn G R Q hb=>by
  obtain⟨ma1,mc1,ha1,hc1,rfl,Y⟩:=R.yes hn;exact VW X hf hn G Y Q hb rfl
 have HN:Hid (¬n<=p.us.length->kW p [n]=(p,aQ)):=fun h=>Cy fun q=>h q.2
 have HFF:Hid (p.fr=true):=hf;obtain⟨E,hE⟩:∃E:Nat,E=if n<=p.us.length then 0 else 3:=⟨_,rfl⟩
 rw[<-hE]at HU;have HE:Hid (E=_):=hE;clear X n1 n2 n3 n4 HUs hlc N hE hf;generalize kW p [n]=RES at *
 go_enter func54,ntmps54;go_wp2_with fail;refine Rg.ve (T:=tM) [Rg.Val (.pointer (some ⟨g,0,none⟩)),Rg.Val (.pointer (some ⟨g,0,none⟩)),Rg.Val (.pointer (some ⟨g,0,none⟩)),Rg.Val (.agg #[.slice ma p.m.length mc,.slice ha p.hs.length hc0]),Rg.Val (.pointer (some ⟨g,0,none⟩)),Rg.Val (.pointer (some ⟨g,0,none⟩)),Rg.Val (.pointer (some ⟨g,3,none⟩)),Rg.Val (.slice ua p.us.length uc),Rg.Val (.int .u32 (n:Int)),Rg.Val (.int .i64 (n:Int)),kBk notM p n E,kBk notM p n E,kMa notM p n,Rg.Val (.int .i64 (E:Nat)),Rg.Rp 28 #[.slice none 0 0,.slice none 0 0] 15 12,Rg.Rq 14 12,Rg.Val (.int .i64 (E:Nat))] [[],[0],[1],[2],[],[4],[5],[6],[],[8],[3,7,9],[10],[11],[11],[],[14,12],[13]] al al ?_ ?_
 ·simp only[Rg.Rt,Rg.ObS,Rg.dep,Rg.Ob,Rg.at',Rg.Val,Rg.Fa,Rg.zW,Rg.Rp,Rg.Rq,Rg.made,Rg.nS,List.replicate,apH,ap8,apC,apy,apw,apI,aqj,Act.put,apl,Rg.inT,tS,tSC,tM,apx,apE,true_or,or_true,au7,kBk,kMa];refine⟨?_,?_,?_,?_,?_,?_,?_,?_,?_,?_,?_,?_,?_,?_,?_,?_,?_,trivial⟩
  case refine_16=>exact⟨fun _ _=>trivial,Ud.EP,fun w v ⟨x,e,h⟩=>⟨_,e,rfl,all2 h.one⟩⟩
  all_goals intro W hW
  all_goals (have q0:=(hW.cell _ (by exact hgl)).trans z0;have q1:=(hW.cell _ (by exact hgl)).trans z1;have q3:=(hW.cell _ (by exact hgl)).trans z3)
  case refine_11=>
   rintro _ rfl _ rfl _ rfl K hK;go_simp;refine(HU W hW).mono ?_;rintro e w' ⟨x,rfl,h,G⟩;exact hK.out _ _ G ⟨x,rfl,h⟩ trivial
  all_goals intros
  all_goals rename_i K hK
  all_goals first|(rename_i hh;obtain⟨_,rfl,hf⟩:=hh)|skip
  all_goals subst_vars
  all_goals go_simp
  all_goals first|exact hK.out _ _ (Gr.refl _) rfl trivial|exact hK.out _ _ br ⟨_,rfl,hW.size⟩ ⟨_,rfl,hW.size,at5 _ _⟩|exact hK.out _ _ (Gr.refl _) ⟨_,rfl,hf⟩ trivial|exact hK.out _ _ (Gr.refl _) ⟨_,rfl,hf.1⟩ trivial|exact hK.out _ _ (Gr.refl _) ⟨_,rfl,hf.2⟩ trivial
 ·intro w9 G9;simp only[Rg.Fin',Rg.Val,Rg.Fa,Rg.zW,Rg.Rp,Rg.Rq,ave,Act.put,apl,apC,apy,apw,apI,aqj,ap7,aqw,apO,apZ,arc,ard,kBk,kMa];rintro _ rfl _ rfl _ rfl _ rfl _ rfl _ rfl _ rfl _ rfl _ rfl _ rfl v10-v11-_ ⟨⟨s0,s1⟩,rfl,R⟩ _ rfl _ ⟨b,rfl,hb0⟩ v15 hct _ rfl;have hb:=Qe hct;have y0:=iE hb;have y1:=iY hb;have hk:=(HX.gr G9).blk;rw[HFF.out]at hk;have x0:=iE hk;have x1:=iY hk;have x4:=E9 hk;have f0:w9.frozen? ⟨g,0,none⟩=false:=lh hk;have f1:w9.frozen? ⟨g,1,none⟩=false:=lh hk;have f4:w9.frozen? ⟨g,4,none⟩=false:=lh hk;have ne:=Cx hk hb an;have ne2:=ne.symm;have HRR:Hid _:=R;have HK:Hid _:=hk;have HG:Hid (Gr w w9):=G9;obtain⟨o0,o1⟩:=R.one;clear hct hb hb0 hk G9 R;by_cases hn:n<=p.us.length
  ·rw[at7 hn]at HE;obtain rfl:=HE.out;obtain⟨⟨a1,n1,c1,rfl⟩,a2,n2,c2,rfl⟩:(∃a n c,s0=.slice a n c)/\∃a n c,s1=.slice a n c:=by
    obtain⟨_,_,_,_,hx, -⟩:=HRR.out.yes hn;obtain⟨rfl,rfl⟩:=Prod.mk.inj hx;exact⟨⟨_,_,_,rfl⟩,_,_,_,rfl⟩
   have HA:Hid (fE 71 B w g (.slice ma p.m.length mc) (.slice ha p.hs.length hc0) (.slice pa p.ps.length pc) RES (.returned (str Cf)) (((w9.setCell ⟨g,0,none⟩ (.slice a1 n1 c1)).setCell ⟨g,1,none⟩ (.slice a2 n2 c2)).setCell ⟨g,4,none⟩ (.bool false))):=HP.out w9 _ (_,_) hn HG.out HRR.out ((((Ch.refl g w9).setCell 0 _).setCell 1 _).setCell 4 _) (by
    have e0:=hss (i:=0) (v:=.slice a1 n1 c1) HK.out;have e1:=hss (i:=1) (v:=.slice a2 n2 c2) e0;rw[hss e1];simp)
   clear hn HE HRR;go_wp2_with fail;go_ret;exact HA
  ·rw[at6 hn]at HE;obtain rfl:=HE.out;have HQ:Hid (RES=(p,aQ)):=HN.out hn;clear hn HE;go_wp2_with fail;go_ret;rw[HQ.out];exact⟨rfl,_,_,_,_,HX.gr HG,Fx.bD HG⟩
theorem Qh (hr:n<4294967296)(X:Pr 71 B w g M H P U p):Calls prog 54 #[.pointer (some ⟨g,0,none⟩),.int .u32 n] w (fE 71 B w g M H P (kW p [n])):=by
 by_cases hf:p.fr=true
 ·exact abt hr X hf
 have hf':p.fr=false:=by simpa using hf
 have z4:=E9 X.blk;rw[hf']at z4;rw[Cy fun q=>hf q.1];have HX:=kH X;go_enter func54,ntmps54;go_wp2_with fail;go_ret;exact⟨rfl,_,_,_,_,HX,Fx.refl _ _⟩
end Vp
namespace Vp
variable[Inhabited Hc.bN]
open Mm Hh Hc Mc Ud As
variable{p:Pl}
variable{f:Nat×Nat}
theorem abu {K:IntKind}{y:Nat}(h:w.heap[b]?=some (.cells #[.int K x,.int K y] t f)):Ns K w (some ⟨b,0,none⟩) 2 [x,y]:=
 ⟨rfl,fun _=>⟨b,0,rfl,(gs h).1,fun i z hi=>by
  match i,hi with
  |0,hi=>
   simp only[apw,auj]at hi;subst hi;exact iE h
  |1,hi=>
   simp only[apI,apw,auj]at hi;subst hi;exact iY h
  |i+2,hi=>simp at hi⟩⟩
theorem VX {h:Hv}(o:h.Ok)(hb:w.heap[b]?=some (.cells (hA h) t f)):Ns .u32 w (some ⟨b,0,none⟩) 32 (h.regs.map Int.toNat):=
 ⟨by rw[apY,o.len],fun _=>⟨b,0,rfl,(gs hb).1,fun i x hi=>by
  rw[apT]at hi;obtain⟨y,hy,rfl⟩:=aqv.1 hi;have hl:i<32:=by rw[<-o.len];exact(apj.1 hy).1
  have hr:=lC o hl;have e:Hh.rg h i=y:=by unfold Hh.rg;rw[apV,hy];rfl
  have h0:=(o.reg i).1;rw[e]at hr h0;rw[apu,cr hb];show(hL h).toArray[i]?=_
  rw[apm,hr,show((y.toNat:Nat):Int)=y by omega]⟩⟩
theorem aeU {st cs:Nat}(S:Gs w b 3 [[dg st,dg cs],[dg pc],l.map dg])(h1:st<9223372036854775808)(h2:cs<9223372036854775808)(h3:pc<9223372036854775808)(hl:∀x∈l,x<9223372036854775808)(hn:l.length<=500000):Calls prog 51 #[.slice (some ⟨b,0,none⟩) 3 3] w fun e w'=>e=.returned (str (bH (dg st) (cs::pc::l)))/\Gr w w':=by
 have:=jv (c:=3) S aE ab aq (fun x hx=>by
  simp only[aqz,aqT,apz,apR,apE,apK,apx,apB,auw]at hx;rcases hx with(rfl|rfl)|rfl|⟨y,hy,rfl⟩
  ·exact nR h1
  ·exact nR h2
  ·exact nR h3
  ·exact nR (hl y hy))
 rw[sS];simpa using this
structure Ask (p:Pl) (k st cs pc:Nat) (rs:List Nat) (L0:List Value):Prop where
 s:st<10/\cs<10/\pc<4294967296/\rs.length=32
 rw:∀x∈rs,x<4294967296
 len:L0.length=37
 one:L0.toArray.all (·.oneCell')=true
 Oa:∀(W:World) (b:Nat),W.heap[b]?=some (.cells L0.toArray 43 (0,0))->W.cell? ⟨b,35,none⟩=some (.int .i64 (st:Nat))/\W.cell? ⟨b,36,none⟩=some (.int .i64 (cs:Nat))/\W.cell? ⟨b,32,none⟩=some (.int .u32 (pc:Nat))/\Ns .u32 W (some ⟨b,0,none⟩) 32 rs
 res:vR p [k]=bH (dg st) (cs::pc::rs)
theorem VY {ty:Nat}(X:Pr ty B w g M H P U p)(hk:k<p.hs.length):∃gh hc st cs pc rs L0,H=.slice (some ⟨gh,0,none⟩) p.hs.length hc/\w.rangeAt gh (k*37) L0/\Ask p k st cs pc rs L0:=by
 obtain⟨o1,o2⟩:=X.ok.hok _ (sP hk);have ms:0<=(hAt p k).state/\(hAt p k).state<=2/\0<=(hAt p k).cause/\(hAt p k).cause<=6:=by
  unfold may at o2;simp only[auk]at o2;omega
 obtain⟨ma,mc,ha,hc0,pa,pc,ua,un,uc,rfl,rfl,rfl,rfl,_,_,hH,_⟩:=X.open;obtain⟨gh,oh,rfl,he⟩:=Hg X.mx.hrt ab;have hp:=o1.jV;have hp0:=o1.nH;refine⟨gh,hc0,(hAt p k).state.toNat,(hAt p k).cause.toNat,(hAt p k).pc.toNat,(hAt p k).regs.map Int.toNat,hL (hAt p k),rfl,?_,⟨ab,ab,ab,by rw[apY];exact o1.len⟩,fun x hx=>?_,aD o1,?_,fun W b hb=>?_,by simp only[vR,at7 hk]⟩
 ·obtain⟨b,o,e2,_,hc⟩:=hH.spot ab;injection e2 with e2;injection e2 with e3 e4;subst e3 e4;have:=hc k (hAt p k) (by unfold hAt;rw[apV,api hk];rfl);rw[apu]at this;exact this
 ·obtain⟨y,hy,rfl⟩:=apK.1 hx;obtain⟨i,hi⟩:=List.getElem?_of_mem hy;have:=o1.reg i;unfold Hh.rg at this;rw[apV,hi,aqw]at this;omega
 ·rw[List.all_toArray,apM];exact PM _
 ·have hs:=fun(j:Nat)=>aW (h:=hAt p k) o1 j
  have c:∀j:Nat,W.cell? ⟨b,32+j,none⟩=(hL (hAt p k))[32+j]?:=fun j=>by
   rw[cr hb,apm]
  refine⟨(c 3).trans ((hs 3).trans ?_),(c 4).trans ((hs 4).trans ?_),(c 0).trans ((hs 0).trans ?_),VX o1 hb⟩
  ·show some (Value.int .i64 (hAt p k).state)=_
   rw[show(((hAt p k).state.toNat:Nat):Int)=(hAt p k).state by omega]
  ·show some (Value.int .i64 (hAt p k).cause)=_
   rw[show(((hAt p k).cause.toNat:Nat):Int)=(hAt p k).cause by omega]
  ·show some (Value.int .u32 (hAt p k).pc)=_
   rw[show(((hAt p k).pc.toNat:Nat):Int)=(hAt p k).pc by omega]
def Qi (L:List (List Nat)) (n:Nat):Rg.Kd N []:=Rg.Fa (fun x:Option Addr×Nat=>.slice x.1 n x.2) (fun W x=>Ts W x.1 n L/\(x.1=none->x.2=0)) fun g h=>fP h g
theorem VZ (X:Pr 71 B w g M H P U p)(T:∀{W:World},Below B w W->gz W)(hk:k<p.hs.length):Calls prog 49 #[.pointer (some ⟨g,0,none⟩),.int .u32 k] w (fE 71 B w g M H P (p,vR p [k])):=by
 have GU:Hid (Calls prog 77 #[.pointer (some ⟨g,0,none⟩),.int .u32 k] w fun e w'=>e=.returned (.bool true)/\w=w'):=(dE X).mono fun e w' ⟨a,b⟩=>⟨by rw[a];exact congrArg (fun t=>Ending.returned (.bool t)) (auq hk),b⟩
 obtain⟨gh,hc0,st,cs,jV,rs,L0,rfl,hrg,A⟩:=VY X hk;rw[A.res];have HX:=kH X;have HA:=kH A;have HRG:=kH hrg;have z1:=iY X.blk;have h4:=X.ok.h4;have HTG:Hid (∀W,Gr w W->gz W):=fun W G=>T (aun G X.le)
 obtain⟨⟨s1,s2,s3,s4⟩,hrw,hll, -, -, -⟩:=A;have rH:=kH hll;have sJ:Hid (L0.toArray.size=37):=by unfold Hid;rw[ap2];exact hll
 have HJ:Hid (∀(W:World) (b:Nat),Gs W b 3 [[dg st,dg cs],[dg jV],rs.map dg]->_):=fun W b S=>aeU S ab ab ab (fun x hx=>by have:=hrw x hx;omega) ab
 have HRW:=kH hrw;have k0:(k:Int)<(p.hs.length:Int):=ab;generalize p.hs.length=n at *
 generalize hV:str (bH (dg st) (cs::jV::rs))=V at *
 have HV:=kH hV;generalize hD:L0.toArray=D0 at *
 have HD:=kH hD.symm;go_enter func49,ntmps49;go_wp2_with fail;refine GU.mono ?_;rintro e _ ⟨rfl,rfl⟩
 go_wp2_with (first
  |(refine auA rfl 43 _ rfl gh (k*37) rfl L0 _ ?r1 underlying43 rfl (by rw[rH.out];exact Mc.iH) ?_;(case r1=>exact HRG))
  |(refine auf rfl 43 _ _ rfl w.heap.size D0 rfl (by simp[Act.eval,Act.put,HD.out]) 43 (hA ⟨List.replicate 32 0,0,false,0,0,0⟩) ?r3 (by rw[sJ.out];exact Mc.iH) (by rw[sJ.out];rfl) (by rw[HD.out];exact HA.one) ?_;(case r3=>exact at5 w _)))
 refine aT (fun W=>W.heap[w.heap.size]?=some (.cells D0 43 (0,0))/\Gr w W) ⟨aup _ _ _ _ _ (0,0) (at5 w _),ag ((Gr.refl w).alloc _) (apn _) _⟩ ?_;generalize w.heap.size=b5 at *
 rintro w4 ⟨hb,G4⟩;have fC:=kH G4;obtain⟨y0,y1,y2,N4⟩:=HA.Oa w4 b5 (by rw[<-HD.out];exact hb);have HN4:=kH N4;have hw4:=(gs hb).1;refine Rg.ve (T:=[]) [Rg.Val (.pointer (some ⟨b5,35,none⟩)),Rg.Val (.int .i64 st),Rg.Val (.pointer (some ⟨b5,36,none⟩)),Rg.Val (.int .i64 cs),Rg.Ro #[.int .i64 (st:Int),.int .i64 (cs:Int)] 3 2,Qi [dg st,dg cs] 2,Rg.Val (.pointer (some ⟨b5,32,none⟩)),Rg.Val (.int .u32 jV),Rg.Ro #[.int .u32 (jV:Int)] 37 1,Qi [dg jV] 1,Rg.Val (.pointer (some ⟨b5,0,none⟩)),Rg.Val (.slice (some ⟨b5,0,none⟩) 32 32),Qi (rs.map dg) 32,Rg.Fa (fun b:Nat=>.slice (some ⟨b,0,none⟩) 3 3) (fun W b=>Gs W b 3 [[dg st,dg cs],[dg jV],rs.map dg]) (fun g h=>h.of g),Rg.Val V,Rg.Val V] [[],[0],[],[2],[1,3],[4],[],[6],[7],[8],[],[10],[11],[5,9,12],[13],[14]] al al ?_ ?_
 ·simp only[Rg.Rt,Rg.ObS,Rg.dep,Rg.Ob,Rg.at',Rg.Val,Rg.Fa,Rg.zW,Rg.Ro,Rg.made,Rg.nS,List.replicate,apH,ap8,apC,apy,apw,apI,aqj,Act.put,apl,Rg.inT,au7,Qi];refine⟨?_,?_,?_,?_,?_,?_,?_,?_,?_,?_,?_,?_,?_,?_,?_,?_,trivial⟩;all_goals intro W hW
  all_goals (have q0:=(hW.cell _ (by exact hw4)).trans y0;have q1:=(hW.cell _ (by exact hw4)).trans y1;have q2:=(hW.cell _ (by exact hw4)).trans y2)
  case refine_6=>
   rintro _ ⟨b,rfl,hb⟩ K hK;go_simp;refine(Hq (l:=[st,cs]) (abu hb) (fun y hy=>by simp only[apx,apB,auw]at hy;rcases hy with rfl|rfl<;>omega) ab (HTG _ (fC.trans hW))).mono ?_;rintro e w' ⟨a,k,rfl,h,G⟩;exact hK.out _ _ G ⟨(a,k),rfl,h⟩ trivial
  case refine_10=>
   rintro _ ⟨b,rfl,hb⟩ K hK;go_simp;refine(Ht (l:=[jV]) (rq hb) (fun y hy=>by rw[apE.1 hy];omega) ab (HTG _ (fC.trans hW))).mono ?_;rintro e w' ⟨a,k,rfl,h,G⟩;exact hK.out _ _ G ⟨(a,k),rfl,h⟩ trivial
  case refine_13=>
   rintro _ rfl K hK;go_simp;refine(Ht (HN4.of hW) HRW ab (HTG _ (fC.trans hW))).mono ?_;rintro e w' ⟨a,k,rfl,h,G⟩;exact hK.out _ _ G ⟨(a,k),rfl,h⟩ trivial
  case refine_14=>
   rintro _ ⟨⟨a0,k0⟩,rfl,h0⟩ _ ⟨⟨a1,k1⟩,rfl,h1⟩ _ ⟨⟨a2,k2⟩,rfl,h2⟩ K hK;go_simp;exact hK.out _ _ br ⟨_,rfl,gs3 (at5 W _) (fP h0 br) (fP h1 br) (fP h2 br)⟩ trivial
  case refine_15=>
   rintro _ ⟨b,rfl,S⟩ K hK;go_simp;refine(HJ W _ S).mono ?_;rintro e w' ⟨rfl,G⟩;exact hK.out _ _ G rfl trivial
  all_goals intros
  all_goals subst_vars
  all_goals rename_i K hK
  all_goals go_simp
  all_goals first|exact hK.out _ _ (Gr.refl _) rfl trivial|exact hK.out _ _ br ⟨_,rfl,at5 _ _⟩ trivial
 ·intro w' G;simp only[Rg.Fin',Rg.Val,Rg.Fa,Rg.zW,Rg.Ro,Qi,ave,Act.put,apl,apC,apy];rintro _-_-_-_-_-_-_-_-_-_-_-_-_-_-_-v hv;go_wp2_with fail;go_ret;exact⟨congrArg Ending.returned (hv.trans HV.symm),_,_,_,_,HX.gr (fC.trans G),Fx.bD (fC.trans G)⟩
theorem V3 (X:Pr 71 B w g M H P U p)(hk:¬k<p.hs.length):Calls prog 49 #[.pointer (some ⟨g,0,none⟩),.int .u32 k] w (fE 71 B w g M H P (p,vR p [k])):=by
 have e:vR p [k]=aQ:=by simp only[vR,at6 hk]
 rw[e];have GU:Hid (Calls prog 77 #[.pointer (some ⟨g,0,none⟩),.int .u32 k] w fun e w'=>e=.returned (.bool false)/\w=w'):=(dE X).mono fun e w' ⟨a,b⟩=>⟨by rw[a];exact congrArg (fun t=>Ending.returned (.bool t)) (auh hk),b⟩
 have HX:=kH X;go_enter func49,ntmps49;go_wp2_with fail;refine GU.mono ?_;rintro e _ ⟨rfl,rfl⟩;go_wp2_with fail;go_ret;exact⟨rfl,_,_,_,_,HX,Fx.refl _ _⟩
theorem Ke (X:Pr 71 B w g M H P U p)(T:∀{W:World},Below B w W->gz W):Calls prog 49 #[.pointer (some ⟨g,0,none⟩),.int .u32 k] w (fE 71 B w g M H P (p,vR p [k])):=by
 by_cases hk:k<p.hs.length
 ·exact VZ X T hk
 ·exact V3 X hk
end Vp
end Go.Proofs.YtiadhbmnfjfioaaGreatDoor
