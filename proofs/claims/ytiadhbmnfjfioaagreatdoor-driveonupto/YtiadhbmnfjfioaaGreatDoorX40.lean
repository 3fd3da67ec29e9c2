/- ours -/
import Derived.Test.YtiadhbmnfjfioaaGreatDoorX01
set_option linter.unusedVariables false
set_option linter.unusedSimpArgs false
set_option maxHeartbeats 8000000
set_option maxRecDepth 100000
set_option linter.unusedSectionVars false
namespace Go.Proofs.YtiadhbmnfjfioaaGreatDoor
open Go.ChangeShapes Go.WideShapes Go.ChangeAt Go.RowKit
namespace Rg
open Mm

def nS:List Oper→List (Option Value)→Act→Act
 |o::r,some v::s,a=>nS r s (a.put o.dst v)
 |_::r,none::s,a=>nS r s a
 |_,_,a=>a
theorem mJ (a:Act)(d:Option Tmp)(v:Value):(a.put d v).tmps.size=a.tmps.size:=by cases d<;>simp[Act.put]
theorem qm:∀(ops:List Oper) (f:List (Option Value)) (a:Act),(nS ops f a).tmps.size=a.tmps.size
 | [],[],a=>rfl
 | [],_::_,a=>rfl
 |_::_,[],a=>rfl
 |o::r,some v::s,a=>(qm r s _).trans (mJ a _ _)
 |o::r,none::s,a=>qm r s a
theorem eval_put_same {a a':Act}(hs:a.tmps.size=a'.tmps.size)(d:Tmp)(v:Value):(a.put (some d) v).eval (.tmp d)=(a'.put (some d) v).eval (.tmp d):=by simp[Act.eval,Act.put,aqm,arf,hs]
theorem Cr (x:Operand):∀(ops:List Oper) (f g:List (Option Value)) (a a':Act),f.length=g.length->a.tmps.size=a'.tmps.size->a.eval x=a'.eval x->
  (∀(j:Nat) (o:Oper) (d:Tmp),ops[j]?=some o->o.dst=some d->x=.tmp d->f[j]?=g[j]?)->(nS ops f a).eval x=(nS ops g a').eval x
 | [],f,g,a,a',_,_,h,_=>by cases f<;>cases g<;>exact h
 |o::r,[],[],a,a',_,_,h,_=>h
 |o::r,p::s,q::t,a,a',hl,hs,h,hd=>by
  have hr:∀(b b':Act),b.tmps.size=b'.tmps.size->b.eval x=b'.eval x->(nS r s b).eval x=(nS r t b').eval x:=fun b b' e1 e2=>
   Cr x r s t b b' (by simpa using hl) e1 e2 fun j o' d h1 h2 h3=>by simpa using hd (j+1) o' d (by simpa using h1) h2 h3
  by_cases hx:∃d,o.dst=some d/\x=.tmp d
  ·obtain⟨d,h1,rfl⟩:=hx;have e:=hd 0 o d rfl h1 rfl;simp only[apw,auj]at e;subst e;cases p with
   |none=>exact hr _ _ hs h
   |some v=>exact hr _ _ (by rw[mJ,mJ];exact hs) (by rw[h1];exact eval_put_same hs d v)
  ·have hn:∀d,o.dst=some d->x≠.tmp d:=fun d h1 h2=>hx ⟨d,h1,h2⟩
   have k:∀(b:Act) (z:Option Value),(match z with|some v=>b.put o.dst v|none=>b).eval x=b.eval x:=fun b z=>by
    cases z with
    |none=>rfl
    |some v=>exact Act.eval_put hn
   have k2:∀(b:Act) (z:Option Value),(match z with|some v=>b.put o.dst v|none=>b).tmps.size=b.tmps.size:=fun b z=>by
    cases z with
    |none=>rfl
    |some v=>exact mJ _ _ _
   have e1:∀(b:Act) (z:Option Value) (u:List (Option Value)),nS (o::r) (z::u) b=nS r u (match z with|some v=>b.put o.dst v|none=>b):=fun b z u=>by cases z<;>rfl
   rw[e1,e1];exact hr _ _ (by rw[k2,k2];exact hs) (by rw[k,k];exact h)
theorem uZ:∀(ops:List Oper) (f:List (Option Value)) (a:Act) (d:Option Tmp) (v:Value),(∀o∈ops,∀t,o.dst=some t→d≠some t)→(nS ops f a).put d v=nS ops f (a.put d v)
 | [],[],a,d,v,_=>rfl
 | [],_::_,a,d,v,_=>rfl
 |_::_,[],a,d,v,_=>rfl
 |o::r,none::s,a,d,v,h=>uZ r s a d v fun o' m=>h o' (aqx _ m)
 |o::r,some u::s,a,d,v,h=>by
  show(nS r s (a.put o.dst u)).put d v=nS r s ((a.put d v).put o.dst u)
  rw[uZ r s _ d v fun o' m=>h o' (aqx _ m),Act.put_comm a u v fun t ht=>h o (aqM ..) t ht]
def gV:List Oper→Bool
 | []=>true
 |o::r=>r.all (fun o'=>o.dst.isNone ||o.dst !=o'.dst) && gV r
theorem zI:∀(ops:List Oper) (f:List (Option Value)) (a:Act) (i:Nat) (o:Oper) (v:Value),gV ops=true→ops[i]?=some o→f[i]?=some none→(nS ops f a).put o.dst v=nS ops (f.set i (some v)) a
 | [],_,_,_,_,_,_,h,_=>by simp at h
 |_::_,[],_,_,_,_,_,_,h=>by simp at h
 |o::r,p::s,a,0,o',v,ha,ho,hf=>by
  simp only[apw,auj]at ho hf;subst ho hf;unfold gV at ha;rw[apD,apM]at ha;show(nS r s a).put o.dst v=nS r s (a.put o.dst v)
  refine uZ r s a _ v fun o' hm t ht e=>?_
  have:=ha.1 o' hm;rw[e,ht]at this;simp at this
 |o::r,p::s,a,i+1,o',v,ha,ho,hf=>by
  simp only[apI]at ho hf;unfold gV at ha;rw[apD]at ha;cases p with
  |none=>exact zI r s a i o' v ha.2 ho hf
  |some u=>exact zI r s _ i o' v ha.2 ho hf
def zn (z:Array Value):Bool:=z.toList.all fun v=>match v with
 | .int .u8 _=>false
 | .int .u32 _=>false
 |_=>true
def Nn (w:World) (b:Nat):Prop:=∀i v,w.cell? ⟨b,i,none⟩=some v->∀z,v≠.int .u8 z/\v≠.int .u32 z
structure Rk (N:Nat) (T:List (TypeId×Array Value)) where
 R:World->Value->Prop
 st:∀{w w':World} {v:Value},Gr w w'->R w v->R w' v
 sb:∀{w:World} {b:Nat} {o:Array Value} {t:TypeId} {cs:Array Value} {v:Value},N<=b->w.heap[b]?=some (.cells o t (0,0))->(t,o)∈T->(zn o=true->Nn w b)->R w v->R (w.setRow b cs) v
structure Kd (N:Nat) (T:List (TypeId×Array Value)) where
 rk:Rk N T
 bx:Option (TypeId×Array Value×Nat×Nat)
 av:Option (Nat×Nat)
section
variable {N :Nat} {T :List (TypeId × Array Value)}
def Val (x:Value):Kd N T:=⟨⟨fun _ v=>v=x,fun _ h=>h,fun _ _ _ _ h=>h⟩,none,none⟩
def zW {α:Type} (V:α->Value) (F:World->α->Prop) (st:∀{w w':World} {x:α},Gr w w'->F w x->F w' x) (sb:∀{w:World} {b:Nat} {o:Array Value} {t:TypeId} {cs:Array Value} {x:α},w.heap[b]?=some (.cells o t (0,0))->(t,o)∈T->(zn o=true->Nn w b)->F w x->F (w.setRow b cs) x):Kd N T:=⟨⟨fun w v=>∃x,v=V x/\F w x,fun g ⟨x,e,h⟩=>⟨x,e,st g h⟩,fun _ h1 h2 h3 ⟨x,e,h⟩=>⟨x,e,sb h1 h2 h3 h⟩⟩,none,none⟩
def Fa {α:Type} (V:α->Value) (F:World->α->Prop) (st:∀{w w':World} {x:α},Gr w w'->F w x->F w' x):Kd N []:=zW V F st fun _ h=>by cases h
def Rl (c:Array Value) (t:TypeId) (n:Nat):Kd N []:=Fa (fun b:Nat=>.slice (some ⟨b,0,none⟩) n n) (fun W b=>W.heap[b]?=some (.cells c t (0,0))) fun g h=>(g.block _ (gs h).1).trans h
def Rm (t:TypeId) (z:Array Value) (s x:Nat):Kd N T:=⟨⟨fun _ v=>∃b,v=.pointer (some ⟨b,0,none⟩)/\N<=b,fun _ h=>h,fun _ _ _ _ h=>h⟩,some (t,z,s,x),none⟩
def Ro (a x:Nat):Kd N T:=⟨⟨fun _ _=>True,fun _ h=>h,fun _ _ _ _ h=>h⟩,none,some (a,x)⟩
end
section
variable {P :Program} {Q :Exit -> Act -> World -> Prop} {N :Nat} {T :List (TypeId × Array Value)}
def at' (Rs:List (Kd N T)) (j:Nat) (w:World) (v:Value):Prop:=match Rs[j]? with
 |some r=>r.rk.R w v
 |none=>True
theorem aeI {Rs:List (Kd N T)}{j:Nat}{k:Kd N T}{w:World}{v:Value}(hk:Rs[j]?=some k)(h:k.rk.R w v):at' Rs j w v:=by unfold at';rw[hk];exact h
theorem Xy {Rs:List (Kd N T)}{j:Nat}{w w':World}{v:Value}(h:at' Rs j w v)(q:∀k:Kd N T,k.rk.R w v->k.rk.R w' v):at' Rs j w' v:=by
 unfold at' at *
 cases e:Rs[j]? with
 |none=>trivial
 |some k=>rw[e]at h;exact q k h
def dep (Rs:List (Kd N T)) (w:World):List Nat→List (Option Value)→(List (Option Value)→Prop)→Prop
 | [],f,k=>k f
 |j::r,f,k=>∀v,at' Rs j w v->dep Rs w r (f.set j (some v)) k
def made (N:Nat) (w:World) (v:Value):Option (TypeId×Array Value×Nat×Nat)→Prop
 |none=>True
 |some (t,z,_,_)=>∃b,v=.pointer (some ⟨b,0,none⟩)/\N<=b/\w.heap[b]?=some (.cells z t (0,0))
def Ob (P:Program) (ops:List Oper) (a:Act) (o:Oper) (f:List (Option Value)) (w:World) (k:Kd N T):Prop:=∀K:Act->World->Prop,Shut (∀v w',Gr w w'->k.rk.R w' v->made N w' v k.bx->K ((nS ops f a).put o.dst v) w')->Oper.wp P o (nS ops f a) w K (fun _ _ _=>False)
def ObS (P:Program) (Rs:List (Kd N T)) (o:Oper) (a x:Nat):Prop:=match o.op,(Rs[a]?).bind (·.bx)with
 | .store ty _ _,some (t,z,_,_)=>(P.info? ty).map (·.size)=some z.size/\∀w v,at' Rs x w v->∃cs,v=.agg cs/\cs.size=z.size/\cs.all (·.oneCell')=true
 |_,_=>False
def inT (T:List (TypeId×Array Value)):Option (TypeId×Array Value×Nat×Nat)→Prop
 |none=>True
 |some (t,z,_,_)=>(t,z)∈T
def Rp (P:Program) (Rs:List (Kd N T)) (w0:World) (ops:List Oper) (a:Act):List Oper→List (List Nat)→List (Kd N T)→Prop
 |o::r,ds::dr,k::kr=>(match k.av with
  |some (p,x)=>(∀w v,k.rk.R w v)/\ObS P Rs o p x
  |none=>inT T k.bx/\∀w,Gr w0 w->dep Rs w ds (List.replicate ops.length none) fun f=>Ob P ops a o f w k)/\Rp P Rs w0 ops a r dr kr
 |_,_,_=>True
def Ct (w:World) (t:TypeId) (p v:Value):Prop:=∃b cs,p=.pointer (some ⟨b,0,none⟩)/\v=.agg cs/\w.heap[b]?=some (.cells cs t (0,0))
def Fin' (Q:Exit→Act→World→Prop) (Rs:List (Kd N T)) (w:World):List Value→List Oper→List (Kd N T)→Act→Prop
 |vs,o::r,k::kr,a=>∀v,k.rk.R w v->(match k.av with
  |some (p,x)=>Ct w ((((Rs[p]?).bind (·.bx)).map (·.1)).getD 0) (vs.getD p undef) (vs.getD x undef) 
  |none=>True)->Fin' Q Rs w (vs++[v]) r kr (a.put o.dst v)
 |_,_,_,a=>Q .normal a w
def VO (ops:List Oper) (o:Oper) (ds:List Nat):Bool:=
 o.guard.isNone && (match o.op with|.select _ _=>false|_=>true) &&
 ds.all (fun j=>o.after.any fun e=>Region.binds .any e && e.on ==j) &&
 (List.range ops.length).all fun j=>ds.contains j ||match (ops[j]?).bind (·.dst)with
  |some d=>!(o.op.operands.toList.any fun x=>match x with|.tmp t=>t ==d|_=>false)
  |none=>true
def rV (ops:List Oper):List Oper→List (List Nat)→Bool
 |o::r,ds::dr=>VO ops o ds && rV ops r dr
 | [],[]=>true
 |_,_=>false
def vV (Rs:List (Kd N T)):Bool:=
 (List.range Rs.length).all (fun i=>match (Rs[i]?).bind (·.bx)with
  |some (t,z,s,x)=>((Rs[s]?).bind (·.av)) ==some (i,x) && (Rs[i]?).all (·.av.isNone) && (List.range Rs.length).all (fun j=>j ==i ||match (Rs[j]?).bind (·.bx)with
   |some (t',_)=>t' !=t
   |none=>true)
  |none=>true) &&
 (List.range Rs.length).all fun s=>match (Rs[s]?).bind (·.av)with
  |some (a,x)=>(match (Rs[a]?).bind (·.bx)with
   |some (_,_,s',x')=>s' ==s && x' ==x
   |none=>false)
  |none=>true
def u6 (ops:List Oper) (n:Nat):List Oper→List (List Nat)→List (Kd N T)→Bool
 |o::r,ds::dr,k::kr=>(match k.av with
  |some (a,x)=>(match o.op,(ops[a]?).bind (·.dst),(ops[x]?).bind (·.dst)with
   | .store _ (.tmp d) (.tmp e),some d',some e'=>d ==d' && e ==e' && decide (d<n) && decide (e<n) && ds.contains a && ds.contains x && o.dst.isNone
   |_,_,_=>false)
  |none=>true) && u6 ops n r dr kr
 |_,_,_=>true
structure St (Rs:List (Kd N T)) (w0:World) (ops:List Oper) (a0:Act) (listed:Array Bool) (a:Act) (w:World) (f:List (Option Value)):Prop where
 len:f.length=ops.length
 ls:listed.size=ops.length
 act:a=nS ops f a0
 gr:Gr w0 w
 P5:∀i:Nat,listed[i]?=some true->∃v,f[i]?=some (some v)/\at' Rs i w v
 none':∀i:Nat,listed[i]?=some false->f[i]?=some none
 cl:∀(i:Nat) (o:Oper),ops[i]?=some o->listed[i]?=some true->∀e∈o.after,Region.binds .any e=true->listed[e.on]?=some true
 bx:∀(i:Nat) (t:TypeId) (z:Array Value) (s x:Nat),(Rs[i]?).bind (·.bx)=some (t,z,s,x)->∀v,f[i]?=some (some v)->∃b,v=.pointer (some ⟨b,0,none⟩)/\N<=b/\b<w.heap.size/\
  (f[s]?=some none->w.heap[b]?=some (.cells z t (0,0)))/\(∀u,f[s]?=some (some u)->∃cs,f[x]?=some (some (.agg cs))/\w.heap[b]?=some (.cells cs t (0,0)))
theorem P6 {Rs:List (Kd N T)}{w:World}{F:List (Option Value)}{k:List (Option Value)->Prop}:∀(ds:List Nat) (f:List (Option Value)),(∀j∈ds,∃v,F[j]?=some (some v)/\at' Rs j w v)->dep Rs w ds f k->
  ∃g,g.length=f.length/\(∀j:Nat,(j∈ds->j<f.length->g[j]?=F[j]?)/\(j ∉ ds->g[j]?=f[j]?))/\k g
 | [],f,_,h=>⟨f,rfl,fun j=>⟨fun m=>by(cases m),fun _=>rfl⟩,h⟩
 |j::r,f,hd,h=>by
  obtain⟨v,e,hv⟩:=hd j (aqM ..);obtain⟨g,h1,h2,h3⟩:=P6 r (f.set j (some v)) (fun i m=>hd i (aqx _ m)) (h v hv);rw[ap6]at h1;refine⟨g,h1,fun i=>⟨fun m hl=>?_,fun m=>?_⟩,h3⟩
  ·by_cases hi:i∈r
   ·exact(h2 i).1 hi (by rw[ap6];exact hl)
   ·rcases apx.1 m with rfl|m
    ·rw[(h2 i).2 hi,e,aqu hl]
    ·exact absurd m hi
  ·rw[(h2 i).2 fun q=>m (aqx _ q),aq8 fun q=>m (by rw[<-q];exact aqM ..)]
theorem zJ {Rs:List (Kd N T)}{w0:World}{ops:List Oper}{a:Act}{n:Nat}:∀(r:List Oper) (dr:List (List Nat)) (kr:List (Kd N T)) (i:Nat) (o:Oper),r.length=kr.length->rV ops r dr=true->u6 ops n r dr kr=true->Rp P Rs w0 ops a r dr kr->r[i]?=some o->
  ∃ds k,kr[i]?=some k/\VO ops o ds=true/\u6 ops n [o] [ds] [k]=true/\(match k.av with
   |some (p,x)=>(∀w v,k.rk.R w v)/\ObS P Rs o p x
   |none=>inT T k.bx/\∀w,Gr w0 w->dep Rs w ds (List.replicate ops.length none) fun f=>Ob P ops a o f w k)
 | [],_,_,_,_,_,_,_,_,h=>by simp at h
 |_::_,[],_,_,_,_,h,_,_,_=>by simp[rV]at h
 |_::_,_::_,[],_,_,h,_,_,_,_=>by simp at h
 |o::r,ds::dr,k::kr,0,o',hl,hk,hq,h,e=>by
  simp only[apw,auj]at e;subst e;unfold rV at hk;rw[apD]at hk;unfold u6 at hq;rw[apD]at hq;exact⟨ds,k,rfl,hk.1,by unfold u6;rw[apD];exact⟨hq.1,rfl⟩,h.1⟩
 |o::r,ds::dr,k::kr,i+1,o',hl,hk,hq,h,e=>by
  unfold rV at hk;rw[apD]at hk;unfold u6 at hq;rw[apD]at hq;exact zJ r dr kr i o' (by simpa using hl) hk.2 hq.2 h.2 (by simpa using e)
theorem ry {d:Tmp}:∀(ops:List Oper) (f:List (Option Value)) (a:Act),(∀o∈ops,o.dst≠some d)→(nS ops f a).eval (.tmp d)=a.eval (.tmp d)
 | [],[],a,_=>rfl
 | [],_::_,a,_=>rfl
 |_::_,[],a,_=>rfl
 |o::r,none::s,a,h=>ry r s a fun o' m=>h o' (aqx _ m)
 |o::r,some v::s,a,h=>by
  show(nS r s (a.put o.dst v)).eval (.tmp d)=_
  rw[ry r s _ fun o' m=>h o' (aqx _ m)];exact Act.eval_put fun t ht e=>h o (aqM ..) (by injection e with e;rw[e];exact ht)
theorem zK {d:Tmp}{v:Value}:∀(ops:List Oper) (f:List (Option Value)) (a:Act) (i:Nat) (o:Oper),gV ops=true→ops[i]?=some o→o.dst=some d→f[i]?=some (some v)→d<a.tmps.size→(nS ops f a).eval (.tmp d)=v
 | [],_,_,_,_,_,h,_,_,_=>by simp at h
 |_::_,[],_,_,_,_,_,_,h,_=>by simp at h
 |o::r,p::s,a,0,o',ha,ho,hd,hf,hz=>by
  simp only[apw,auj]at ho hf;subst ho hf;unfold gV at ha;rw[apD,apM]at ha;show(nS r s (a.put o.dst v)).eval (.tmp d)=v
  rw[ry r s _ fun o' m e=>?_,hd]
  ·simp[Act.eval,Act.put,aqm,hz]
  ·have:=ha.1 o' m;rw[e,hd]at this;simp at this
 |o::r,p::s,a,i+1,o',ha,ho,hd,hf,hz=>by
  simp only[apI]at ho hf;unfold gV at ha;rw[apD]at ha;cases p with
  |none=>exact zK r s a i o' ha.2 ho hd hf hz
  |some u=>exact zK r s _ i o' ha.2 ho hd hf (by rw[mJ];exact hz)
theorem aeJ {z:Array Value}(h:zn z=true){w:World}{b:Nat}{t:TypeId}(hb:w.heap[b]?=some (.cells z t (0,0))):Nn w b:=by
 intro i v hv y;rw[cr hb]at hv;unfold zn at h;rw[apM]at h;have hm:v∈z.toList:=by
  rw[<-aqD]at hv;exact aps hv
 have:=h v hm;constructor<;>(rintro rfl;simp at this)
theorem zL {Rs:List (Kd N T)}(h:vV Rs=true){i:Nat}{t:TypeId}{z:Array Value}{s x:Nat}(e:(Rs[i]?).bind (·.bx)=some (t,z,s,x)):(Rs[s]?).bind (·.av)=some (i,x)/\(Rs[i]?).bind (·.av)=none/\∀(j:Nat) (t':TypeId) (y:Array Value×Nat×Nat),(Rs[j]?).bind (·.bx)=some (t',y)->j≠i->t'≠t:=by
 unfold vV at h;rw[apD,apM,apM]at h;have hi:i<Rs.length:=by
  cases hr:Rs[i]? with
  |none=>rw[hr]at e;cases e
  |some k=>exact(apj.1 hr).1
 have h1:=h.1 i (aqZ.2 hi);rw[e]at h1;simp only[apD,auU,apM,aqZ]at h1;obtain⟨⟨a1,a5⟩,a4⟩:=h1;refine⟨a1,?_,fun j t' y hj hne ht=>?_⟩
 ·cases hr:Rs[i]? with
  |none=>rfl
  |some k=>rw[hr]at a5;simpa using a5
 ·have hjl:j<Rs.length:=by
   cases hr:Rs[j]? with
   |none=>rw[hr]at hj;cases hj
   |some k=>exact(apj.1 hr).1
  have:=a4 j hjl;rw[hj]at this;simp only[aqV,auU,bne_iff_ne]at this;rcases this with q|q
  ·exact hne q
  ·exact q ht
theorem P8 {Rs:List (Kd N T)}(h:vV Rs=true){s a x:Nat}(e:(Rs[s]?).bind (·.av)=some (a,x)):∃t z,(Rs[a]?).bind (·.bx)=some (t,z,s,x):=by
 unfold vV at h;rw[apD,apM,apM]at h;have hi:s<Rs.length:=by
  cases hr:Rs[s]? with
  |none=>rw[hr]at e;cases e
  |some k=>exact(apj.1 hr).1
 have h1:=h.2 s (aqZ.2 hi);rw[e]at h1;cases hb:(Rs[a]?).bind (·.bx)with
 |none=>simp only[hb]at h1;cases h1
 |some y=>
  obtain⟨t,z,s',x'⟩:=y;simp only[hb,apD,auU]at h1;obtain⟨rfl,rfl⟩:=h1;exact⟨t,z,rfl⟩
def left (listed:Array Bool):Nat:=listed.toList.countP (· ==false)
theorem Cu:∀(l:List Bool) (i:Nat),l[i]?=some false→(l.set i true).countP (· == false)+1=l.countP (· == false)
 | [],i,h=>by simp at h
 |b::l,0,h=>by simp at h;subst h;simp
 |b::l,i+1,h=>by
  have:=Cu l i (by simpa using h);rw[apy,List.countP_cons,List.countP_cons];omega
theorem xP {ops:List Oper}{listed:Array Bool}(hs:listed.size=ops.length){i:Nat}(hi:i∈Region.ready .any ops.toArray listed):∃o,ops[i]?=some o/\listed[i]?=some false/\∀e∈o.after,Region.binds .any e=true->listed[e.on]?=some true:=by
 obtain⟨hn,o,ho,ha⟩:=mem_ready.1 hi;rw[apm]at ho;have hil:i<listed.size:=by rw[hs];exact(apj.1 ho).1
 refine⟨o,ho,?_,fun e he hb=>?_⟩
 ·rw[aqm,aqk hil]at hn;rw[aqk hil];simpa using hn
 ·have h2:=ha e he hb;rw[aqm]at h2;cases h3:listed[e.on]? with
  |none=>rw[h3]at h2;simp at h2
  |some b=>rw[h3]at h2;simp at h2;rw[h2]
theorem Ht {ops:List Oper}{listed:Array Bool}(hs:listed.size=ops.length){i:Nat}(hi:i∈Region.ready .any ops.toArray listed):left (listed.setIfInBounds i true)+1=left listed:=by obtain⟨o,_,h,_⟩:=xP hs hi;unfold left;rw[Array.toList_setIfInBounds];exact Cu _ i (by rw[aqD];exact h)
theorem eQ {f:List (Option Value)}{i j:Nat}{v:Option Value}(h:i≠j):(f.set i v)[j]?=f[j]?:=aq8 h
section
variable {Rs :List (Kd N T)} {w0 w w' :World} {ops :List Oper} {a0 a :Act} {listed :Array Bool} {f :List (Option Value)} {i :Nat} {o :Oper}
theorem St.base (S:St Rs w0 ops a0 listed a w f)(hap:gV ops=true)(ho:ops[i]?=some o)(hn:listed[i]?=some false)(VQ:∀e∈o.after,Region.binds .any e=true→listed[e.on]?=some true){v:Value}(g:Gr w0 w')(hv:at' Rs i w' v)(hR:∀j u,j≠i→f[j]?=some (some u)→at' Rs j w u→at' Rs j w' u)(hbx:∀(j:Nat) (t:TypeId) (z:Array Value) (s x:Nat),(Rs[j]?).bind (·.bx)=some (t,z,s,x)->∀u,(f.set i (some v))[j]?=some (some u)->∃b,u=.pointer (some ⟨b,0,none⟩)/\N<=b/\b<w'.heap.size/\ ((f.set i (some v))[s]?=some none->w'.heap[b]?=some (.cells z t (0,0)))/\(∀y,(f.set i (some v))[s]?=some (some y)->∃cs,(f.set i (some v))[x]?=some (some (.agg cs))/\w'.heap[b]?=some (.cells cs t (0,0)))):St Rs w0 ops a0 (listed.setIfInBounds i true) (a.put o.dst v) w' (f.set i (some v)):=by
 have hi:=(apj.1 ho).1;refine⟨by rw[ap6];exact S.len,by rw[ap4];exact S.ls,by rw[S.act];exact zI ops f a0 i o v hap ho (S.none' i hn),g,fun j hj=>?_,fun j hj=>?_,fun j o' ho' hj=>?_,hbx⟩
 ·by_cases h:i=j
  ·subst h;exact⟨v,aqu (by rw[S.len];exact hi),hv⟩
  ·rw[aqp h]at hj;obtain⟨u,h1,h2⟩:=S.P5 j hj;exact⟨u,by rw[eQ h];exact h1,hR j u (Ne.symm h) h1 h2⟩
 ·by_cases h:i=j
  ·subst h;rw[Array.getElem?_setIfInBounds_self]at hj;split at hj<;>simp at hj
  ·rw[aqp h]at hj;rw[eQ h];exact S.none' j hj
 ·have up:∀k:Nat,listed[k]?=some true->(listed.setIfInBounds i true)[k]?=some true:=fun k hk=>by
   by_cases h:i=k
   ·subst h;rw[hn]at hk;cases hk
   ·rw[aqp h];exact hk
  by_cases h:i=j
  ·subst h;rw[ho]at ho';injection ho' with ho';subst ho';exact fun e he hb=>up _ (VQ e he hb)
  ·rw[aqp h]at hj;exact fun e he hb=>up _ (S.cl j o' ho' hj e he hb)
theorem St.step (hN:N=w0.heap.size)(hl:ops.length=Rs.length)(hap:gV ops=true)(EU:vV Rs=true)(S:St Rs w0 ops a0 listed a w f)(ho:ops[i]?=some o)(hn:listed[i]?=some false)(VQ:∀e∈o.after,Region.binds .any e=true→listed[e.on]?=some true)(hsa:∀(s:Nat) (os:Oper) (x:Nat),(Rs[s]?).bind (·.av)=some (i,x)->ops[s]?=some os->∃e∈os.after,Region.binds .any e=true/\e.on=i)(hns:(Rs[i]?).bind (·.av)=none){v:Value}(g:Gr w w')(hv:at' Rs i w' v)(hm:made N w' v ((Rs[i]?).bind (·.bx))):St Rs w0 ops a0 (listed.setIfInBounds i true) (a.put o.dst v) w' (f.set i (some v)):=by
 have hi:=(apj.1 ho).1;have hfi:=S.none' i hn;refine S.base hap ho hn VQ (S.gr.trans g) hv (fun j u _ _ h=>Xy h fun k q=>k.rk.st g q) fun j t z s x hj u hu=>?_
 obtain⟨hs,hjs,hd⟩:=zL EU hj;have hsi:i≠s:=fun e=>by rw[e,hs]at hns;cases hns
 rw[eQ hsi];by_cases h:i=j
 ·subst h;rw[aqu (by rw[S.len];exact hi)]at hu;injection hu with hu;injection hu with hu;subst hu;rw[hj]at hm;obtain⟨b,e,h1,h2⟩:=hm;refine⟨b,e,h1,(gs h2).1,fun _=>h2,fun y hy=>?_⟩;exfalso;have hsl:s<ops.length:=by rw[<-S.len];exact(apj.1 hy).1
  obtain⟨e,he,hb,hon⟩:=hsa s _ x hs (api hsl);have hls:listed[s]?=some true:=by
   have hz':s<listed.size:=by rw[S.ls];exact hsl
   rw[aqk hz'];cases hb:listed[s]with
   |true=>rfl
   |false=>
    have:=S.none' s (by rw[aqk hz',hb]);rw[hy]at this;injection this with this;cases this
  have:=S.cl s _ (api hsl) hls e he hb;rw[hon,hn]at this;cases this
 ·rw[eQ h]at hu;obtain⟨b,e,h1,h2,h3,h4⟩:=S.bx j t z s x hj u hu;have hb:=g.block b h2;refine⟨b,e,h1,apq h2 g.size,fun q=>hb.trans (h3 q),fun y hy=>?_⟩;obtain⟨cs,e1,e2⟩:=h4 y hy;refine⟨cs,?_,hb.trans e2⟩;by_cases hx:i=x
  ·subst hx;rw[hfi]at e1;injection e1 with e1;cases e1
  ·rw[eQ hx];exact e1
theorem St.av (hN:N=w0.heap.size)(hap:gV ops=true)(EU:vV Rs=true)(S:St Rs w0 ops a0 listed a w f)(ho:ops[i]?=some o)(hn:listed[i]?=some false)(VQ:∀e∈o.after,Region.binds .any e=true→listed[e.on]?=some true){p x:Nat}(hs:(Rs[i]?).bind (·.av)=some (p,x)){b:Nat}{cs:Array Value}(hp:f[p]?=some (some (.pointer (some ⟨b,0,none⟩))))(hx:f[x]?=some (some (.agg cs)))(hb:N<=b){t:TypeId}{z:Array Value}(hbx:(Rs[p]?).bind (·.bx)=some (t,z,i,x))(ht:(t,z)∈T)(hz:w.heap[b]?=some (.cells z t (0,0)))(hsz:cs.size=z.size)(hi0:∀w v,at' Rs i w v):St Rs w0 ops a0 (listed.setIfInBounds i true) (a.put o.dst undef) (w.setRow b cs) (f.set i (some undef)):=by
 have hi:i<ops.length:=(apj.1 ho).1;have hfi:=S.none' i hn;obtain⟨_,hps,hd⟩:=zL EU hbx;have hrow:(w.setRow b cs).heap[b]?=some (.cells cs t (0,0)):=aup _ _ _ _ _ (0,0) hz;refine S.base hap ho hn VQ (below_setRow S.gr (by rw[<-hN];exact hb) cs) (hi0 _ _) (fun j u _ _ h=>Xy h fun k q=>k.rk.sb hb hz ht (fun e=>aeJ e hz) q) fun j t' z' s x' hj u hu=>?_
 obtain⟨hs',hjs,hd'⟩:=zL EU hj;have hij:i≠j:=fun e=>by rw[<-e,hs]at hjs;cases hjs
 rw[eQ hij]at hu;obtain⟨b',e,h1,h2,h3,h4⟩:=S.bx j t' z' s x' hj u hu;have hxx:∀{y:Nat} {c:Array Value},f[y]?=some (some (.agg c))->(f.set i (some undef))[y]?=some (some (.agg c)):=fun {y c} e1=>by
  by_cases hy:i=y
  ·subst hy;rw[hfi]at e1;injection e1 with e1;cases e1
  ·rw[eQ hy];exact e1
 by_cases hjp:j=p
 ·subst hjp;rw[hbx]at hj;injection hj with hj;simp only[auX]at hj;obtain⟨rfl,rfl,rfl,rfl⟩:=hj;rw[hp]at hu;injection hu with hu;injection hu with hu;subst hu;injection e with e;injection e with e;injection e with e;subst e;refine⟨b,rfl,h1,by rw[setRow_size];exact h2,fun q=>?_,fun y hy=>⟨cs,hxx hx,hrow⟩⟩;rw[aqu (by rw[S.len];exact hi)]at q;injection q with q;cases q
 ·have hty:=hd j t' _ hj hjp;have hsi:i≠s:=fun e=>by
   subst e;rw[hs]at hs';injection hs' with hs';simp only[auX]at hs';exact hjp hs'.1.symm
  rw[eQ hsi];have hbb:∀{c:Array Value},w.heap[b']?=some (.cells c t' (0,0))->(w.setRow b cs).heap[b']?=some (.cells c t' (0,0)):=fun {c} e1=>by
   refine(sV (fun q=>?_)).trans e1;rw[q,hz]at e1;injection e1 with e1;injection e1 with _ e1;exact hty e1.symm
  refine⟨b',e,h1,by rw[setRow_size];exact h2,fun q=>hbb (h3 q),fun y hy=>?_⟩;obtain⟨c,e1,e2⟩:=h4 y hy;exact⟨c,hxx e1,hbb e2⟩
end
theorem abl {a A:Act}{d:Option Tmp}{u v:Value}(hs:a.tmps.size=A.tmps.size)(h:A.put d u=A.put d v):a.put d u=a.put d v:=by
 cases d with
 |none=>rfl
 |some d=>
  by_cases hd:d<A.tmps.size
  ·have h2:(A.tmps.setIfInBounds d u)[d]?=(A.tmps.setIfInBounds d v)[d]?:=congrArg (fun x:Act=>x.tmps[d]?) h;rw[aqA hd,aqA hd]at h2;injection h2 with h2;rw[h2]
  ·have hd':a.tmps.size<=d:=by rw[hs];exact Nat.le_of_not_lt hd
   have e:∀x,a.tmps.setIfInBounds d x=a.tmps:=fun x=>Array.setIfInBounds_eq_of_size_le hd'
   simp only[Act.put,e]
theorem aeK {o:Oper}{a A:Act}{w:World}{F:Value->World->Prop}{K:Act->World->Prop}(he:execOp A.eval o=execOp a.eval o)(hs:a.tmps.size=A.tmps.size)(hK:∀v w',F v w'->K (a.put o.dst v) w')(h:Oper.wp P o A w (fun a' w'=>∃v,a'=A.put o.dst v/\F v w') (fun _ _ _=>False)):Oper.wp P o a w K Q:=by
 unfold Oper.wp at *
 rw[he]at h;have fin:∀u w',(∃v,A.put o.dst u=A.put o.dst v/\F v w')->K (a.put o.dst u) w':=fun u w' ⟨v,e,n⟩=>by rw[abl hs e];exact hK v w' n
 generalize(execOp a.eval o).run P w=r at *
 cases r with
 |ok n w'=>
  cases n<;>simp only[Oper.upon]at h ⊢
  case value u=>exact fin u w' h
  case skip=>exact fin _ w' h
  case defer d=>
   obtain⟨v,e,_⟩:=h;have e2:=congrArg Act.defers e;cases hd:o.dst<;>rw[hd]at e2<;>simp[Act.put]at e2
  case enter f args=>
   refine au0 h fun e w'' q=>?_
   cases e with
   |returned u=>exact fin u w'' q
   |panicked c=>exact q.elim
   |outgrown=>obtain⟨_,_,q⟩:=q;exact q.elim
  case row row args=>exact Rows.mono h fun u w'' q=>fin u w'' q
 |halt x w'=>
  cases x<;>simp only[Oper.upon]at h
theorem St.op {Rs:List (Kd N T)}{w0:World}{ops:List Oper}{a0:Act}{Hu:List (List Nat)}(hN:N=w0.heap.size)(hl:ops.length=Rs.length)(hap:gV ops=true)(EU:vV Rs=true)(hok:rV ops ops Hu=true)(hst:u6 ops a0.tmps.size ops Hu Rs=true)(H:Rp P Rs w0 ops a0 ops Hu Rs){listed:Array Bool}{a:Act}{w:World}{f:List (Option Value)}(S:St Rs w0 ops a0 listed a w f){i:Nat}(hi:i∈Region.ready .any ops.toArray listed){K:Act->World->Prop}(hK:∀a' w' f',St Rs w0 ops a0 (listed.setIfInBounds i true) a' w' f'->K a' w'):wpOp P ops.toArray Q i K a w:=by
 obtain⟨o,ho,hn,VQ⟩:=xP S.ls hi;have ho2:ops.toArray[i]?=some o:=by rw[apm];exact ho
 obtain⟨ds,k,hk,hok',hst',Gq⟩:=zJ ops Hu Rs i o hl hok hst H ho;unfold VO at hok';simp only[apD,apM]at hok';obtain⟨⟨⟨g1,g2⟩,g3⟩,g4⟩:=hok';have hd:∀j∈ds,∃v,f[j]?=some (some v)/\at' Rs j w v:=fun j hj=>by
  have:=g3 j hj;rw[Array.any_eq_true']at this;obtain⟨e,he,h⟩:=this;rw[apD,auU]at h;exact S.P5 j (h.2 ▸ VQ e he h.1)
 refine wpOp_step ho2 fun K' hKK=>?_
 have hw:Region.wanted o (yielded ops.toArray a.tmps)=true:=by
  unfold Region.wanted;cases h:o.guard with
  |none=>rfl
  |some y=>rw[h]at g1;simp at g1
 rw[at7 hw];have hbi:(Rs[i]?).bind (·.av)=k.av:=by rw[hk];rfl
 have hbb:(Rs[i]?).bind (·.bx)=k.bx:=by rw[hk];rfl
 cases hks:k.av with
 |none=>
  rw[hks]at Gq;simp only at Gq;obtain⟨g,hg1,hg2,hg⟩:=P6 ds _ hd (Gq.2 w S.gr);rw[List.length_replicate]at hg1;have hev:∀x∈o.op.operands,a.eval x=(nS ops g a0).eval x:=fun x hx=>by
   rw[S.act];refine Cr x ops f g a0 a0 (by rw[S.len,hg1]) rfl rfl fun j oj d h1 h2 h3=>?_
   have hj:=(apj.1 h1).1;have h4:=g4 j (aqZ.2 hj);by_cases hjd:j∈ds
   ·exact((hg2 j).1 hjd (by rw[List.length_replicate];exact hj)).symm
   ·rw[h1]at h4;simp only[aqj,h2]at h4;rw[aqV]at h4;rcases h4 with h4|h4
    ·exact absurd (by simpa using h4) hjd
    ·exfalso;rw[Bool.not_eq_true',List.any_eq_false]at h4;have h5:=h4 x (by simpa using hx);rw[h3]at h5;simp at h5
  have hsel:∀cs b,o.op≠.select cs b:=fun cs b e=>by rw[e]at g2;simp at g2
  have hex:=execOp_congr o hsel hev;have hsa:∀(s:Nat) (os:Oper) (x:Nat),(Rs[s]?).bind (·.av)=some (i,x)->ops[s]?=some os->∃e∈os.after,Region.binds .any e=true/\e.on=i:=fun s os x h1 h2=>by
   obtain⟨ds',k',h3,h4,h5,_⟩:=zJ ops Hu Rs s os hl hok hst H h2;rw[h3]at h1;simp only[aqj]at h1;unfold u6 at h5;rw[h1]at h5;simp only[apD]at h5;have h6:ds'.contains i=true:=by
    have h6:=h5.1
    revert h6
    split
    ·intro h6;simp only[apD]at h6;exact h6.1.1.2
    ·intro h6;cases h6
   unfold VO at h4;simp only[apD,apM]at h4;have h7:=h4.1.2 i (by simpa using h6);rw[Array.any_eq_true']at h7;obtain⟨e,he,h⟩:=h7;rw[apD,auU]at h;exact⟨e,he,h.1,h.2⟩
  have fin:∀v w',Gr w w'->k.rk.R w' v->made N w' v k.bx->K' (a.put o.dst v) w':=fun v w' q h hm=>hKK _ _ (hK _ _ _ (S.step hN hl hap EU ho hn VQ hsa (hbi.trans hks) q (aeI hk h) (by rw[hbb];exact hm)))
  exact aeK (F:=fun v w'=>Gr w w'/\k.rk.R w' v/\made N w' v k.bx) hex.symm (by rw[S.act,qm,qm]) (fun v w' h=>fin v w' h.1 h.2.1 h.2.2) (hg _ fun v w' q h hm=>⟨v,rfl,q,h,hm⟩)
 |some px=>
  obtain⟨p,x⟩:=px;rw[hks]at Gq;simp only at Gq;obtain⟨t,z,hbx⟩:=P8 EU (hbi.trans hks);have htz:(t,z)∈T:=by
   have hpl:p<ops.length:=by
    rw[hl];cases hr:Rs[p]? with
    |none=>rw[hr]at hbx;cases hbx
    |some k=>exact(apj.1 hr).1
   obtain⟨ds',k',h3,_,_,h6⟩:=zJ ops Hu Rs p _ hl hok hst H (api hpl);have hsn:=(zL EU hbx).2.1;rw[h3]at hsn hbx;simp only[aqj]at hsn hbx;rw[hsn]at h6;have:=h6.1;rw[hbx]at this;exact this
  unfold u6 at hst';rw[hks]at hst';simp only[apD]at hst';have nT:=hst'.1;obtain⟨hI,Gq⟩:=Gq;unfold ObS at Gq;rw[hbx]at Gq;cases hop:o.op<;>rw[hop]at Gq nT<;>simp only at Gq
  case store ty X Y=>
   cases hdp:(ops[p]?).bind (·.dst)with
   |none=>rw[hdp]at nT;cases X<;>cases Y<;>simp at nT
   |some d'=>
    cases hdx:(ops[x]?).bind (·.dst)with
    |none=>rw[hdp,hdx]at nT;cases X<;>cases Y<;>simp at nT
    |some e'=>
     rw[hdp,hdx]at nT;cases X<;>try (simp at nT;done)
     cases Y<;>try (simp at nT;done)
     rename_i d e;simp only[apD,auU,auk]at nT;obtain⟨⟨⟨⟨⟨⟨rfl,rfl⟩,hdn⟩,hen⟩,hcp⟩,hcx⟩,hdst⟩:=nT;obtain⟨vp,hfp,hvp⟩:=hd p (by simpa using hcp);obtain⟨vx,hfx,hvx⟩:=hd x (by simpa using hcx);obtain⟨cs,rfl,hsz,hone⟩:=Gq.2 w vx hvx;obtain⟨b,rfl,hb,_,hz,_⟩:=S.bx p t z i x hbx vp hfp;have hz':=hz (S.none' i hn);have get:∀{q:Nat} {v:Value} {dd:Tmp},(ops[q]?).bind (·.dst)=some dd->f[q]?=some (some v)->dd<a0.tmps.size->a.eval (.tmp dd)=v:=fun {q v dd} h1 h2 h3=>by
      rw[S.act];cases hq:ops[q]? with
      |none=>rw[hq]at h1;cases h1
      |some oq=>rw[hq]at h1;exact zK ops f a0 q oq hap hq h1 h2 h3
     have hk':∀w v,at' Rs i w v:=fun w v=>by
      unfold at';rw[hk];exact hI w v
     exact wp_store_row ty _ _ hop b cs (get hdp hfp hdn) (get hdx hfx hen) t z hz' (by rw[Gq.1,hsz]) hsz.symm hone (hKK _ _ (hK _ _ _ (S.av hN hap EU ho hn VQ (hbi.trans hks) hfp hfx hb hbx htz hz' hsz hk')))
def u7:List Oper→Nat→Bool
 | [],_=>true
 |o::r,i=>o.after.all (fun e=>!Region.binds .any e ||decide (e.on<i)) && u7 r (i+1)
theorem Hy:∀(l:List Oper) (k j:Nat) (o:Oper),u7 l k=true→l[j]?=some o→∀e∈o.after,Region.binds .any e=true→e.on<k+j
 | [],_,_,_,_,h=>by simp at h
 |p::r,k,0,o,h,e=>by
  simp only[apw,auj]at e;subst e;unfold u7 at h;rw[apD,aq3]at h;intro e he hb;have:=h.1 e he;rw[hb]at this;simpa using this
 |p::r,k,j+1,o,h,e=>by
  unfold u7 at h;rw[apD]at h;intro e' he hb;have:=Hy r (k+1) j o h.2 (by simpa using e) e' he hb;omega
theorem VR {ops:List Oper}(hd:u7 ops 0=true){listed:Array Bool}(hs:listed.size=ops.length)(hr:Region.ready .any ops.toArray listed=[]):∀i:Nat,i<ops.length->listed[i]?=some true:=by
 intro i;induction i using Nat.strongRecOn with
 |ind i ih=>
  intro hi;have hz:i<listed.size:=by rw[hs];exact hi
  rw[aqk hz];cases hb:listed[i]with
  |true=>rfl
  |false=>
   exfalso;have:i∈Region.ready .any ops.toArray listed:=by
    refine mem_ready.2 ⟨by rw[aqm,aqk hz,hb];rfl,ops[i],by rw[apm,api hi],fun e he hb'=>?_⟩;have h1:=Hy ops 0 i _ hd (api hi) e he hb';have h2:=ih e.on (by omega) (by omega);rw[aqm,h2];rfl
   rw[hr]at this;cases this
theorem P9 {Rs:List (Kd N T)}{w:World}{F:List (Option Value)}(EU:vV Rs=true)(hct:∀(s a x:Nat) (t:TypeId) (z:Array Value),(Rs[s]?).bind (·.av)=some (a,x)->(Rs[a]?).bind (·.bx)=some (t,z,s,x)->∃b cs,F[a]?=some (some (.pointer (some ⟨b,0,none⟩)))/\F[x]?=some (some (.agg cs))/\w.heap[b]?=some (.cells cs t (0,0))):
  ∀(ops:List Oper) (kr:List (Kd N T)) (f:List (Option Value)) (vs:List Value) (a:Act),ops.length=kr.length->f.length=ops.length->F=vs.map some++f->Rs.drop vs.length=kr->(∀(i:Nat) (k:Kd N T),kr[i]?=some k->(∃v,f[i]?=some (some v)/\k.rk.R w v)/\∀p x,k.av=some (p,x)->p<vs.length+i/\x<vs.length+i)->Fin' Q Rs w vs ops kr a->Q .normal (nS ops f a) w
 | [],_,[],vs,a,_,_,_,_,_,h=>by
  unfold Fin' at h;exact h
 | [],_,_::_,vs,a,_,h,_,_,_,_=>by simp at h
 |_::_,[],_,vs,_,h,_,_,_,_,_=>by simp at h
 |_::_,_::_,[],vs,_,_,h,_,_,_,_=>by simp at h
 |o::r,k::kr,p::s,vs,a,hl,hf,hF,hR,hv,h=>by
  obtain⟨⟨v,e,hk⟩,hs⟩:=hv 0 k rfl;simp only[apw,auj]at e;subst e;have hRk:Rs[vs.length]?=some k:=by
   have:=congrArg (·[0]?) hR;simpa using this
  have hR2:Rs.drop (vs++[v]).length=kr:=by
   rw[apo,apW,<-aqG,hR];rfl
  have fit:∀{j:Nat} {u:Value},j<vs.length->F[j]?=some (some u)->vs.getD j undef=u:=fun {j u} hj hu=>by
   rw[hF,apA (by simpa using hj),apT]at hu;cases hq:vs[j]? with
   |none=>rw[hq]at hu;cases hu
   |some y=>
    rw[hq]at hu;simp only[ap7,auj]at hu;rw[apV,hq,hu];rfl
  unfold Fin' at h;refine P9 EU hct r kr s (vs++[v]) _ (by simpa using hl) (by simpa using hf) (by rw[hF];simp) hR2 (fun i k' h'=>?_) (h v hk ?_)
  ·obtain⟨h1,h2⟩:=hv (i+1) k' (by simpa using h');refine⟨by simpa using h1,fun p x hpx=>?_⟩;have:=h2 p x hpx;rw[apo,apW];omega
  ·cases hks:k.av with
   |none=>trivial
   |some px=>
    obtain⟨p,x⟩:=px;obtain⟨hp,hx⟩:=hs p x hks;obtain⟨t,z,hb⟩:=P8 EU (s:=vs.length) (a:=p) (x:=x) (by rw[hRk];exact hks);obtain⟨b,cs,e1,e2,e3⟩:=hct _ _ _ _ _ (by rw[hRk];exact hks) hb;refine⟨b,cs,fit (by omega) e1,fit (by omega) e2,?_⟩;rw[hb];exact e3
def abm (Rs:List (Kd N T)):Bool:=(List.range Rs.length).all fun s=>match (Rs[s]?).bind (·.av)with
 |some (a,x)=>decide (a<s) && decide (x<s)
 |none=>true
theorem Er {Rs:List (Kd N T)}{w0:World}{ops:List Oper}{a0:Act}{Hu:List (List Nat)}(hN:N=w0.heap.size)(hl:ops.length=Rs.length)(hap:gV ops=true)(EU:vV Rs=true)(hlt:abm Rs=true)(hok:rV ops ops Hu=true)(hst:u6 ops a0.tmps.size ops Hu Rs=true)(H:Rp P Rs w0 ops a0 ops Hu Rs)(hdn:u7 ops 0=true)(hF:∀w,Gr w0 w->Fin' Q Rs w [] ops Rs a0):∀(n:Nat) (listed:Array Bool) (a:Act) (w:World) (f:List (Option Value)),left listed<=n->St Rs w0 ops a0 listed a w f->wpAny P .any ops.toArray Q n listed a w:=by
 have fin:∀(listed:Array Bool) (a:Act) (w:World) (f:List (Option Value)),St Rs w0 ops a0 listed a w f->Region.ready .any ops.toArray listed=[]->Q .normal a w:=fun listed a w f S h=>by
  have all:=VR hdn S.ls h;have val:∀i:Nat,i<ops.length->∃v,f[i]?=some (some v)/\at' Rs i w v:=fun i hi=>S.P5 i (all i hi)
  rw[S.act];refine P9 (F:=f) EU (fun s p x t z h1 h2=>?_) ops Rs f [] a0 hl S.len rfl rfl (fun i k hk=>⟨?_,fun p x hpx=>?_⟩) (hF w S.gr)
  ·have lt:∀{i:Nat} {α:Type} {y:α} {g:Kd N T->Option α},(Rs[i]?).bind g=some y->i<ops.length:=fun {i α y g} h=>by
    rw[hl];cases hr:Rs[i]? with
    |none=>rw[hr]at h;cases h
    |some k=>exact(apj.1 hr).1
   obtain⟨v,e,_⟩:=val p (lt h2);obtain⟨u,e2,_⟩:=val s (lt h1);obtain⟨b,rfl,_,_,_,h4⟩:=S.bx p t z s x h2 v e;obtain⟨cs,e3,e4⟩:=h4 u e2;exact⟨b,cs,e,e3,e4⟩
  ·obtain⟨v,e,q⟩:=val i (by rw[hl];exact(apj.1 hk).1);unfold at' at q;rw[hk]at q;exact⟨v,e,q⟩
  ·unfold abm at hlt;rw[apM]at hlt;have:=hlt i (aqZ.2 (apj.1 hk).1);rw[hk]at this;simp only[aqj,hpx,apD,auk]at this;simpa using this
 intro n;induction n with
 |zero=>
  intro listed a w f hn S;have h:Region.ready .any ops.toArray listed=[]:=by
   cases hr:Region.ready .any ops.toArray listed with
   |nil=>rfl
   |cons i r=>
    have:=Ht (ops:=ops) (i:=i) S.ls (by rw[hr];exact aqM ..);omega
  exact⟨h,fin listed a w f S h⟩
 |succ n ih=>
  intro listed a w f hn S;refine⟨fin listed a w f S,fun i hi=>S.op hN hl hap EU hok hst H hi fun a' w' f' S'=>ih _ a' w' f' ?_ S'⟩;have:=Ht (ops:=ops) S.ls hi;omega
theorem ve {id:Nat}{a:Act}{w:World}{ops:List Oper}(Rs:List (Kd w.heap.size T))(Hu:List (List Nat))(hm:P.follows .mixedOrders=true)(hc:(gV ops && rV ops ops Hu && u7 ops 0 && ops.length == Rs.length && vV Rs && abm Rs && u6 ops a.tmps.size ops Hu Rs)=true)(H:Rp P Rs w ops a ops Hu Rs)(hF:∀w',Gr w w'->Fin' Q Rs w' [] ops Rs a):(Code.region id ops.toArray true).wp P Q a w:=by
 simp only[apD,auU]at hc;obtain⟨⟨⟨⟨⟨⟨c1,c2⟩,c3⟩,c4⟩,c5⟩,c6⟩,c7⟩:=hc;refine wp_region_any hm ?_;have e:ops.toArray.size=ops.length:=ap2 ..;rw[e];refine Er rfl c4 c1 c5 c6 c2 c7 H c3 hF ops.length _ a _ (List.replicate ops.length none) ?_ ⟨by simp,by simp,?_,(Gr.refl w).drew,fun i hi=>?_,fun i hi=>?_,fun i o _ hi=>?_,fun i t z s x _ v hv=>?_⟩
 ·unfold left;rw[Array.toList_replicate,List.countP_replicate];simp
 ·have:∀(l:List Oper) (n:Nat),nS l (List.replicate n none) a=a:=by
   intro l;induction l with
   |nil=>intro n;cases n<;>rfl
   |cons o r ih=>intro n;cases n with
    |zero=>rfl
    |succ n=>exact ih n
  exact(this _ _).symm
 ·rw[aqX]at hi;split at hi<;>simp at hi
 ·rw[aqX]at hi;split at hi
  ·rename_i h;rw[aqK,at7 h]
  ·simp at hi
 ·rw[aqX]at hi;split at hi<;>simp at hi
 ·rw[aqK]at hv;split at hv<;>simp at hv
end
end Rg
end Go.Proofs.YtiadhbmnfjfioaaGreatDoor
