/- ours -/
import Derived.Test.YtiadhbmnfjfioaaGreatDoorU07
set_option linter.unusedVariables false
set_option linter.unusedSimpArgs false
set_option maxHeartbeats 8000000
set_option maxRecDepth 100000
set_option linter.unusedSectionVars false
namespace Go.Proofs.YtiadhbmnfjfioaaGreatDoor
open Go.Value (int slice pointer agg tuple string)
open Go.IntKind (i64 i32)
open Go.Obj (cells)
open Go.Operand (tmp)
open Go.Proofs.Tryz hiding cs d0 d1
open Go.ChangeShapes Go.WideShapes Go.ChangeAt Go.RowKit
variable{a0:Act}{listed:Array Bool}{z cs:Array Value}{fr':Bool}{e:Ending}{a rd:Int}{K:IntKind}{JR L1:List (List Nat)}{T:List (TypeId×Array Value)}{l wd Wd L:List Nat}{ops rest:List Oper}{m:List UInt8}{xs:List Value}{j b i x id mc hc pc n uc t c k N B x0 x1 g:Nat}{f:Nat×Nat}{o:Oper}{ma ha pa ua a1:Option Addr}{v U' P M H U:Value}{F:Value->World->Prop}{D:Value×Value×Value}{w w' w9:World}
namespace Rg
open Mm
def l8:List Oper→List (Option Value)→Act→Act
 |o::r,some v::s,a=>l8 r s (a.put o.dst v)
 |_::r,none::s,a=>l8 r s a
 |_,_,a=>a
theorem nS (a:Act)(d)(v):(a.put d v).tmps.size=a.tmps.size:=by cases d<;>simp[Act.put]
theorem rF:∀(ops:List Oper) (f:List (Option Value)) (a:Act),(l8 ops f a).tmps.size=a.tmps.size
 | [],[],a=>rfl
 | [],_::_,a=>rfl
 |_::_,[],a=>rfl
 |o::r,some v::s,a=>(rF r s _).trans (nS a _ _)
 |o::r,none::s,a=>rF r s a
theorem eval_put_same {a a':Act}(hs:a.tmps.size=a'.tmps.size)(d)(v):(a.put (some d) v).eval (tmp d)=(a'.put (some d) v).eval (tmp d):=by simp[Act.eval,Act.put,asE,atz,hs]
theorem EC (x:Operand):∀(ops:List Oper) (f g:List (Option Value)) (a a':Act),f.length=g.length->a.tmps.size=a'.tmps.size->a.eval x=a'.eval x->
  (∀(j:Nat) (o:Oper) (d:Tmp),ops[j]?=some o->o.dst=some d->x=tmp d->f[j]?=g[j]?)->(l8 ops f a).eval x=(l8 ops g a').eval x
 | [],f,g,a,a',_,_,h,_=>by cases f<;>cases g<;>exact h
 |o::r,[],[],a,a',_,_,h,_=>h
 |o::r,p::s,q::t,a,a',hl,hs,h,hd=>by
  have hr:∀(b b':Act),b.tmps.size=b'.tmps.size->b.eval x=b'.eval x->(l8 r s b).eval x=(l8 r t b').eval x:=fun b b' e1 e2=>
   EC x r s t b b' (by simpa using hl) e1 e2 fun j o' d h1 h2 h3=>by simpa using hd (j+1) o' d (by simpa using h1) h2 h3
  by_cases hx:∃d,o.dst=some d/\x=tmp d
  ·obtain⟨d,h1,rfl⟩:=hx;have e:=hd 0 o d rfl h1 rfl;simp only[arC,awz]at e;subst e;cases p with
   |none=>exact hr _ _ hs h
   |some v=>exact hr _ _ (by rw[nS,nS];exact hs) (by rw[h1];exact eval_put_same hs d v)
  ·have hn:∀d,o.dst=some d->x≠tmp d:=fun d h1 h2=>hx ⟨d,h1,h2⟩
   have k:∀(b:Act) (z:Option Value),(match z with|some v=>b.put o.dst v|none=>b).eval x=b.eval x:=fun b z=>by
    cases z with
    |none=>rfl
    |some v=>exact Act.eval_put hn
   have k2:∀(b:Act) (z:Option Value),(match z with|some v=>b.put o.dst v|none=>b).tmps.size=b.tmps.size:=fun b z=>by
    cases z with
    |none=>rfl
    |some v=>exact nS _ _ _
   have e1:∀(b:Act) (z:Option Value) (u:List (Option Value)),l8 (o::r) (z::u) b=l8 r u (match z with|some v=>b.put o.dst v|none=>b):=fun b z u=>by cases z<;>rfl
   rw[e1,e1];exact hr _ _ (by rw[k2,k2];exact hs) (by rw[k,k];exact h)
theorem wT:∀(ops:List Oper) (f:List (Option Value)) (a:Act) (d:Option Tmp) (v:Value),(∀o∈ops,∀t,o.dst=some t→d≠some t)→(l8 ops f a).put d v=l8 ops f (a.put d v)
 | [],[],a,d,v,_=>rfl
 | [],_::_,a,d,v,_=>rfl
 |_::_,[],a,d,v,_=>rfl
 |o::r,none::s,a,d,v,h=>wT r s a d v fun o' m=>h o' (aso _ m)
 |o::r,some u::s,a,d,v,h=>by
  show(l8 r s (a.put o.dst u)).put d v=l8 r s ((a.put d v).put o.dst u)
  rw[wT r s _ d v fun o' m=>h o' (aso _ m),Act.put_comm a u v fun t ht=>h o (asx ..) t ht]
def iR:List Oper→Bool
 | []=>true
 |o::r=>r.all (fun o'=>o.dst.isNone ||o.dst !=o'.dst) && iR r
theorem BB:∀(ops:List Oper) (f:List (Option Value)) (a:Act) (i:Nat) (o:Oper) (v:Value),iR ops=true→ops[i]?=some o→f[i]?=some none→(l8 ops f a).put o.dst v=l8 ops (f.set i (some v)) a
 | [],_,_,_,_,_,_,h,_=>by simp at h
 |_::_,[],_,_,_,_,_,_,h=>by simp at h
 |o::r,p::s,a,0,o',v,ha,ho,hf=>by
  simp only[arC,awz]at ho hf;subst ho hf;unfold iR at ha;rw[arR,ar0]at ha;show(l8 r s a).put o.dst v=l8 r s (a.put o.dst v)
  refine wT r s a _ v fun o' hm t ht e=>?_
  have:=ha.1 o' hm;rw[e,ht]at this;simp at this
 |o::r,p::s,a,i+1,o',v,ha,ho,hf=>by
  simp only[arJ]at ho hf;unfold iR at ha;rw[arR]at ha;cases p with
  |none=>exact BB r s a i o' v ha.2 ho hf
  |some u=>exact BB r s _ i o' v ha.2 ho hf
def zn (z:Array Value):Bool:=z.toList.all fun v=>match v with
 | int .u8 _=>false
 | int .u32 _=>false
 |_=>true
def Nn (w:World) (b:Nat):Prop:=∀i v,w.cell? ⟨b,i,none⟩=some v->∀z,v≠int .u8 z/\v≠int .u32 z
structure Rk (N:Nat) (T:List (TypeId×Array Value)) where
 R:World->Value->Prop
 st:∀{w w':World} {v:Value},Gr w w'->R w v->R w' v
 sb:∀{w:World} {b:Nat} {o:Array Value} {t:TypeId} {cs:Array Value} {v:Value},N<=b->w.heap[b]?=some (cells o t (0,0))->(t,o)∈T->(zn o=true->Nn w b)->R w v->R (w.setRow b cs) v
structure Kd (N:Nat) (T:List (TypeId×Array Value)) where
 rk:Rk N T
 bx:Option (TypeId×Array Value×Nat×Nat)
 ax:Option (Nat×Nat)
section
def Val (x:Value):Kd N T:=⟨⟨fun _ v=>v=x,fun _ h=>h,fun _ _ _ _ h=>h⟩,none,none⟩
def nT {α:Type} (V:α->Value) (F:World->α->Prop) (st:∀{w w':World} {x:α},Gr w w'->F w x->F w' x) (sb:∀{w:World} {b:Nat} {o:Array Value} {t:TypeId} {cs:Array Value} {x:α},w.heap[b]?=some (cells o t (0,0))->(t,o)∈T->(zn o=true->Nn w b)->F w x->F (w.setRow b cs) x):Kd N T:=⟨⟨fun w v=>∃x,v=V x/\F w x,fun g ⟨x,e,h⟩=>⟨x,e,st g h⟩,fun _ h1 h2 h3 ⟨x,e,h⟩=>⟨x,e,sb h1 h2 h3 h⟩⟩,none,none⟩
def Fa {α:Type} (V:α->Value) (F:World->α->Prop) (st:∀{w w':World} {x:α},Gr w w'->F w x->F w' x):Kd N []:=nT V F st fun _ h=>by cases h
def JP (c:Array Value) (t:TypeId) (n:Nat):Kd N []:=Fa (fun b:Nat=>slice (some ⟨b,0,none⟩) n n) (fun W b=>W.heap[b]?=some (cells c t (0,0))) fun g h=>(g.block _ (gs h).1).trans h
def oP (t:TypeId) (z:Array Value) (s x:Nat):Kd N T:=⟨⟨fun _ v=>∃b,v=pointer (some ⟨b,0,none⟩)/\N<=b,fun _ h=>h,fun _ _ _ _ h=>h⟩,some (t,z,s,x),none⟩
def oQ (a x:Nat):Kd N T:=⟨⟨fun _ _=>True,fun _ h=>h,fun _ _ _ _ h=>h⟩,none,some (a,x)⟩
end
section
variable{P:Program}{Q:Exit->Act->World->Prop}
def at' (Rs:List (Kd N T)) (j:Nat) (w:World) (v:Value):Prop:=match Rs[j]? with
 |some r=>r.rk.R w v
 |none=>True
theorem agT {Rs}{k:Kd N T}(hk:Rs[j]?=some k)(h:k.rk.R w v):at' Rs j w v:=by unfold at';rw[hk];exact h
theorem ZR {Rs:List (Kd N T)}(h:at' Rs j w v)(q:∀k:Kd N T,k.rk.R w v->k.rk.R w' v):at' Rs j w' v:=by
 unfold at' at *
 cases e:Rs[j]? with
 |none=>trivial
 |some k=>rw[e]at h;exact q k h
def dep (Rs:List (Kd N T)) (w:World):List Nat→List (Option Value)→(List (Option Value)→Prop)→Prop
 | [],f,k=>k f
 |j::r,f,k=>∀v,at' Rs j w v->dep Rs w r (f.set j (some v)) k
def made (N:Nat) (w:World) (v:Value):Option (TypeId×Array Value×Nat×Nat)→Prop
 |none=>True
 |some (t,z,_,_)=>∃b,v=pointer (some ⟨b,0,none⟩)/\N<=b/\w.heap[b]?=some (cells z t (0,0))
def Ob (P:Program) (ops:List Oper) (a:Act) (o:Oper) (f:List (Option Value)) (w:World) (k:Kd N T):Prop:=∀K:Act->World->Prop,Shut (∀v w',Gr w w'->k.rk.R w' v->made N w' v k.bx->K ((l8 ops f a).put o.dst v) w')->Oper.wp P o (l8 ops f a) w K (fun _ _ _=>False)
def Hd (P:Program) (Rs:List (Kd N T)) (o:Oper) (a x:Nat):Prop:=match o.op,(Rs[a]?).bind (·.bx)with
 | .store ty _ _,some (t,z,_,_)=>(P.info? ty).map (·.size)=some z.size/\∀w v,at' Rs x w v->∃cs,v=agg cs/\cs.size=z.size/\cs.all (·.oneCell')=true
 |_,_=>False
def inT (T:List (TypeId×Array Value)):Option (TypeId×Array Value×Nat×Nat)→Prop
 |none=>True
 |some (t,z,_,_)=>(t,z)∈T
def BZ (P:Program) (Rs:List (Kd N T)) (w0:World) (ops:List Oper) (a:Act):List Oper→List (List Nat)→List (Kd N T)→Prop
 |o::r,ds::dr,k::kr=>(match k.ax with
  |some (p,x)=>(∀w v,k.rk.R w v)/\Hd P Rs o p x
  |none=>inT T k.bx/\∀w,Gr w0 w->dep Rs w ds (List.replicate ops.length none) fun f=>Ob P ops a o f w k)/\BZ P Rs w0 ops a r dr kr
 |_,_,_=>True
def Ct (w:World) (t:TypeId) (p v:Value):Prop:=∃b cs,p=pointer (some ⟨b,0,none⟩)/\v=agg cs/\w.heap[b]?=some (cells cs t (0,0))
def Fin' (Q:Exit→Act→World→Prop) (Rs:List (Kd N T)) (w:World):List Value→List Oper→List (Kd N T)→Act→Prop
 |vs,o::r,k::kr,a=>∀v,k.rk.R w v->(match k.ax with
  |some (p,x)=>Ct w ((((Rs[p]?).bind (·.bx)).map (·.1)).getD 0) (vs.getD p undef) (vs.getD x undef) 
  |none=>True)->Fin' Q Rs w (vs++[v]) r kr (a.put o.dst v)
 |_,_,_,a=>Q .normal a w
def Yo (ops:List Oper) (o:Oper) (ds:List Nat):Bool:=
 o.guard.isNone && (match o.op with|.select _ _=>false|_=>true) &&
 ds.all (fun j=>o.after.any fun e=>Region.binds .any e && e.on ==j) &&
 (List.range ops.length).all fun j=>ds.contains j ||match (ops[j]?).bind (·.dst)with
  |some d=>!(o.op.operands.toList.any fun x=>match x with|tmp t=>t ==d|_=>false)
  |none=>true
def uo (ops:List Oper):List Oper→List (List Nat)→Bool
 |o::r,ds::dr=>Yo ops o ds && uo ops r dr
 | [],[]=>true
 |_,_=>false
def xM (Rs:List (Kd N T)):Bool:=
 (List.range Rs.length).all (fun i=>match (Rs[i]?).bind (·.bx)with
  |some (t,z,s,x)=>((Rs[s]?).bind (·.ax)) ==some (i,x) && (Rs[i]?).all (·.ax.isNone) && (List.range Rs.length).all (fun j=>j ==i ||match (Rs[j]?).bind (·.bx)with
   |some (t',_)=>t' !=t
   |none=>true)
  |none=>true) &&
 (List.range Rs.length).all fun s=>match (Rs[s]?).bind (·.ax)with
  |some (a,x)=>(match (Rs[a]?).bind (·.bx)with
   |some (_,_,s',x')=>s' ==s && x' ==x
   |none=>false)
  |none=>true
def wU (ops:List Oper) (n:Nat):List Oper→List (List Nat)→List (Kd N T)→Bool
 |o::r,ds::dr,k::kr=>(match k.ax with
  |some (a,x)=>(match o.op,(ops[a]?).bind (·.dst),(ops[x]?).bind (·.dst)with
   | .store _ (tmp d) (tmp e),some d',some e'=>d ==d' && e ==e' && decide (d<n) && decide (e<n) && ds.contains a && ds.contains x && o.dst.isNone
   |_,_,_=>false)
  |none=>true) && wU ops n r dr kr
 |_,_,_=>true
structure St (Rs:List (Kd N T)) (w0:World) (ops:List Oper) (a0:Act) (listed:Array Bool) (a:Act) (w:World) (f:List (Option Value)):Prop where
 len:f.length=ops.length
 ls:listed.size=ops.length
 act:a=l8 ops f a0
 gr:Gr w0 w
 Sw:∀i:Nat,listed[i]?=some true->∃v,f[i]?=some (some v)/\at' Rs i w v
 none':∀i:Nat,listed[i]?=some false->f[i]?=some none
 cl:∀(i:Nat) (o:Oper),ops[i]?=some o->listed[i]?=some true->∀e∈o.after,Region.binds .any e=true->listed[e.on]?=some true
 bx:∀(i:Nat) (t:TypeId) (z:Array Value) (s x:Nat),(Rs[i]?).bind (·.bx)=some (t,z,s,x)->∀v,f[i]?=some (some v)->∃b,v=pointer (some ⟨b,0,none⟩)/\N<=b/\b<w.heap.size/\
  (f[s]?=some none->w.heap[b]?=some (cells z t (0,0)))/\(∀u,f[s]?=some (some u)->∃cs,f[x]?=some (some (agg cs))/\w.heap[b]?=some (cells cs t (0,0)))
theorem Sy {Rs:List (Kd N T)}{w:World}{F:List (Option Value)}{k:List (Option Value)->Prop}:∀(ds:List Nat) (f:List (Option Value)),(∀j∈ds,∃v,F[j]?=some (some v)/\at' Rs j w v)->dep Rs w ds f k->
  ∃g,g.length=f.length/\(∀j:Nat,(j∈ds->j<f.length->g[j]?=F[j]?)/\(j ∉ ds->g[j]?=f[j]?))/\k g
 | [],f,_,h=>⟨f,rfl,fun j=>⟨fun m=>by(cases m),fun _=>rfl⟩,h⟩
 |j::r,f,hd,h=>by
  obtain⟨v,e,hv⟩:=hd j (asx ..);obtain⟨g,h1,h2,h3⟩:=Sy r (f.set j (some v)) (fun i m=>hd i (aso _ m)) (h v hv);rw[asn]at h1;refine⟨g,h1,fun i=>⟨fun m hl=>?_,fun m=>?_⟩,h3⟩
  ·by_cases hi:i∈r
   ·exact(h2 i).1 hi (by rw[asn];exact hl)
   ·rcases arG.1 m with rfl|m
    ·rw[(h2 i).2 hi,e,asL hl]
    ·exact absurd m hi
  ·rw[(h2 i).2 fun q=>m (aso _ q),atu fun q=>m (by rw[<-q];exact asx ..)]
theorem BC {Rs:List (Kd N T)}{w0:World}{ops:List Oper}{a:Act}{n:Nat}:∀(r:List Oper) (dr:List (List Nat)) (kr:List (Kd N T)) (i:Nat) (o:Oper),r.length=kr.length->uo ops r dr=true->wU ops n r dr kr=true->BZ P Rs w0 ops a r dr kr->r[i]?=some o->
  ∃ds k,kr[i]?=some k/\Yo ops o ds=true/\wU ops n [o] [ds] [k]=true/\(match k.ax with
   |some (p,x)=>(∀w v,k.rk.R w v)/\Hd P Rs o p x
   |none=>inT T k.bx/\∀w,Gr w0 w->dep Rs w ds (List.replicate ops.length none) fun f=>Ob P ops a o f w k)
 | [],_,_,_,_,_,_,_,_,h=>by simp at h
 |_::_,[],_,_,_,_,h,_,_,_=>by simp[uo]at h
 |_::_,_::_,[],_,_,h,_,_,_,_=>by simp at h
 |o::r,ds::dr,k::kr,0,o',hl,hk,hq,h,e=>by
  simp only[arC,awz]at e;subst e;unfold uo at hk;rw[arR]at hk;unfold wU at hq;rw[arR]at hq;exact⟨ds,k,rfl,hk.1,by unfold wU;rw[arR];exact⟨hq.1,rfl⟩,h.1⟩
 |o::r,ds::dr,k::kr,i+1,o',hl,hk,hq,h,e=>by
  unfold uo at hk;rw[arR]at hk;unfold wU at hq;rw[arR]at hq;exact BC r dr kr i o' (by simpa using hl) hk.2 hq.2 h.2 (by simpa using e)
theorem tJ {d:Tmp}:∀(ops:List Oper) (f:List (Option Value)) (a:Act),(∀o∈ops,o.dst≠some d)→(l8 ops f a).eval (tmp d)=a.eval (tmp d)
 | [],[],a,_=>rfl
 | [],_::_,a,_=>rfl
 |_::_,[],a,_=>rfl
 |o::r,none::s,a,h=>tJ r s a fun o' m=>h o' (aso _ m)
 |o::r,some v::s,a,h=>by
  show(l8 r s (a.put o.dst v)).eval (tmp d)=_
  rw[tJ r s _ fun o' m=>h o' (aso _ m)];exact Act.eval_put fun t ht e=>h o (asx ..) (by injection e with e;rw[e];exact ht)
theorem BF {d:Tmp}{v:Value}:∀(ops:List Oper) (f:List (Option Value)) (a:Act) (i:Nat) (o:Oper),iR ops=true→ops[i]?=some o→o.dst=some d→f[i]?=some (some v)→d<a.tmps.size→(l8 ops f a).eval (tmp d)=v
 | [],_,_,_,_,_,h,_,_,_=>by simp at h
 |_::_,[],_,_,_,_,_,_,h,_=>by simp at h
 |o::r,p::s,a,0,o',ha,ho,hd,hf,hz=>by
  simp only[arC,awz]at ho hf;subst ho hf;unfold iR at ha;rw[arR,ar0]at ha;show(l8 r s (a.put o.dst v)).eval (tmp d)=v
  rw[tJ r s _ fun o' m e=>?_,hd]
  ·simp[Act.eval,Act.put,asE,hz]
  ·have:=ha.1 o' m;rw[e,hd]at this;simp at this
 |o::r,p::s,a,i+1,o',ha,ho,hd,hf,hz=>by
  simp only[arJ]at ho hf;unfold iR at ha;rw[arR]at ha;cases p with
  |none=>exact BF r s a i o' ha.2 ho hd hf hz
  |some u=>exact BF r s _ i o' ha.2 ho hd hf (by rw[nS];exact hz)
theorem agU (h:zn z=true){t}(hb:w.heap[b]?=some (cells z t (0,0))):Nn w b:=by
 intro i v hv y;rw[cr hb]at hv;unfold zn at h;rw[ar0]at h;have hm:v∈z.toList:=by
  rw[<-asV]at hv;exact arE hv
 have:=h v hm;constructor<;>(rintro rfl;simp at this)
theorem BG {Rs:List (Kd N T)}(h:xM Rs=true){t}{s}(e:(Rs[i]?).bind (·.bx)=some (t,z,s,x)):(Rs[s]?).bind (·.ax)=some (i,x)/\(Rs[i]?).bind (·.ax)=none/\∀(j) (t') (y),(Rs[j]?).bind (·.bx)=some (t',y)->j≠i->t'≠t:=by
 unfold xM at h;rw[arR,ar0,ar0]at h;have hi:i<Rs.length:=by
  cases hr:Rs[i]? with
  |none=>rw[hr]at e;cases e
  |some k=>exact(arw.1 hr).1
 have h1:=h.1 i (ati.2 hi);rw[e]at h1;simp only[arR,axe,ar0,ati]at h1;obtain⟨⟨a1,a5⟩,a4⟩:=h1;refine⟨a1,?_,fun j t' y hj hne ht=>?_⟩
 ·cases hr:Rs[i]? with
  |none=>rfl
  |some k=>rw[hr]at a5;simpa using a5
 ·have hjl:j<Rs.length:=by
   cases hr:Rs[j]? with
   |none=>rw[hr]at hj;cases hj
   |some k=>exact(arw.1 hr).1
  have:=a4 j hjl;rw[hj]at this;simp only[ate,axe,bne_iff_ne]at this;rcases this with q|q
  ·exact hne q
  ·exact q ht
theorem Sz {Rs:List (Kd N T)}(h:xM Rs=true){s a:Nat}(e:(Rs[s]?).bind (·.ax)=some (a,x)):∃t z,(Rs[a]?).bind (·.bx)=some (t,z,s,x):=by
 unfold xM at h;rw[arR,ar0,ar0]at h;have hi:s<Rs.length:=by
  cases hr:Rs[s]? with
  |none=>rw[hr]at e;cases e
  |some k=>exact(arw.1 hr).1
 have h1:=h.2 s (ati.2 hi);rw[e]at h1;cases hb:(Rs[a]?).bind (·.bx)with
 |none=>simp only[hb]at h1;cases h1
 |some y=>
  obtain⟨t,z,s',x'⟩:=y;simp only[hb,arR,axe]at h1;obtain⟨rfl,rfl⟩:=h1;exact⟨t,z,rfl⟩
def left (listed:Array Bool):Nat:=listed.toList.countP (· ==false)
theorem ED:∀(l:List Bool) (i:Nat),l[i]?=some false→(l.set i true).countP (· == false)+1=l.countP (· == false)
 | [],i,h=>by simp at h
 |b::l,0,h=>by simp at h;subst h;simp
 |b::l,i+1,h=>by
  have:=ED l i (by simpa using h);rw[ars,List.countP_cons,List.countP_cons];omega
theorem zg (hs:listed.size=ops.length)(hi:i∈Region.ready .any ops.toArray listed):∃o,ops[i]?=some o/\listed[i]?=some false/\∀e∈o.after,Region.binds .any e=true->listed[e.on]?=some true:=by
 obtain⟨hn,o,ho,ha⟩:=mem_ready.1 hi;rw[arB]at ho;have hil:i<listed.size:=by rw[hs];exact(arw.1 ho).1
 refine⟨o,ho,?_,fun e he hb=>?_⟩
 ·rw[asE,asB hil]at hn;rw[asB hil];simpa using hn
 ·have h2:=ha e he hb;rw[asE]at h2;cases h3:listed[e.on]? with
  |none=>rw[h3]at h2;simp at h2
  |some b=>rw[h3]at h2;simp at h2;rw[h2]
theorem JQ {ops:List Oper}(hs:listed.size=ops.length){i}(hi:i∈Region.ready .any ops.toArray listed):left (listed.setIfInBounds i true)+1=left listed:=by obtain⟨o,_,h,_⟩:=zg hs hi;unfold left;rw[Array.toList_setIfInBounds];exact ED _ i (by rw[asV];exact h)
theorem fu {f:List (Option Value)}{v}(h:i≠j):(f.set i v)[j]?=f[j]?:=atu h
section
variable{Rs:List (Kd N T)}{w0:World}{a:Act}{f:List (Option Value)}
theorem St.base (S:St Rs w0 ops a0 listed a w f)(hap:iR ops=true)(ho:ops[i]?=some o)(hn:listed[i]?=some false)(Yp:∀e∈o.after,Region.binds .any e=true→listed[e.on]?=some true)(g:Gr w0 w')(hv:at' Rs i w' v)(hR:∀j u,j≠i→f[j]?=some (some u)→at' Rs j w u→at' Rs j w' u)(hbx:∀(j:Nat) (t) (z) (s x),(Rs[j]?).bind (·.bx)=some (t,z,s,x)->∀u,(f.set i (some v))[j]?=some (some u)->∃b,u=pointer (some ⟨b,0,none⟩)/\N<=b/\b<w'.heap.size/\ ((f.set i (some v))[s]?=some none->w'.heap[b]?=some (cells z t (0,0)))/\(∀y,(f.set i (some v))[s]?=some (some y)->∃cs,(f.set i (some v))[x]?=some (some (agg cs))/\w'.heap[b]?=some (cells cs t (0,0)))):St Rs w0 ops a0 (listed.setIfInBounds i true) (a.put o.dst v) w' (f.set i (some v)):=by
 have hi:=(arw.1 ho).1;refine⟨by rw[asn];exact S.len,by rw[asj];exact S.ls,by rw[S.act];exact BB ops f a0 i o v hap ho (S.none' i hn),g,fun j hj=>?_,fun j hj=>?_,fun j o' ho' hj=>?_,hbx⟩
 ·by_cases h:i=j
  ·subst h;exact⟨v,asL (by rw[S.len];exact hi),hv⟩
  ·rw[asG h]at hj;obtain⟨u,h1,h2⟩:=S.Sw j hj;exact⟨u,by rw[fu h];exact h1,hR j u (Ne.symm h) h1 h2⟩
 ·by_cases h:i=j
  ·subst h;rw[Array.getElem?_setIfInBounds_self]at hj;split at hj<;>simp at hj
  ·rw[asG h]at hj;rw[fu h];exact S.none' j hj
 ·have up:∀k:Nat,listed[k]?=some true->(listed.setIfInBounds i true)[k]?=some true:=fun k hk=>by
   by_cases h:i=k
   ·subst h;rw[hn]at hk;cases hk
   ·rw[asG h];exact hk
  by_cases h:i=j
  ·subst h;rw[ho]at ho';injection ho' with ho';subst ho';exact fun e he hb=>up _ (Yp e he hb)
  ·rw[asG h]at hj;exact fun e he hb=>up _ (S.cl j o' ho' hj e he hb)
theorem St.step (hN:N=w0.heap.size)(hl:ops.length=Rs.length)(hap:iR ops=true)(He:xM Rs=true)(S:St Rs w0 ops a0 listed a w f)(ho:ops[i]?=some o)(hn:listed[i]?=some false)(Yp:∀e∈o.after,Region.binds .any e=true→listed[e.on]?=some true)(hsa:∀(s:Nat) (os) (x),(Rs[s]?).bind (·.ax)=some (i,x)->ops[s]?=some os->∃e∈os.after,Region.binds .any e=true/\e.on=i)(hns:(Rs[i]?).bind (·.ax)=none)(g:Gr w w')(hv:at' Rs i w' v)(hm:made N w' v ((Rs[i]?).bind (·.bx))):St Rs w0 ops a0 (listed.setIfInBounds i true) (a.put o.dst v) w' (f.set i (some v)):=by
 have hi:=(arw.1 ho).1;have hfi:=S.none' i hn;refine S.base hap ho hn Yp (S.gr.trans g) hv (fun j u _ _ h=>ZR h fun k q=>k.rk.st g q) fun j t z s x hj u hu=>?_
 obtain⟨hs,hjs,hd⟩:=BG He hj;have hsi:i≠s:=fun e=>by rw[e,hs]at hns;cases hns
 rw[fu hsi];by_cases h:i=j
 ·subst h;rw[asL (by rw[S.len];exact hi)]at hu;injection hu with hu;injection hu with hu;subst hu;rw[hj]at hm;obtain⟨b,e,h1,h2⟩:=hm;refine⟨b,e,h1,(gs h2).1,fun _=>h2,fun y hy=>?_⟩;exfalso;have hsl:s<ops.length:=by rw[<-S.len];exact(arw.1 hy).1
  obtain⟨e,he,hb,hon⟩:=hsa s _ x hs (arq hsl);have hls:listed[s]?=some true:=by
   have hz':s<listed.size:=by rw[S.ls];exact hsl
   rw[asB hz'];cases hb:listed[s]with
   |true=>rfl
   |false=>
    have:=S.none' s (by rw[asB hz',hb]);rw[hy]at this;injection this with this;cases this
  have:=S.cl s _ (arq hsl) hls e he hb;rw[hon,hn]at this;cases this
 ·rw[fu h]at hu;obtain⟨b,e,h1,h2,h3,h4⟩:=S.bx j t z s x hj u hu;have hb:=g.block b h2;refine⟨b,e,h1,arD h2 g.size,fun q=>hb.trans (h3 q),fun y hy=>?_⟩;obtain⟨cs,e1,e2⟩:=h4 y hy;refine⟨cs,?_,hb.trans e2⟩;by_cases hx:i=x
  ·subst hx;rw[hfi]at e1;injection e1 with e1;cases e1
  ·rw[fu hx];exact e1
theorem St.ax (hN:N=w0.heap.size)(hap:iR ops=true)(He:xM Rs=true)(S:St Rs w0 ops a0 listed a w f)(ho:ops[i]?=some o)(hn:listed[i]?=some false)(Yp:∀e∈o.after,Region.binds .any e=true→listed[e.on]?=some true){p x}(hs:(Rs[i]?).bind (·.ax)=some (p,x)){b}{cs}(hp:f[p]?=some (some (pointer (some ⟨b,0,none⟩))))(hx:f[x]?=some (some (agg cs)))(hb:N<=b){t}{z}(hbx:(Rs[p]?).bind (·.bx)=some (t,z,i,x))(ht:(t,z)∈T)(hz:w.heap[b]?=some (cells z t (0,0)))(hsz:cs.size=z.size)(hi0:∀w v,at' Rs i w v):St Rs w0 ops a0 (listed.setIfInBounds i true) (a.put o.dst undef) (w.setRow b cs) (f.set i (some undef)):=by
 have hi:i<ops.length:=(arw.1 ho).1;have hfi:=S.none' i hn;obtain⟨_,hps,hd⟩:=BG He hbx;have hrow:(w.setRow b cs).heap[b]?=some (cells cs t (0,0)):=awJ _ _ _ _ _ (0,0) hz;refine S.base hap ho hn Yp (below_setRow S.gr (by rw[<-hN];exact hb) cs) (hi0 _ _) (fun j u _ _ h=>ZR h fun k q=>k.rk.sb hb hz ht (fun e=>agU e hz) q) fun j t' z' s x' hj u hu=>?_
 obtain⟨hs',hjs,hd'⟩:=BG He hj;have hij:i≠j:=fun e=>by rw[<-e,hs]at hjs;cases hjs
 rw[fu hij]at hu;obtain⟨b',e,h1,h2,h3,h4⟩:=S.bx j t' z' s x' hj u hu;have hxx:∀{y:Nat} {c:Array Value},f[y]?=some (some (agg c))->(f.set i (some undef))[y]?=some (some (agg c)):=fun {y c} e1=>by
  by_cases hy:i=y
  ·subst hy;rw[hfi]at e1;injection e1 with e1;cases e1
  ·rw[fu hy];exact e1
 by_cases hjp:j=p
 ·subst hjp;rw[hbx]at hj;injection hj with hj;simp only[axg]at hj;obtain⟨rfl,rfl,rfl,rfl⟩:=hj;rw[hp]at hu;injection hu with hu;injection hu with hu;subst hu;injection e with e;injection e with e;injection e with e;subst e;refine⟨b,rfl,h1,by rw[setRow_size];exact h2,fun q=>?_,fun y hy=>⟨cs,hxx hx,hrow⟩⟩;rw[asL (by rw[S.len];exact hi)]at q;injection q with q;cases q
 ·have hty:=hd j t' _ hj hjp;have hsi:i≠s:=fun e=>by
   subst e;rw[hs]at hs';injection hs' with hs';simp only[axg]at hs';exact hjp hs'.1.symm
  rw[fu hsi];have hbb:∀{c:Array Value},w.heap[b']?=some (cells c t' (0,0))->(w.setRow b cs).heap[b']?=some (cells c t' (0,0)):=fun {c} e1=>by
   refine(uI (fun q=>?_)).trans e1;rw[q,hz]at e1;injection e1 with e1;injection e1 with _ e1;exact hty e1.symm
  refine⟨b',e,h1,by rw[setRow_size];exact h2,fun q=>hbb (h3 q),fun y hy=>?_⟩;obtain⟨c,e1,e2⟩:=h4 y hy;exact⟨c,hxx e1,hbb e2⟩
end
theorem adu {a A:Act}{d}{u}(hs:a.tmps.size=A.tmps.size)(h:A.put d u=A.put d v):a.put d u=a.put d v:=by
 cases d with
 |none=>rfl
 |some d=>
  by_cases hd:d<A.tmps.size
  ·have h2:(A.tmps.setIfInBounds d u)[d]?=(A.tmps.setIfInBounds d v)[d]?:=congrArg (fun x:Act=>x.tmps[d]?) h;rw[asR hd,asR hd]at h2;injection h2 with h2;rw[h2]
  ·have hd':a.tmps.size<=d:=by rw[hs];exact Nat.le_of_not_lt hd
   have e:∀x,a.tmps.setIfInBounds d x=a.tmps:=fun x=>Array.setIfInBounds_eq_of_size_le hd'
   simp only[Act.put,e]
theorem agV {a A}{F:Value->World->Prop}{K}(he:execOp A.eval o=execOp a.eval o)(hs:a.tmps.size=A.tmps.size)(hK:∀v w',F v w'->K (a.put o.dst v) w')(h:Oper.wp P o A w (fun a' w'=>∃v,a'=A.put o.dst v/\F v w') (fun _ _ _=>False)):Oper.wp P o a w K Q:=by
 unfold Oper.wp at *
 rw[he]at h;have fin:∀u w',(∃v,A.put o.dst u=A.put o.dst v/\F v w')->K (a.put o.dst u) w':=fun u w' ⟨v,e,n⟩=>by rw[adu hs e];exact hK v w' n
 generalize(execOp a.eval o).run P w=r at *
 cases r with
 |ok n w'=>
  cases n<;>simp only[Oper.upon]at h ⊢
  case value u=>exact fin u w' h
  case skip=>exact fin _ w' h
  case defer d=>
   obtain⟨v,e,_⟩:=h;have e2:=congrArg Act.defers e;cases hd:o.dst<;>rw[hd]at e2<;>simp[Act.put]at e2
  case enter f args=>
   refine axj h fun e w'' q=>?_
   cases e with
   |returned u=>exact fin u w'' q
   |panicked c=>exact q.elim
   |outgrown=>obtain⟨_,_,q⟩:=q;exact q.elim
  case row row args=>exact Rows.mono h fun u w'' q=>fin u w'' q
 |halt x w'=>
  cases x<;>simp only[Oper.upon]at h
theorem St.op {Rs:List (Kd N T)}{w0}{ops}{a0}{JR}(hN:N=w0.heap.size)(hl:ops.length=Rs.length)(hap:iR ops=true)(He:xM Rs=true)(hok:uo ops ops JR=true)(hst:wU ops a0.tmps.size ops JR Rs=true)(H:BZ P Rs w0 ops a0 ops JR Rs){listed}{a}{w}{f}(S:St Rs w0 ops a0 listed a w f){i}(hi:i∈Region.ready .any ops.toArray listed){K}(hK:∀a' w' f',St Rs w0 ops a0 (listed.setIfInBounds i true) a' w' f'->K a' w'):wpOp P ops.toArray Q i K a w:=by
 obtain⟨o,ho,hn,Yp⟩:=zg S.ls hi;have ho2:ops.toArray[i]?=some o:=by rw[arB];exact ho
 obtain⟨ds,k,hk,hok',hst',Jl⟩:=BC ops JR Rs i o hl hok hst H ho;unfold Yo at hok';simp only[arR,ar0]at hok';obtain⟨⟨⟨g1,g2⟩,g3⟩,g4⟩:=hok';have hd:∀j∈ds,∃v,f[j]?=some (some v)/\at' Rs j w v:=fun j hj=>by
  have:=g3 j hj;rw[Array.any_eq_true']at this;obtain⟨e,he,h⟩:=this;rw[arR,axe]at h;exact S.Sw j (h.2 ▸ Yp e he h.1)
 refine wpOp_step ho2 fun K' hKK=>?_
 have hw:Region.wanted o (yielded ops.toArray a.tmps)=true:=by
  unfold Region.wanted;cases h:o.guard with
  |none=>rfl
  |some y=>rw[h]at g1;simp at g1
 rw[awn hw];have hbi:(Rs[i]?).bind (·.ax)=k.ax:=by rw[hk];rfl
 have hbb:(Rs[i]?).bind (·.bx)=k.bx:=by rw[hk];rfl
 cases hks:k.ax with
 |none=>
  rw[hks]at Jl;simp only at Jl;obtain⟨g,hg1,hg2,hg⟩:=Sy ds _ hd (Jl.2 w S.gr);rw[List.length_replicate]at hg1;have hev:∀x∈o.op.operands,a.eval x=(l8 ops g a0).eval x:=fun x hx=>by
   rw[S.act];refine EC x ops f g a0 a0 (by rw[S.len,hg1]) rfl rfl fun j oj d h1 h2 h3=>?_
   have hj:=(arw.1 h1).1;have h4:=g4 j (ati.2 hj);by_cases hjd:j∈ds
   ·exact((hg2 j).1 hjd (by rw[List.length_replicate];exact hj)).symm
   ·rw[h1]at h4;simp only[arV,h2]at h4;rw[ate]at h4;rcases h4 with h4|h4
    ·exact absurd (by simpa using h4) hjd
    ·exfalso;rw[Bool.not_eq_true',List.any_eq_false]at h4;have h5:=h4 x (by simpa using hx);rw[h3]at h5;simp at h5
  have hsel:∀cs b,o.op≠.select cs b:=fun cs b e=>by rw[e]at g2;simp at g2
  have hex:=execOp_congr o hsel hev;have hsa:∀(s:Nat) (os:Oper) (x:Nat),(Rs[s]?).bind (·.ax)=some (i,x)->ops[s]?=some os->∃e∈os.after,Region.binds .any e=true/\e.on=i:=fun s os x h1 h2=>by
   obtain⟨ds',k',h3,h4,h5,_⟩:=BC ops JR Rs s os hl hok hst H h2;rw[h3]at h1;simp only[arV]at h1;unfold wU at h5;rw[h1]at h5;simp only[arR]at h5;have h6:ds'.contains i=true:=by
    have h6:=h5.1
    revert h6
    split
    ·intro h6;simp only[arR]at h6;exact h6.1.1.2
    ·intro h6;cases h6
   unfold Yo at h4;simp only[arR,ar0]at h4;have h7:=h4.1.2 i (by simpa using h6);rw[Array.any_eq_true']at h7;obtain⟨e,he,h⟩:=h7;rw[arR,axe]at h;exact⟨e,he,h.1,h.2⟩
  have fin:∀v w',Gr w w'->k.rk.R w' v->made N w' v k.bx->K' (a.put o.dst v) w':=fun v w' q h hm=>hKK _ _ (hK _ _ _ (S.step hN hl hap He ho hn Yp hsa (hbi.trans hks) q (agT hk h) (by rw[hbb];exact hm)))
  exact agV (F:=fun v w'=>Gr w w'/\k.rk.R w' v/\made N w' v k.bx) hex.symm (by rw[S.act,rF,rF]) (fun v w' h=>fin v w' h.1 h.2.1 h.2.2) (hg _ fun v w' q h hm=>⟨v,rfl,q,h,hm⟩)
 |some px=>
  obtain⟨p,x⟩:=px;rw[hks]at Jl;simp only at Jl;obtain⟨t,z,hbx⟩:=Sz He (hbi.trans hks);have htz:(t,z)∈T:=by
   have hpl:p<ops.length:=by
    rw[hl];cases hr:Rs[p]? with
    |none=>rw[hr]at hbx;cases hbx
    |some k=>exact(arw.1 hr).1
   obtain⟨ds',k',h3,_,_,h6⟩:=BC ops JR Rs p _ hl hok hst H (arq hpl);have hsn:=(BG He hbx).2.1;rw[h3]at hsn hbx;simp only[arV]at hsn hbx;rw[hsn]at h6;have:=h6.1;rw[hbx]at this;exact this
  unfold wU at hst';rw[hks]at hst';simp only[arR]at hst';have pE:=hst'.1;obtain⟨hI,Jl⟩:=Jl;unfold Hd at Jl;rw[hbx]at Jl;cases hop:o.op<;>rw[hop]at Jl pE<;>simp only at Jl
  case store ty X Y=>
   cases hdp:(ops[p]?).bind (·.dst)with
   |none=>rw[hdp]at pE;cases X<;>cases Y<;>simp at pE
   |some d'=>
    cases hdx:(ops[x]?).bind (·.dst)with
    |none=>rw[hdp,hdx]at pE;cases X<;>cases Y<;>simp at pE
    |some e'=>
     rw[hdp,hdx]at pE;cases X<;>try (simp at pE;done)
     cases Y<;>try (simp at pE;done)
     rename_i d e;simp only[arR,axe,awD]at pE;obtain⟨⟨⟨⟨⟨⟨rfl,rfl⟩,hdn⟩,hen⟩,hcp⟩,hcx⟩,hdst⟩:=pE;obtain⟨vp,hfp,hvp⟩:=hd p (by simpa using hcp);obtain⟨vx,hfx,hvx⟩:=hd x (by simpa using hcx);obtain⟨cs,rfl,hsz,hone⟩:=Jl.2 w vx hvx;obtain⟨b,rfl,hb,_,hz,_⟩:=S.bx p t z i x hbx vp hfp;have hz':=hz (S.none' i hn);have get:∀{q:Nat} {v:Value} {dd:Tmp},(ops[q]?).bind (·.dst)=some dd->f[q]?=some (some v)->dd<a0.tmps.size->a.eval (tmp dd)=v:=fun {q v dd} h1 h2 h3=>by
      rw[S.act];cases hq:ops[q]? with
      |none=>rw[hq]at h1;cases h1
      |some oq=>rw[hq]at h1;exact BF ops f a0 q oq hap hq h1 h2 h3
     have hk':∀w v,at' Rs i w v:=fun w v=>by
      unfold at';rw[hk];exact hI w v
     exact wp_store_row ty _ _ hop b cs (get hdp hfp hdn) (get hdx hfx hen) t z hz' (by rw[Jl.1,hsz]) hsz.symm hone (hKK _ _ (hK _ _ _ (S.ax hN hap He ho hn Yp (hbi.trans hks) hfp hfx hb hbx htz hz' hsz hk')))
def wV:List Oper→Nat→Bool
 | [],_=>true
 |o::r,i=>o.after.all (fun e=>!Region.binds .any e ||decide (e.on<i)) && wV r (i+1)
theorem JS:∀(l:List Oper) (k j:Nat) (o:Oper),wV l k=true→l[j]?=some o→∀e∈o.after,Region.binds .any e=true→e.on<k+j
 | [],_,_,_,_,h=>by simp at h
 |p::r,k,0,o,h,e=>by
  simp only[arC,awz]at e;subst e;unfold wV at h;rw[arR,atn]at h;intro e he hb;have:=h.1 e he;rw[hb]at this;simpa using this
 |p::r,k,j+1,o,h,e=>by
  unfold wV at h;rw[arR]at h;intro e' he hb;have:=JS r (k+1) j o h.2 (by simpa using e) e' he hb;omega
theorem Yq (hd:wV ops 0=true)(hs:listed.size=ops.length)(hr:Region.ready .any ops.toArray listed=[]):∀i,i<ops.length->listed[i]?=some true:=by
 intro i;induction i using Nat.strongRecOn with
 |ind i ih=>
  intro hi;have hz:i<listed.size:=by rw[hs];exact hi
  rw[asB hz];cases hb:listed[i]with
  |true=>rfl
  |false=>
   exfalso;have:i∈Region.ready .any ops.toArray listed:=by
    refine mem_ready.2 ⟨by rw[asE,asB hz,hb];rfl,ops[i],by rw[arB,arq hi],fun e he hb'=>?_⟩;have h1:=JS ops 0 i _ hd (arq hi) e he hb';have h2:=ih e.on ab ab;rw[asE,h2];rfl
   rw[hr]at this;cases this
theorem SA {Rs:List (Kd N T)}{w:World}{F:List (Option Value)}(He:xM Rs=true)(hct:∀(s a x:Nat) (t:TypeId) (z:Array Value),(Rs[s]?).bind (·.ax)=some (a,x)->(Rs[a]?).bind (·.bx)=some (t,z,s,x)->∃b cs,F[a]?=some (some (pointer (some ⟨b,0,none⟩)))/\F[x]?=some (some (agg cs))/\w.heap[b]?=some (cells cs t (0,0))):
  ∀(ops:List Oper) (kr:List (Kd N T)) (f:List (Option Value)) (vs:List Value) (a:Act),ops.length=kr.length->f.length=ops.length->F=vs.map some++f->Rs.drop vs.length=kr->(∀(i:Nat) (k:Kd N T),kr[i]?=some k->(∃v,f[i]?=some (some v)/\k.rk.R w v)/\∀p x,k.ax=some (p,x)->p<vs.length+i/\x<vs.length+i)->Fin' Q Rs w vs ops kr a->Q .normal (l8 ops f a) w
 | [],_,[],vs,a,_,_,_,_,_,h=>by
  unfold Fin' at h;exact h
 | [],_,_::_,vs,a,_,h,_,_,_,_=>by simp at h
 |_::_,[],_,vs,_,h,_,_,_,_,_=>by simp at h
 |_::_,_::_,[],vs,_,_,h,_,_,_,_=>by simp at h
 |o::r,k::kr,p::s,vs,a,hl,hf,hF,hR,hv,h=>by
  obtain⟨⟨v,e,hk⟩,hs⟩:=hv 0 k rfl;simp only[arC,awz]at e;subst e;have hRk:Rs[vs.length]?=some k:=by
   have:=congrArg (·[0]?) hR;simpa using this
  have hR2:Rs.drop (vs++[v]).length=kr:=by
   rw[ary,ar4,<-asT,hR];rfl
  have fit:∀{j:Nat} {u:Value},j<vs.length->F[j]?=some (some u)->vs.getD j undef=u:=fun {j u} hj hu=>by
   rw[hF,arO (by simpa using hj),ar3]at hu;cases hq:vs[j]? with
   |none=>rw[hq]at hu;cases hu
   |some y=>
    rw[hq]at hu;simp only[ar6,awz]at hu;rw[ar2,hq,hu];rfl
  unfold Fin' at h;refine SA He hct r kr s (vs++[v]) _ (by simpa using hl) (by simpa using hf) (by rw[hF];simp) hR2 (fun i k' h'=>?_) (h v hk ?_)
  ·obtain⟨h1,h2⟩:=hv (i+1) k' (by simpa using h');refine⟨by simpa using h1,fun p x hpx=>?_⟩;have:=h2 p x hpx;rw[ary,ar4];omega
  ·cases hks:k.ax with
   |none=>trivial
   |some px=>
    obtain⟨p,x⟩:=px;obtain⟨hp,hx⟩:=hs p x hks;obtain⟨t,z,hb⟩:=Sz He (s:=vs.length) (a:=p) (x:=x) (by rw[hRk];exact hks);obtain⟨b,cs,e1,e2,e3⟩:=hct _ _ _ _ _ (by rw[hRk];exact hks) hb;refine⟨b,cs,fit ab e1,fit ab e2,?_⟩;rw[hb];exact e3
def adv (Rs:List (Kd N T)):Bool:=(List.range Rs.length).all fun s=>match (Rs[s]?).bind (·.ax)with
 |some (a,x)=>decide (a<s) && decide (x<s)
 |none=>true
theorem Gn {Rs:List (Kd N T)}{w0}(hN:N=w0.heap.size)(hl:ops.length=Rs.length)(hap:iR ops=true)(He:xM Rs=true)(hlt:adv Rs=true)(hok:uo ops ops JR=true)(hst:wU ops a0.tmps.size ops JR Rs=true)(H:BZ P Rs w0 ops a0 ops JR Rs)(hdn:wV ops 0=true)(hF:∀w,Gr w0 w->Fin' Q Rs w [] ops Rs a0):∀(n) (listed) (a) (w) (f),left listed<=n->St Rs w0 ops a0 listed a w f->wpAny P .any ops.toArray Q n listed a w:=by
 have fin:∀(listed:Array Bool) (a:Act) (w:World) (f:List (Option Value)),St Rs w0 ops a0 listed a w f->Region.ready .any ops.toArray listed=[]->Q .normal a w:=fun listed a w f S h=>by
  have all:=Yq hdn S.ls h;have val:∀i:Nat,i<ops.length->∃v,f[i]?=some (some v)/\at' Rs i w v:=fun i hi=>S.Sw i (all i hi)
  rw[S.act];refine SA (F:=f) He (fun s p x t z h1 h2=>?_) ops Rs f [] a0 hl S.len rfl rfl (fun i k hk=>⟨?_,fun p x hpx=>?_⟩) (hF w S.gr)
  ·have lt:∀{i:Nat} {α:Type} {y:α} {g:Kd N T->Option α},(Rs[i]?).bind g=some y->i<ops.length:=fun {i α y g} h=>by
    rw[hl];cases hr:Rs[i]? with
    |none=>rw[hr]at h;cases h
    |some k=>exact(arw.1 hr).1
   obtain⟨v,e,_⟩:=val p (lt h2);obtain⟨u,e2,_⟩:=val s (lt h1);obtain⟨b,rfl,_,_,_,h4⟩:=S.bx p t z s x h2 v e;obtain⟨cs,e3,e4⟩:=h4 u e2;exact⟨b,cs,e,e3,e4⟩
  ·obtain⟨v,e,q⟩:=val i (by rw[hl];exact(arw.1 hk).1);unfold at' at q;rw[hk]at q;exact⟨v,e,q⟩
  ·unfold adv at hlt;rw[ar0]at hlt;have:=hlt i (ati.2 (arw.1 hk).1);rw[hk]at this;simp only[arV,hpx,arR,awD]at this;simpa using this
 intro n;induction n with
 |zero=>
  intro listed a w f hn S;have h:Region.ready .any ops.toArray listed=[]:=by
   cases hr:Region.ready .any ops.toArray listed with
   |nil=>rfl
   |cons i r=>
    have:=JQ (ops:=ops) (i:=i) S.ls (by rw[hr];exact asx ..);omega
  exact⟨h,fin listed a w f S h⟩
 |succ n ih=>
  intro listed a w f hn S;refine⟨fin listed a w f S,fun i hi=>S.op hN hl hap He hok hst H hi fun a' w' f' S'=>ih _ a' w' f' ?_ S'⟩;have:=JQ (ops:=ops) S.ls hi;omega
theorem iT {a}(Rs:List (Kd w.heap.size T))(JR)(hm:P.follows .mixedOrders=true)(hc:(iR ops && uo ops ops JR && wV ops 0 && ops.length == Rs.length && xM Rs && adv Rs && wU ops a.tmps.size ops JR Rs)=true)(H:BZ P Rs w ops a ops JR Rs)(hF:∀w',Gr w w'->Fin' Q Rs w' [] ops Rs a):(Code.region id ops.toArray true).wp P Q a w:=by
 simp only[arR,axe]at hc;obtain⟨⟨⟨⟨⟨⟨c1,c2⟩,c3⟩,c4⟩,c5⟩,c6⟩,c7⟩:=hc;refine axA hm ?_;have e:ops.toArray.size=ops.length:=asb ..;rw[e];refine Gn rfl c4 c1 c5 c6 c2 c7 H c3 hF ops.length _ a _ (List.replicate ops.length none) ?_ ⟨aq,aq,?_,(Gr.refl w).drew,fun i hi=>?_,fun i hi=>?_,fun i o _ hi=>?_,fun i t z s x _ v hv=>?_⟩
 ·unfold left;rw[Array.toList_replicate,List.countP_replicate];simp
 ·have:∀(l:List Oper) (n:Nat),l8 l (List.replicate n none) a=a:=by
   intro l;induction l with
   |nil=>intro n;cases n<;>rfl
   |cons o r ih=>intro n;cases n with
    |zero=>rfl
    |succ n=>exact ih n
  exact(this _ _).symm
 ·rw[atg]at hi;split at hi<;>simp at hi
 ·rw[atg]at hi;split at hi
  ·rename_i h;rw[as0,awn h]
  ·simp at hi
 ·rw[atg]at hi;split at hi<;>simp at hi
 ·rw[as0]at hv;split at hv<;>simp at hv
end
end Rg
namespace Vp
variable[Inhabited Hc.bH]
open Mm Hh Hc Mc Ud As En
variable{w w' w1 w2:World}{ty g B:Nat}{M H P U:Value}{p:Pl}
theorem JU {K K0}{hs}(X:Mx w K M H m hs)(h:K0<=K):Mx w K0 M H m hs:=by
 have up:∀{e sz n:Nat} {v:Value} {xs:List Value},w.ownsRow K e sz v n xs->w.ownsRow K0 e sz v n xs:=fun q=>by
  rcases q with⟨a,b|⟨k,cap,cur,hv,hk,r⟩⟩
  ·exact⟨a,.inl b⟩
  ·exact⟨a,.inr ⟨k,cap,cur,hv,arF h hk,r⟩⟩
 exact⟨up X.mem,up X.hrt,X.ok⟩
theorem bO.pre {D:Value×Value×Value}{r}(F:Fx (Dm g D.1 D.2.1 D.2.2) (Dm g M H P) w w1)(h:bO ty B w1 g M H P r e w'):bO ty B w g D.1 D.2.1 D.2.2 r e w':=by obtain⟨he,M',H',P',U',X,F2⟩:=h;exact⟨he,M',H',P',U',X,F.trans F2⟩
theorem adw {kY}{oa}(X:Pr ty B w g M H P U p)(hw:wrong p.m p.hs p.ps=0)(hus:fr'=true→kY=gM (gJ p) (ko (gJ p) (nums p.ps)))(G:Gr w w9)(R:Ry w9 w.heap.size (slice ma (aP (gJ p) (nums p.ps)).m.length mc) (slice ha (aP (gJ p) (nums p.ps)).hs.length hc) oa (aP (gJ p) (nums p.ps)))(hu:fr'=true->∃ua uc,U'=slice ua kY.length uc/\kY.length<=uc/\Un w9 ua kY.length kY)(un:∃ua n uc,U'=slice ua n uc)(Q:Ch g w9 w')(hb:w'.heap[g]?=some (cells #[slice ma (aP (gJ p) (nums p.ps)).m.length mc,slice ha (aP (gJ p) (nums p.ps)).hs.length hc,slice none 0 0,U',.bool fr'] ty (0,0)))(he:e=.returned (str (XF (aP (gJ p) (nums p.ps))))):bO ty B w g M H P (lY p kY fr') e w':=by
 have ok:mM ⟨(aP (gJ p) (nums p.ps)).m,(aP (gJ p) (nums p.ps)).hs,[],kY,fr'⟩:=by
  have:=acG X.ok (us:=kY) (fr:=fr') (fun _ h=>hus h);unfold lY at this;rw[awn hw]at this;exact this
 have e0:lY p kY fr'=(⟨(aP (gJ p) (nums p.ps)).m,(aP (gJ p) (nums p.ps)).hs,[],kY,fr'⟩,XF (aP (gJ p) (nums p.ps))):=by unfold lY;rw[awn hw]
 rw[e0];obtain⟨X2,F2⟩:=Pr.ran (w2:=w') X G Q hb R.mx ok hu un;exact⟨he,_,_,_,_,X2,F2⟩
structure Rf (p:Pl) (E K:Nat) (w:World) (x:Value×Value×Value×Value):Prop where
 one:x.1.oneCell'=true/\x.2.1.oneCell'=true/\x.2.2.1.oneCell'=true/\x.2.2.2.oneCell'=true
 yes:E=0->wrong p.m p.hs p.ps=0/\∃ma mc ha hc oa oc,x=(slice ma (aP (gJ p) (nums p.ps)).m.length mc,slice ha (aP (gJ p) (nums p.ps)).hs.length hc,slice oa (aP (gJ p) (nums p.ps)).out.length oc,int i64 (aP (gJ p) (nums p.ps)).steps)/\Ry w K x.1 x.2.1 oa (aP (gJ p) (nums p.ps))
theorem Rf.gr {E K}{x}(h:Rf p E K w x)(G:Gr w w'):Rf p E K w' x:=
 ⟨h.one,fun e=>by
  obtain⟨h1,ma,mc,ha,hc,oa,oc,h2,h3⟩:=h.yes e;exact⟨h1,ma,mc,ha,hc,oa,oc,h2,h3.gr G⟩⟩
theorem Rf.row {E K b}{x}{o cs}{t:Nat}(h:Rf p E K w x)(hb:w.heap[b]?=some (cells o t (0,0)))(ht:t≠5/\t≠43)(hn:Rg.Nn w b):Rf p E K (w.setRow b cs) x:=
 ⟨h.one,fun e=>by
  obtain⟨h1,ma,mc,ha,hc,oa,oc,h2,h3⟩:=h.yes e;exact⟨h1,ma,mc,ha,hc,oa,oc,h2,h3.row hb ht.1 ht.2 hn⟩⟩
def Uf (p:Pl) (E:Nat) (w:World) (u:Value):Prop:=(∃ua n uc,u=slice ua n uc)/\(E=0->∃ua uc,u=slice ua (gM (gJ p) (ko (gJ p) (nums p.ps))).length uc/\(gM (gJ p) (ko (gJ p) (nums p.ps))).length<=uc/\Un w ua (gM (gJ p) (ko (gJ p) (nums p.ps))).length (gM (gJ p) (ko (gJ p) (nums p.ps))))
theorem Uf.gr {E}{u}(h:Uf p E w u)(G:Gr w w'):Uf p E w' u:=
 ⟨h.1,fun e=>by
  obtain⟨ua,uc,h1,h2,h3⟩:=h.2 e;exact⟨ua,uc,h1,h2,h3.of G⟩⟩
theorem Uf.row {E b}{u}{cs}(h:Uf p E w u)(hn:Rg.Nn w b):Uf p E (w.setRow b cs) u:=
 ⟨h.1,fun e=>by
  obtain⟨ua,uc,h1,h2,h3⟩:=h.2 e;exact⟨ua,uc,h1,h2,adt h3 hn⟩⟩
structure Bf (p:Pl) (n K:Nat) (w:World) (x:Value×Value):Prop where
 one:x.1.oneCell'=true/\x.2.oneCell'=true
 yes:n<=p.us.length->∃ma mc ha hc,x=(slice ma (bI (p.hs,p.m) (p.us.drop (p.us.length-n))).2.length mc,slice ha (bI (p.hs,p.m) (p.us.drop (p.us.length-n))).1.length hc)/\Mx w K x.1 x.2 (bI (p.hs,p.m) (p.us.drop (p.us.length-n))).2 (bI (p.hs,p.m) (p.us.drop (p.us.length-n))).1
theorem Bf.gr {n K}{x}(h:Bf p n K w x)(G:Gr w w'):Bf p n K w' x:=
 ⟨h.one,fun e=>by
  obtain⟨ma,mc,ha,hc,h1,h2⟩:=h.yes e;exact⟨ma,mc,ha,hc,h1,h2.of G⟩⟩
theorem Bf.row {n K b}{x}{o cs}{t:Nat}(h:Bf p n K w x)(hb:w.heap[b]?=some (cells o t (0,0)))(ht:t≠5/\t≠43):Bf p n K (w.setRow b cs) x:=
 ⟨h.one,fun e=>by
  obtain⟨ma,mc,ha,hc,h1,h2⟩:=h.yes e;exact⟨ma,mc,ha,hc,h1,h2.to fun k o t f ht' e=>uI (by rcases ht' with rfl|rfl;exact aa e hb ht.1.symm;exact aa e hb ht.2.symm)⟩⟩
section
variable(hT : ∀ x ∈ T, (x.1 ≠ 5 /\ x.1 ≠ 43) /\ Rg.zn x.2 =true)
def EE (p:Pl) (E:Nat):Rg.Kd N T:=Rg.nT (fun x:(Value×Value×Value×Value)×Value=>tuple #[agg #[x.1.1,x.1.2.1,x.1.2.2.1,x.1.2.2.2],x.2,int i64 E]) (fun w x=>Rf p E N w x.1/\Uf p E w x.2) (fun g h=>⟨h.1.gr g,h.2.gr g⟩) fun hb ht hn h=>⟨h.1.row hb (hT _ ht).1 (hn (hT _ ht).2),h.2.row (hn (hT _ ht).2)⟩
def uq (p:Pl) (E:Nat):Rg.Kd N T:=Rg.nT (fun x:(Value×Value×Value×Value)×Value×Value×Value×Value=>tuple #[agg #[x.1.1,x.1.2.1,x.1.2.2.1,x.1.2.2.2],agg #[x.2.1,x.2.2.1,x.2.2.2.1,x.2.2.2.2],int i64 E]) (fun w x=>Rf p E N w x.1/\x.2.1.oneCell'=true/\x.2.2.1.oneCell'=true/\x.2.2.2.1.oneCell'=true/\x.2.2.2.2.oneCell'=true) (fun g h=>⟨h.1.gr g,h.2⟩) fun hb ht hn h=>⟨h.1.row hb (hT _ ht).1 (hn (hT _ ht).2),h.2⟩
def NL (p:Pl) (E:Nat):Rg.Kd N T:=Rg.nT (fun x:Value×Value×Value×Value=>agg #[x.1,x.2.1,x.2.2.1,x.2.2.2]) (fun w x=>Rf p E N w x) (fun g h=>h.gr g) fun hb ht hn h=>h.row hb (hT _ ht).1 (hn (hT _ ht).2)
def ZT (p:Pl) (E:Nat):Rg.Kd N T:=Rg.nT (fun u:Value=>u) (fun w u=>Uf p E w u) (fun g h=>h.gr g) fun _ ht hn h=>h.row (hn (hT _ ht).2)
def kCa:Rg.Kd N T:=Rg.nT (fun x:Value×Value×Value×Value=>agg #[x.1,x.2.1,x.2.2.1,x.2.2.2]) (fun _ x=>x.1.oneCell'=true/\x.2.1.oneCell'=true/\x.2.2.1.oneCell'=true/\x.2.2.2.oneCell'=true) (fun _ h=>h) fun _ _ _ h=>h
def ZU (p:Pl) (n E:Nat):Rg.Kd N T:=Rg.nT (fun x:Value×Value=>tuple #[agg #[x.1,x.2],int i64 E]) (fun w x=>Bf p n N w x) (fun g h=>h.gr g) fun hb ht _ h=>h.row hb (hT _ ht).1
def kMa (p:Pl) (n:Nat):Rg.Kd N T:=Rg.nT (fun x:Value×Value=>agg #[x.1,x.2]) (fun w x=>Bf p n N w x) (fun g h=>h.gr g) fun hb ht _ h=>h.row hb (hT _ ht).1
end
theorem Pr.parts (X:Pr ty B w g (slice ma p.m.length mc) (slice ha p.hs.length hc) (slice pa p.ps.length pc) U p):Mem w ma p.m.length p.m/\(ma=none->mc=0)/\Hs w ha p.hs.length p.hs/\Ps w pa p.ps.length p.ps:=by obtain⟨yO,mc',ha',hc',pa',pc',ua,un,uc,e1,e2,e3,_,h1,h2,h3,h4⟩:=X.open;injection e1 with a1 _ a2;injection e2 with b1 _ b2;injection e3 with c1 _ c2;subst a1 a2 b1 b2 c1 c2;exact⟨h1,h2,h3,h4⟩
theorem zh (p:Pl):((wrong p.m p.hs p.ps).toNat:Int)=wrong p.m p.hs p.ps:=by have:=(l7 p.m p.hs p.ps).1;omega
section
variable{W:World}
theorem agW (X:Pr ty B w g (slice ma p.m.length mc) (slice ha p.hs.length hc) (slice pa p.ps.length pc) U p)(T:Tz B w)(G:Gr w W):Calls prog 10 #[agg #[slice ma p.m.length mc,slice ha p.hs.length hc],slice pa p.ps.length pc] W fun e w'=>∃x:(Value×Value×Value×Value)×Value,e=.returned (tuple #[agg #[x.1.1,x.1.2.1,x.1.2.2.1,x.1.2.2.2],x.2,int i64 ((wrong p.m p.hs p.ps).toNat:Nat)])/\(Rf p (wrong p.m p.hs p.ps).toNat w.heap.size w' x.1/\Uf p (wrong p.m p.hs p.ps).toNat w' x.2)/\Gr W w':=by
 obtain⟨Mm,hcap,Yr,Pp⟩:=X.parts;have en:=zh p;by_cases hw:wrong p.m p.hs p.ps=0
 ·refine(Sn mc hc pc p.m.length (T.gr G) (Mm.of G) hcap (Yr.of G) (Pp.of G) hw).mono ?_;rintro e w' ⟨a,b,c,d,e1,f,h,i,rfl,R,h1,h2,G2⟩;refine⟨((_,_,_,_),_),by rw[hw];rfl,⟨⟨⟨rfl,rfl,rfl,rfl⟩,fun _=>⟨hw,a,b,c,d,e1,f,rfl,⟨JU R.mx G.size,R.out⟩⟩⟩,⟨⟨_,_,_,rfl⟩,fun _=>⟨h,i,rfl,h2,h1⟩⟩⟩,G2⟩
 ·have b1:=X.ok.m4;have b2:=X.ok.h4;have b3:=X.ok.p3;refine(XM mc hc pc p.m.length rfl (Yr.of G) (Pp.of G) ab ab ab hw).mono ?_;rintro e w' ⟨rfl,G2⟩;have h0:(wrong p.m p.hs p.ps).toNat≠0:=ab;exact⟨((_,_,_,_),_),by rw[en],⟨⟨⟨rfl,rfl,rfl,rfl⟩,fun h=>absurd h h0⟩,⟨⟨_,_,_,rfl⟩,fun h=>absurd h h0⟩⟩,G2⟩
theorem agX {room:Nat}(hr:room<4294967296)(X:Pr ty B w g (slice ma p.m.length mc) (slice ha p.hs.length hc) (slice pa p.ps.length pc) U p)(T:Tz B w)(G:Gr w W):Calls prog 12 #[agg #[slice ma p.m.length mc,slice ha p.hs.length hc],slice pa p.ps.length pc,int i64 (room:Int)] W fun e w'=>∃x:(Value×Value×Value×Value)×Value×Value×Value×Value,e=.returned (tuple #[agg #[x.1.1,x.1.2.1,x.1.2.2.1,x.1.2.2.2],agg #[x.2.1,x.2.2.1,x.2.2.2.1,x.2.2.2.2],int i64 (Bz p room:Nat)])/\(Rf p (Bz p room) w.heap.size w' x.1/\x.2.1.oneCell'=true/\x.2.2.1.oneCell'=true/\x.2.2.2.1.oneCell'=true/\x.2.2.2.2.oneCell'=true)/\Gr W w':=by
 obtain⟨Mm,hcap,Yr,Pp⟩:=X.parts;by_cases hE:Bz p room=0
 ·obtain⟨hw,h6⟩:wrong p.m p.hs p.ps=0/\room<=64:=by
   have hw:=l7 p.m p.hs p.ps;unfold Bz at hE;split at hE
   ·rename_i h1;split at hE<;>omega
   ·omega
  refine(Su mc hc pc p.m.length (T.gr G) (Mm.of G) hcap (Yr.of G) (Pp.of G) hw ab ab).mono ?_;rintro e w' ⟨a,b,c,d,e1,f,c1,c2,c3,c4,c5,c6,rfl,R,G2⟩;exact⟨((_,_,_,_),_,_,_,_),by rw[hE];rfl,⟨⟨⟨rfl,rfl,rfl,rfl⟩,fun _=>⟨hw,a,b,c,d,e1,f,rfl,⟨JU R.mx G.size,R.out⟩⟩⟩,rfl,rfl,rfl,rfl⟩,G2⟩
 ·have b1:=X.ok.m4;have b2:=X.ok.h4;have b3:=X.ok.p3;have H:Calls prog 12 #[agg #[slice ma p.m.length mc,slice ha p.hs.length hc],slice pa p.ps.length pc,int i64 (room:Int)] W fun e w'=>∃ma1 mc1 ha1 hc1 oa1 oc1 k2 k4,e=.returned (tuple #[agg #[slice ma1 0 mc1,slice ha1 0 hc1,slice oa1 0 oc1,int i64 0],agg #[int i64 0,slice k2 0 k4,int i64 0,int i64 0],int i64 (Bz p room:Nat)])/\Gr W w':=by
   letI:Inhabited Hc.bH:=⟨⟨w.heap.size⟩⟩
   have h0:acD w ma ha pa p.m.length mc p.hs.length hc p.ps.length pc (room:Int) (Bz p room:Nat):=by
    unfold Bz at hE ⊢;by_cases hw:wrong p.m p.hs p.ps=0
    ·rw[awn hw]at hE ⊢;by_cases h6:64<room
     ·rw[awn h6]at hE ⊢;exact Xx mc hc pc p.m.length (room:Int) Mm hcap Yr Pp hw (.inr ⟨ab,ab⟩) (arA _)
     ·rw[awm h6]at hE;exact absurd rfl hE
    ·rw[awm hw,zh];exact acE mc hc pc p.m.length (room:Int) rfl Yr Pp ab ab ab hw
   refine(h0 W G).mono ?_;rintro e w' ⟨v,a,c,rfl,⟨x1,x2,x3,x4,x5,x6,rfl,_⟩,G2⟩;exact⟨x1,x2,x3,x4,x5,x6,a,c,rfl,G2⟩
  refine H.mono ?_;rintro e w' ⟨x1,x2,x3,x4,x5,x6,a,c,rfl,G2⟩;exact⟨((_,_,_,_),_,_,_,_),rfl,⟨⟨⟨rfl,rfl,rfl,rfl⟩,fun h=>absurd h hE⟩,rfl,rfl,rfl,rfl⟩,G2⟩
end
structure ZV (ty f:Nat):Prop where
 y:∀{w:World} {g:Nat} {M H P U:Value} {oa:Option Addr} {n oc st:Nat} {fr:Value} {ma ha:Option Addr} {mn mc hn hc:Nat} {l:List Nat},w.heap[g]?=some (cells #[M,H,P,U,fr] ty (0,0))->Ns .u32 w oa n l->(∀b o,oa=some ⟨b,o,none⟩->0<n->b≠g)->(∀x∈l,x<4294967296)->n<=200000->st<=200000->(∀{W:World},Ch g w W->ig W)->
  Calls prog f #[pointer (some ⟨g,0,none⟩),agg #[slice ma mn mc,slice ha hn hc,slice oa n oc,int i64 st],int i64 0] w fun e w'=>e=.returned (str (aB lV (st::l)))/\w'.heap[g]?=some (cells #[slice ma mn mc,slice ha hn hc,slice none 0 0,U,fr] ty (0,0))/\Ch g w w'
 n:∀{w:World} {g e:Nat} {v0 v1 v2 v3:Value},e≠0->e<=100->(v0.oneCell'=true/\v1.oneCell'=true/\v2.oneCell'=true/\v3.oneCell'=true)->(∀{W:World},Gr w W->ig W)->
  Calls prog f #[pointer (some ⟨g,0,none⟩),agg #[v0,v1,v2,v3],int i64 e] w fun e' w'=>e'=.returned (str (aB qj [e]))/\Gr w w'
theorem ZV.yes {f}{fr'}{kY}{U'}{w9 w8}{x}(HR:ZV ty f)(X:Pr ty B w g M H P U p)(T:Tz B w)(hus:fr'=true→kY=gM (gJ p) (ko (gJ p) (nums p.ps)))(G:Gr w w9)(R:Rf p 0 w.heap.size w9 x)(hu:fr'=true->∃ua uc,U'=slice ua kY.length uc/\kY.length<=uc/\Un w9 ua kY.length kY)(un:∃ua n uc,U'=slice ua n uc)(Q:Ch g w9 w8)(hb:w8.heap[g]?=some (cells #[M,H,P,U',.bool fr'] ty (0,0))):Calls prog f #[pointer (some ⟨g,0,none⟩),agg #[x.1,x.2.1,x.2.2.1,x.2.2.2],int i64 0] w8 (bO ty B w g M H P (lY p kY fr')):=by
 obtain⟨hw,ma,mc,ha,hc,oa,oc,rfl,R⟩:=R.yes rfl;have og:=Sj X.ok hw;have h1:=og.few;have h2:=og.st;have N9:=agI R.out (fun x hx=>(og.w x hx).1);have X9:=X.gr G;have nb:∀b o,oa=some ⟨b,o,none⟩->0<(aP (gJ p) (nums p.ps)).out.length->b≠g:=fun b o e h0=>by
  obtain⟨b',o',e',_,hc'⟩:=R.out.spot h0;rw[e]at e';injection e' with e';injection e' with e1 e2;subst e1 e2;have:=hc' 0 h0;rintro rfl;exact(X9.ZP _ _ this _).2 rfl
 have N8:Ns .u32 w8 oa (aP (gJ p) (nums p.ps)).out.length ((aP (gJ p) (nums p.ps)).out.map Int.toNat):=⟨N9.len,fun h0=>by
  obtain⟨b,o,e,hb',hc'⟩:=N9.spot h0;exact⟨b,o,e,arD hb' Q.size,fun t x hx=>(awv (a:=⟨b,o+t,none⟩) (Q.block b hb' (fun h=>by injection h with h;exact nb b o e h0 h))).trans (hc' t x hx)⟩⟩
 refine(HR.y hb N8 (fun b o e h0=>nb b o e h0) (fun x hx=>?_) ab ab (fun {W} q=>(T.below ?_).Bu)).mono ?_
 ·obtain⟨y,hy,rfl⟩:=arY.1 hx;have:=og.w y hy;omega
 ·have:Ch g w W:=((Ch.refl g w).gr G).trans (Q.trans q);exact this.below X.bg X.le
 ·rintro e w' ⟨he,hb',Q'⟩;exact adw X hw hus G R hu un (Q.trans Q') hb' he
theorem JV (X:Pr ty B w g M H P U p)(hf:p.fr=true)(hn:n≤p.us.length)(G:Gr w w9)(Y:Mx w9 w.heap.size (slice ma (bI (p.hs,p.m) (p.us.drop (p.us.length-n))).2.length mc) (slice ha (bI (p.hs,p.m) (p.us.drop (p.us.length-n))).1.length hc) (bI (p.hs,p.m) (p.us.drop (p.us.length-n))).2 (bI (p.hs,p.m) (p.us.drop (p.us.length-n))).1)(Q:Ch g w9 w')(hb:w'.heap[g]?=some (cells #[slice ma (bI (p.hs,p.m) (p.us.drop (p.us.length-n))).2.length mc,slice ha (bI (p.hs,p.m) (p.us.drop (p.us.length-n))).1.length hc,P,U,.bool false] ty (0,0)))(he:e=.returned (str sU)):bO ty B w g M H P (gm p [n]) e w':=by
 obtain⟨_,_,h1,h2,h3⟩:=A8 X.ok hf hn;have e0:gm p [n]=({ p with hs:=(bI (p.hs,p.m) (p.us.drop (p.us.length-n))).1,m:=(bI (p.hs,p.m) (p.us.drop (p.us.length-n))).2,fr:=false },sU):=by simp only[gm,awn (show p.fr=true/\n<=p.us.length from⟨hf,hn⟩)]
 rw[e0];have ok:mM { p with m:=(bI (p.hs,p.m) (p.us.drop (p.us.length-n))).2,hs:=(bI (p.hs,p.m) (p.us.drop (p.us.length-n))).1,fr:=false }:=
  ⟨by show(bI _ _).2.length<=_;rw[h3];exact X.ok.m4,by show(bI _ _).1.length<=_;rw[h2];exact X.ok.h4,h1,X.ok.p3,X.ok.pk,fun h=>(by cases h),fun h=>(by cases h)⟩
 obtain⟨X2,F2⟩:=Pr.ada (w2:=w') X G Q hb Y ok;exact⟨he,_,_,_,_,X2,F2⟩
theorem agY (o:mM p)(hf:p.fr=true)(hn:n<=p.us.length)(Mm:Mem w ma p.m.length p.m)(hcap:ma=none->mc=0)(H:Hs w ha p.hs.length p.hs)(U:Us w ua p.us.length p.us)(hlc:p.us.length<=uc):Calls prog 17 #[agg #[slice ma p.m.length mc,slice ha p.hs.length hc],slice ua p.us.length uc,int i64 n] w fun e w'=>∃yO mc' ha' hc',e=.returned (tuple #[agg #[slice yO (bI (p.hs,p.m) (p.us.drop (p.us.length-n))).2.length mc',slice ha' (bI (p.hs,p.m) (p.us.drop (p.us.length-n))).1.length hc'],int i64 0])/\Mx w' w.heap.size (slice yO (bI (p.hs,p.m) (p.us.drop (p.us.length-n))).2.length mc') (slice ha' (bI (p.hs,p.m) (p.us.drop (p.us.length-n))).1.length hc') (bI (p.hs,p.m) (p.us.drop (p.us.length-n))).2 (bI (p.hs,p.m) (p.us.drop (p.us.length-n))).1/\Gr w w':=by
 obtain⟨h0,_,h1,h2,h3⟩:=A8 o hf hn;have hy:XQ p.m.length p.hs p.us (n:Int)=0:=by
  have h4:=(o.ne hf).1;unfold XQ;rw[awm,awm (by rw[h0];simp),ak];unfold kR;rw[awC ⟨o.m4,h4,o.h4⟩,ar0.2 fun h hm=>(o.hok h hm).2];simp
 refine(MS Mm hcap H U (by have:=(o.ne hf).2;omega) hlc hy).mono ?_;rintro e w' ⟨v,rfl,h,G⟩;rw[arS]at h;obtain⟨M',H',rfl,X⟩:=XT h (arA _);obtain⟨yO,mc',ha',hc',rfl,rfl⟩:=tF X;exact⟨_,_,_,_,rfl,X,G⟩
theorem ubk {n:Nat}{W}(X:Pr ty B w g (slice ma p.m.length mc) (slice ha p.hs.length hc) (slice pa p.ps.length pc) (slice ua p.us.length uc) p)(hf:p.fr=true)(Yt:Us w ua p.us.length p.us)(hlc:p.us.length<=uc)(G:Gr w W):Calls prog 17 #[agg #[slice ma p.m.length mc,slice ha p.hs.length hc],slice ua p.us.length uc,int i64 n] W fun e w'=>∃x,e=.returned (tuple #[agg #[x.1,x.2],int i64 ((if n<=p.us.length then 0 else 3:Nat):Nat)])/\Bf p n w.heap.size w' x/\Gr W w':=by
 obtain⟨Mm,hcap,Yr,Pp⟩:=X.parts;by_cases hn:n<=p.us.length
 ·refine(agY X.ok hf hn (Mm.of G) hcap (Yr.of G) (Yt.of G) hlc).mono ?_;rintro e w' ⟨a,b,c,d,rfl,Y,G2⟩;exact⟨(_,_),by rw[awn hn];rfl,⟨⟨rfl,rfl⟩,fun _=>⟨a,b,c,d,rfl,JU Y G.size⟩⟩,G2⟩
 ·have b1:=X.ok.m4;have b2:=X.ok.h4;have b3:=(X.ok.ne hf).2;have hz:=(A8 X.ok hf (arQ _)).1;have hk:XQ p.m.length p.hs p.us (n:Int)=3:=by
   have h4:=(X.ok.ne hf).1;unfold XQ;rw[awm,awm (by rw[hz];simp),eB];unfold kR;rw[awC ⟨X.ok.m4,h4,X.ok.h4⟩,ar0.2 fun h hm=>(X.ok.hok h hm).2];simp
  have h0:=RV (ma:=ma) (mc:=mc) (hc:=hc) (lc:=uc) (mn:=p.m.length) (st:=(n:Int)) (Yr.of G) (Yt.of G) ab ab ab (by rw[hk];omega);rw[hk]at h0;refine h0.mono ?_;rintro e w' ⟨rfl,G2⟩;exact⟨(_,_),by rw[awm hn];rfl,⟨⟨rfl,rfl⟩,fun h=>absurd h hn⟩,G2⟩
end Vp
namespace Vp
variable[Inhabited Hc.bH]
open Mm Hh Hc Mc Ud As En Kc
variable{p:Pl}
theorem Ri:(prog.info? 47).map (·.size)=some 4:=al
theorem xB:(prog.info? 54).map (·.size)=some 4:=al
theorem MX {a b c d}(h:a.oneCell'=true/\b.oneCell'=true/\c.oneCell'=true/\d.oneCell'=true):(#[a,b,c,d]:Array Value).all (·.oneCell')=true:=by simp[h.1,h.2.1,h.2.2.1,h.2.2.2]
theorem all2 {a b}(h:a.oneCell'=true/\b.oneCell'=true):(#[a,b]:Array Value).all (·.oneCell')=true:=by simp[h.1,h.2]
def tS:List (TypeId×Array Value):=[(47,#[slice none 0 0,slice none 0 0,slice none 0 0,int i64 0])]
def JW:List (TypeId×Array Value):=[(47,#[slice none 0 0,slice none 0 0,slice none 0 0,int i64 0]),(54,#[int i64 0,slice none 0 0,int i64 0,int i64 0])]
def tM:List (TypeId×Array Value):=[(28,#[slice none 0 0,slice none 0 0])]
def tB:List (TypeId×Array Value):=[(64,#[int .u32 0,slice none 0 0])]
theorem xN:∀x∈tS,(x.1≠5/\x.1≠43)/\Rg.zn x.2=true:=an
theorem zi:∀x∈JW,(x.1≠5/\x.1≠43)/\Rg.zn x.2=true:=an
theorem notM:∀x∈tM,(x.1≠5/\x.1≠43)/\Rg.zn x.2=true:=an
theorem pF (h:Rg.Ct w t (pointer (some ⟨b,0,none⟩)) (agg cs)):w.heap[b]?=some (cells cs t (0,0)):=by obtain⟨b',cs',e1,e2,h⟩:=h;injection e1 with e1;injection e1 with e1;injection e1 with e1;injection e2 with e2;subst e1 e2;exact h
theorem rG {u:Nat}{o q}(h:w.heap[b]?=some (cells o t (0,0)))(h':w.heap[c]?=some (cells q u (0,0)))(e:t≠u):b≠c:=aa h h' e
theorem oU:ZV 71 78:=⟨fun hb N hx hl hn hs T=>Yf hb N hx hl hn hs T,fun h0 h1 hv T=>adj h0 h1 hv T⟩
theorem AL (X:Pr 71 B w g M H P U p)(T:Tz B w):Calls prog 47 #[pointer (some ⟨g,0,none⟩)] w (bO 71 B w g M H P (MG p [])):=by
 obtain⟨ma,mc,ha,hc0,pa,pc,ua,un,uc,rfl,rfl,rfl,rfl, -⟩:=X.open;have z0:=fA X.blk;have z1:=eH X.blk;have z2:=uJ X.blk;have hgl:=(gs X.blk).1;have HU:Hid (∀W:World,Gr w W->_):=fun W G=>agW X T G
 have HX:=kH X;have HT:=kH T;have HE:Hid ((wrong p.m p.hs p.ps).toNat<=100/\((wrong p.m p.hs p.ps).toNat≠0->lY p (gM (gJ p) (ko (gJ p) (nums p.ps))) true=(p,aB qj [(wrong p.m p.hs p.ps).toNat]))):=⟨by have:=l7 p.m p.hs p.ps;omega,fun h=>by unfold lY;rw[ak]⟩;obtain⟨RES,hq⟩:∃r,MG p []=r:=⟨_,rfl⟩;rw[hq];have HQ:Hid (lY p (gM (gJ p) (ko (gJ p) (nums p.ps))) true=RES):=hq;generalize(wrong p.m p.hs p.ps).toNat=E at *
 go_enter func47,ntmps47;go_wp2_with fail;refine Rg.iT (T:=tS) [Rg.Val (pointer (some ⟨g,0,none⟩)),Rg.Val (pointer (some ⟨g,0,none⟩)),Rg.Val (pointer (some ⟨g,0,none⟩)),Rg.Val (agg #[slice ma p.m.length mc,slice ha p.hs.length hc0]),Rg.Val (pointer (some ⟨g,0,none⟩)),Rg.Val (pointer (some ⟨g,0,none⟩)),Rg.Val (pointer (some ⟨g,2,none⟩)),Rg.Val (slice pa p.ps.length pc),EE xN p E,EE xN p E,NL xN p E,ZT xN p E,Rg.Val (int i64 (E:Nat)),Rg.oP 47 #[slice none 0 0,slice none 0 0,slice none 0 0,int i64 0] 14 10,Rg.oQ 13 10,ZT xN p E,Rg.Val (int i64 (E:Nat))] [[],[0],[1],[2],[],[4],[5],[6],[3,7],[8],[9],[9],[9],[],[13,10],[11],[12]] al al ?_ ?_
 ·simp only[Rg.BZ,Rg.Hd,Rg.dep,Rg.Ob,Rg.at',Rg.Val,Rg.Fa,Rg.nT,Rg.oP,Rg.oQ,Rg.made,Rg.l8,List.replicate,arM,ar8,art,ars,arC,arJ,arV,Act.put,arp,Rg.inT,tS,JW,tM,arG,arL,axq,axr,aw7,EE,NL,ZT];refine⟨?_,?_,?_,?_,?_,?_,?_,?_,?_,?_,?_,?_,?_,?_,?_,?_,?_,trivial⟩
  case refine_15=>exact⟨fun _ _=>trivial,Ri,fun w v ⟨x,e,h⟩=>⟨_,e,rfl,MX h.one⟩⟩
  all_goals intro W hW
  all_goals (have q0:=(hW.cell _ (by exact hgl)).trans z0;have q1:=(hW.cell _ (by exact hgl)).trans z1;have q2:=(hW.cell _ (by exact hgl)).trans z2)
  case refine_9=>
   rintro _ rfl _ rfl K hK;go_simp;refine(HU W hW).mono ?_;rintro e w' ⟨x,rfl,h,G⟩;exact hK.out _ _ G ⟨x,rfl,h⟩ trivial
  all_goals intros
  all_goals rename_i K hK
  all_goals first|(rename_i hh;obtain⟨_,rfl,hf⟩:=hh)|skip
  all_goals subst_vars
  all_goals go_simp
  all_goals first|exact hK.out _ _ (Gr.refl _) rfl trivial|exact hK.out _ _ br ⟨_,rfl,hW.size⟩ ⟨_,rfl,hW.size,awk _ _⟩|exact hK.out _ _ (Gr.refl _) ⟨_,rfl,hf⟩ trivial|exact hK.out _ _ (Gr.refl _) ⟨_,rfl,hf.1⟩ trivial|exact hK.out _ _ (Gr.refl _) ⟨_,rfl,hf.2⟩ trivial
 ·intro w9 G9;simp only[Rg.Fin',Rg.Val,Rg.Fa,Rg.nT,Rg.oP,Rg.oQ,aw5,Act.put,arp,art,ars,arC,arJ,arV,ar6,asi,arT,arU,ast,asu,EE,NL,ZT];rintro _ rfl _ rfl _ rfl _ rfl _ rfl _ rfl _ rfl _ rfl v8-v9-_ ⟨⟨s0,s1,s2,s3⟩,rfl,R⟩ v11-_ rfl _ ⟨b,rfl,hb0⟩ v14 hct _ ⟨u,rfl,hu⟩ _ rfl;have hb:=pF hct;have y0:=fA hb;have y1:=eH hb;have y2:=uJ hb;have y3:=Ca hb;have hk:=(HX.gr G9).blk;have x3:=Ca hk;have x4:=tO hk;have f3:w9.frozen? ⟨g,3,none⟩=false:=iA hk;have f4:w9.frozen? ⟨g,4,none⟩=false:=iA hk;have ne:=rG hk hb an;have ne2:=ne.symm;have HRR:=kH R;have HUU:=kH hu;have HK:=kH hk;have HG:=kH G9;obtain⟨⟨a1,n1,c1,rfl⟩,_⟩:=hu;by_cases hE:E=0
  ·subst hE;have HA:=ZV.yes (M:=slice ma p.m.length mc) (H:=slice ha p.hs.length hc0) (P:=slice pa p.ps.length pc) (U:=slice ua un uc) (w8:=(w9.setCell ⟨g,3,none⟩ (slice a1 n1 c1)).setCell ⟨g,4,none⟩ (.bool true)) (fr':=true) (kY:=gM (gJ p) (ko (gJ p) (nums p.ps))) (U':=slice a1 n1 c1) (x:=(s0,s1,s2,s3)) oU HX HT (fun _=>rfl) HG HRR (fun _=>HUU.2 rfl) ⟨_,_,_,rfl⟩ (((Ch.refl g w9).setCell 3 _).setCell 4 _) (by
    have e:=hss (i:=3) (v:=slice a1 n1 c1) HK;rw[hss e];simp)
   rw[HQ.out]at HA;have Hg:=kH HA;go_wp2_with fail;refine Hg.mono ?_;rintro e w' ⟨rfl,h⟩;go_wp2_with fail;go_ret;exact⟨rfl,h⟩
  ·have Hg:Hid (Calls prog 78 #[pointer (some ⟨g,0,none⟩),agg #[s0,s1,s2,s3],int i64 (E:Nat)] w9 fun e w'=>e=.returned (str (aB qj [E]))/\Gr w9 w'):=oU.n hE HE.1 HRR.one fun G=>(HT.gr (HG.trans G)).Bu
   have hE':¬(E:Int)=0:=ab;rw[HE.out.2 hE]at HQ;go_wp2_with fail;refine Hg.mono ?_;rintro e w' ⟨rfl,h⟩;have uu:=kH (HG.trans h);go_wp2_with fail;go_ret;rw[<-HQ.out];exact⟨rfl,_,_,_,_,HX.gr uu,Fx.aJ uu⟩
theorem EF (p)(room):Bz p room<=100/\lZ p [room]=if Bz p room=0 then lY { p with fr:=false } p.us false else({ p with fr:=false },aB qj [Bz p room]):=by
 have hw:=l7 p.m p.hs p.ps;unfold Bz;by_cases h:wrong p.m p.hs p.ps=0
 ·by_cases h6:64<room
  ·simp[lZ,h,h6]
  ·simp[lZ,h,h6]
 ·have h0:¬(wrong p.m p.hs p.ps).toNat=0:=ab;refine⟨by rw[awm h];omega,?_⟩;simp only[lZ,awm h,awm h0,awm (show¬(wrong p.m p.hs p.ps=0/\64<room)from fun q=>h q.1),lY]
theorem SB {room:Nat}(hr:room<4294967296)(X:Pr 71 B w g M H P U p)(T:Tz B w):Calls prog 48 #[pointer (some ⟨g,0,none⟩),int .u32 room] w (bO 71 B w g M H P (lZ p [room])):=by
 obtain⟨ma,mc,ha,hc0,pa,pc,ua,un,uc,rfl,rfl,rfl,rfl, -⟩:=X.open;obtain⟨X1,F1⟩:=X.down;have f4:w.frozen? ⟨g,4,none⟩=false:=iA X.blk;have z4:=tO X.blk;have jy:Hid _:=X1;have mO:Hid (Fx _ _ _ _):=F1;have HT1:Hid (Tz B (w.setCell ⟨g,4,none⟩ (.bool false))):=T.below (F1.below (fun k hk=>(X.dom k hk).1) X.le);have hwr:IntKind.i64.wrap (room:Int)=(room:Int):=by rw[awO];omega
 have Yu:Hid (∀W1:World,Pr 71 B W1 g (slice ma p.m.length mc) (slice ha p.hs.length hc0) (slice pa p.ps.length pc) (slice ua un uc) { p with fr:=false }->Tz B W1->∀W:World,Gr W1 W->Calls prog 12 #[agg #[slice ma p.m.length mc,slice ha p.hs.length hc0],slice pa p.ps.length pc,int i64 (room:Int)] W _):=fun W1 X T W G=>agX (p:={ p with fr:=false }) hr X T G
 obtain⟨hE1,hq⟩:=EF p room;obtain⟨RES,hq2⟩:∃r,lZ p [room]=r:=⟨_,rfl⟩;rw[hq2];rw[hq2]at hq;have HQ:Hid (RES=_):=hq;have HE:Hid (Bz p room<=100):=hE1;clear X X1 F1 T hq hq2 hE1;rw[show Bz { p with fr:=false } room=Bz p room from rfl]at Yu;generalize Bz p room=E at *
 go_enter func48,ntmps48;go_wp2_with fail;refine aK (fun W1=>Pr 71 B W1 g (slice ma p.m.length mc) (slice ha p.hs.length hc0) (slice pa p.ps.length pc) (slice ua un uc) { p with fr:=false }/\Fx (Dm g (slice ma p.m.length mc) (slice ha p.hs.length hc0) (slice pa p.ps.length pc)) (Dm g (slice ma p.m.length mc) (slice ha p.hs.length hc0) (slice pa p.ps.length pc)) w W1/\Tz B W1) ⟨jy,mO,HT1⟩ ?_;clear jy mO HT1 z4 f4;rintro w1 ⟨X,F,T⟩;have HU:Hid _:=Yu w1 X T;have HX:Hid (Pr 71 B w1 g (slice ma p.m.length mc) (slice ha p.hs.length hc0) (slice pa p.ps.length pc) (slice ua un uc) { p with fr:=false }):=X;have HF:Hid (Fx (Dm g (slice ma p.m.length mc) (slice ha p.hs.length hc0) (slice pa p.ps.length pc)) (Dm g (slice ma p.m.length mc) (slice ha p.hs.length hc0) (slice pa p.ps.length pc)) w w1):=F;have HT:Hid (Tz B w1):=T;have z0:=fA X.blk;have z1:=eH X.blk;have z2:=uJ X.blk;have hgl:g<w1.heap.size:=(gs X.blk).1;clear X F T Yu;refine Rg.iT (T:=JW) [Rg.Val (pointer (some ⟨g,0,none⟩)),Rg.Val (pointer (some ⟨g,0,none⟩)),Rg.Val (pointer (some ⟨g,0,none⟩)),Rg.Val (agg #[slice ma p.m.length mc,slice ha p.hs.length hc0]),Rg.Val (pointer (some ⟨g,0,none⟩)),Rg.Val (pointer (some ⟨g,0,none⟩)),Rg.Val (pointer (some ⟨g,2,none⟩)),Rg.Val (slice pa p.ps.length pc),Rg.Val (int .u32 (room:Int)),Rg.Val (int i64 (room:Int)),uq zi { p with fr:=false } E,uq zi { p with fr:=false } E,NL zi { p with fr:=false } E,kCa,Rg.Val (int i64 (E:Nat)),Rg.oP 47 #[slice none 0 0,slice none 0 0,slice none 0 0,int i64 0] 17 12,Rg.oP 54 #[int i64 0,slice none 0 0,int i64 0,int i64 0] 18 13,Rg.oQ 15 12,Rg.oQ 16 13,Rg.Val (int i64 (E:Nat))] [[],[0],[1],[2],[],[4],[5],[6],[],[8],[3,7,9],[10],[11],[11],[11],[],[],[15,12],[16,13],[14]] al al ?_ ?_
 ·simp only[Rg.BZ,Rg.Hd,Rg.dep,Rg.Ob,Rg.at',Rg.Val,Rg.Fa,Rg.nT,Rg.oP,Rg.oQ,Rg.made,Rg.l8,List.replicate,arM,ar8,art,ars,arC,arJ,arV,Act.put,arp,Rg.inT,tS,JW,tM,arG,arL,axq,axr,aw7,uq,NL,kCa];refine⟨?_,?_,?_,?_,?_,?_,?_,?_,?_,?_,?_,?_,?_,?_,?_,?_,?_,?_,?_,?_,trivial⟩
  case refine_18=>exact⟨fun _ _=>trivial,Ri,fun w v ⟨x,e,h⟩=>⟨_,e,rfl,MX h.one⟩⟩
  case refine_19=>exact⟨fun _ _=>trivial,xB,fun w v ⟨x,e,h⟩=>⟨_,e,rfl,MX h⟩⟩
  all_goals intro W hW
  all_goals (have q0:=(hW.cell _ (by exact hgl)).trans z0;have q1:=(hW.cell _ (by exact hgl)).trans z1;have q2:=(hW.cell _ (by exact hgl)).trans z2)
  case refine_11=>
   rintro _ rfl _ rfl _ rfl K hK;go_simp;refine(HU W hW).mono ?_;rintro e w' ⟨x,rfl,h,G⟩;exact hK.out _ _ G ⟨x,rfl,h⟩ trivial
  all_goals intros
  all_goals rename_i K hK
  all_goals first|(rename_i hh;obtain⟨_,rfl,hf⟩:=hh)|skip
  all_goals subst_vars
  all_goals go_simp
  all_goals first|exact hK.out _ _ (Gr.refl _) rfl trivial|exact hK.out _ _ br ⟨_,rfl,hW.size⟩ ⟨_,rfl,hW.size,awk _ _⟩|exact hK.out _ _ (Gr.refl _) ⟨_,rfl,hf⟩ trivial|exact hK.out _ _ (Gr.refl _) ⟨_,rfl,hf.1⟩ trivial|exact hK.out _ _ (Gr.refl _) ⟨_,rfl,hf.2⟩ trivial
 ·intro w9 G9;simp only[Rg.Fin',Rg.Val,Rg.Fa,Rg.nT,Rg.oP,Rg.oQ,aw5,Act.put,arp,art,ars,arC,arJ,arV,ar6,asi,arT,arU,ast,asu,uq,NL,kCa];rintro _ rfl _ rfl _ rfl _ rfl _ rfl _ rfl _ rfl _ rfl _ rfl _ rfl v10-v11-_ ⟨⟨s0,s1,s2,s3⟩,rfl,R⟩ v13-_ rfl _ ⟨b,rfl,hb0⟩ v16-v17 hct v18-_ rfl;have hb:=pF hct;have y0:=fA hb;have y1:=eH hb;have y2:=uJ hb;have y3:=Ca hb;have hk:=(HX.gr G9).blk;have HRR:Hid _:=R;have HK:Hid _:=hk;have HG:Hid (Gr w1 w9):=G9;clear hct hb hb0 hk G9 R;by_cases hE:E=0
  ·subst hE;have HA:=ZV.yes (p:={ p with fr:=false }) (fr':=false) (kY:=p.us) (x:=(s0,s1,s2,s3)) oU HX HT (fun h=>by cases h) HG HRR (fun h=>by cases h) ⟨ua,un,uc,rfl⟩ (Ch.refl g w9) HK;rw[awn rfl]at HQ;rw[<-HQ.out]at HA;have Hg:Hid (Calls prog 78 #[pointer (some ⟨g,0,none⟩),agg #[s0,s1,s2,s3],int i64 0] _ _):=HA;clear HA;go_wp2_with fail;refine Hg.mono ?_;rintro e w' ⟨rfl,h⟩;have HA:Hid (bO 71 B w1 g (slice ma p.m.length mc) (slice ha p.hs.length hc0) (slice pa p.ps.length pc) RES (.returned (str RES.2)) w'):=⟨rfl,h⟩;clear h;go_wp2_with fail;go_ret;exact bO.pre (D:=(_,_,_)) HF HA
  ·have Hg:Hid (Calls prog 78 #[pointer (some ⟨g,0,none⟩),agg #[s0,s1,s2,s3],int i64 (E:Nat)] w9 fun e w'=>e=.returned (str (aB qj [E]))/\Gr w9 w'):=oU.n hE HE HRR.one fun G=>(HT.gr (HG.trans G)).Bu
   have hE':¬(E:Int)=0:=ab;rw[awm hE]at HQ;go_wp2_with fail;refine Hg.mono ?_;rintro e w' ⟨rfl,h⟩;have uu:Hid (Gr w1 w'):=HG.trans h;clear h;go_wp2_with fail;go_ret;rw[HQ.out];exact bO.pre (D:=(_,_,_)) HF ⟨rfl,_,_,_,_,HX.gr uu,Fx.aJ uu⟩
theorem EG (h:¬(p.fr=true/\n<=p.us.length)):gm p [n]=(p,aQ):=by simp only[gm,awm h]
theorem adx (hr:n<4294967296)(X:Pr 71 B w g M H P U p)(hf:p.fr=true):Calls prog 54 #[pointer (some ⟨g,0,none⟩),int .u32 n] w (bO 71 B w g M H P (gm p [n])):=by
 obtain⟨N,n1,n2,n3,n4⟩:=X.row;obtain⟨ua,uc,rfl,hlc,Yt⟩:=(n4 hf).us;obtain⟨ma,mc,ha,hc0,pa,pc,_,_,_,rfl,rfl,rfl, -⟩:=X.open;have z0:=fA X.blk;have z1:=eH X.blk;have z3:=Ca X.blk;have z4:=tO X.blk;have hgl:g<w.heap.size:=(gs X.blk).1;rw[hf]at z4;have HU:Hid (∀W:World,Gr w W->_):=fun W G=>ubk (n:=n) X hf Yt hlc G
 have HX:Hid _:=X;have hwr:IntKind.i64.wrap (n:Int)=(n:Int):=by rw[awO];omega
 have HP:Hid (∀(w9 w':World) (x:Value×Value),n<=p.us.length->Gr w w9->Bf p n w.heap.size w9 x->Ch g w9 w'->w'.heap[g]?=some (cells #[x.1,x.2,slice pa p.ps.length pc,slice ua p.us.length uc,.bool false] 71 (0,0))->bO 71 B w g (slice ma p.m.length mc) (slice ha p.hs.length hc0) (slice pa p.ps.length pc) (gm p [n]) (.returned (str sU)) w'):=fun w9 w' x hn G R Q hb=>by
  obtain⟨ma1,mc1,ha1,hc1,rfl,Y⟩:=R.yes hn;exact JV X hf hn G Y Q hb rfl
 have HN:Hid (¬n<=p.us.length->gm p [n]=(p,aQ)):=fun h=>EG fun q=>h q.2
 have Yw:Hid (p.fr=true):=hf;obtain⟨E,hE⟩:∃E:Nat,E=if n<=p.us.length then 0 else 3:=⟨_,rfl⟩
 rw[<-hE]at HU;have HE:Hid (E=_):=hE;clear X n1 n2 n3 n4 Yt hlc N hE hf;generalize gm p [n]=RES at *
 go_enter func54,ntmps54;go_wp2_with fail;refine Rg.iT (T:=tM) [Rg.Val (pointer (some ⟨g,0,none⟩)),Rg.Val (pointer (some ⟨g,0,none⟩)),Rg.Val (pointer (some ⟨g,0,none⟩)),Rg.Val (agg #[slice ma p.m.length mc,slice ha p.hs.length hc0]),Rg.Val (pointer (some ⟨g,0,none⟩)),Rg.Val (pointer (some ⟨g,0,none⟩)),Rg.Val (pointer (some ⟨g,3,none⟩)),Rg.Val (slice ua p.us.length uc),Rg.Val (int .u32 (n:Int)),Rg.Val (int i64 (n:Int)),ZU notM p n E,ZU notM p n E,kMa notM p n,Rg.Val (int i64 (E:Nat)),Rg.oP 28 #[slice none 0 0,slice none 0 0] 15 12,Rg.oQ 14 12,Rg.Val (int i64 (E:Nat))] [[],[0],[1],[2],[],[4],[5],[6],[],[8],[3,7,9],[10],[11],[11],[],[14,12],[13]] al al ?_ ?_
 ·simp only[Rg.BZ,Rg.Hd,Rg.dep,Rg.Ob,Rg.at',Rg.Val,Rg.Fa,Rg.nT,Rg.oP,Rg.oQ,Rg.made,Rg.l8,List.replicate,arM,ar8,art,ars,arC,arJ,arV,Act.put,arp,Rg.inT,tS,JW,tM,arG,arL,axq,axr,aw7,ZU,kMa];refine⟨?_,?_,?_,?_,?_,?_,?_,?_,?_,?_,?_,?_,?_,?_,?_,?_,?_,trivial⟩
  case refine_16=>exact⟨fun _ _=>trivial,Ud.GM,fun w v ⟨x,e,h⟩=>⟨_,e,rfl,all2 h.one⟩⟩
  all_goals intro W hW
  all_goals (have q0:=(hW.cell _ (by exact hgl)).trans z0;have q1:=(hW.cell _ (by exact hgl)).trans z1;have q3:=(hW.cell _ (by exact hgl)).trans z3)
  case refine_11=>
   rintro _ rfl _ rfl _ rfl K hK;go_simp;refine(HU W hW).mono ?_;rintro e w' ⟨x,rfl,h,G⟩;exact hK.out _ _ G ⟨x,rfl,h⟩ trivial
  all_goals intros
  all_goals rename_i K hK
  all_goals first|(rename_i hh;obtain⟨_,rfl,hf⟩:=hh)|skip
  all_goals subst_vars
  all_goals go_simp
  all_goals first|exact hK.out _ _ (Gr.refl _) rfl trivial|exact hK.out _ _ br ⟨_,rfl,hW.size⟩ ⟨_,rfl,hW.size,awk _ _⟩|exact hK.out _ _ (Gr.refl _) ⟨_,rfl,hf⟩ trivial|exact hK.out _ _ (Gr.refl _) ⟨_,rfl,hf.1⟩ trivial|exact hK.out _ _ (Gr.refl _) ⟨_,rfl,hf.2⟩ trivial
 ·intro w9 G9;simp only[Rg.Fin',Rg.Val,Rg.Fa,Rg.nT,Rg.oP,Rg.oQ,aw5,Act.put,arp,art,ars,arC,arJ,arV,ar6,asi,arT,arU,ast,asu,ZU,kMa];rintro _ rfl _ rfl _ rfl _ rfl _ rfl _ rfl _ rfl _ rfl _ rfl _ rfl v10-v11-_ ⟨⟨s0,s1⟩,rfl,R⟩ _ rfl _ ⟨b,rfl,hb0⟩ v15 hct _ rfl;have hb:=pF hct;have y0:=fA hb;have y1:=eH hb;have hk:=(HX.gr G9).blk;rw[Yw.out]at hk;have x0:=fA hk;have x1:=eH hk;have x4:=tO hk;have f0:w9.frozen? ⟨g,0,none⟩=false:=iA hk;have f1:w9.frozen? ⟨g,1,none⟩=false:=iA hk;have f4:w9.frozen? ⟨g,4,none⟩=false:=iA hk;have ne:=rG hk hb an;have ne2:=ne.symm;have HRR:Hid _:=R;have HK:Hid _:=hk;have HG:Hid (Gr w w9):=G9;obtain⟨o0,o1⟩:=R.one;clear hct hb hb0 hk G9 R;by_cases hn:n<=p.us.length
  ·rw[awn hn]at HE;obtain rfl:=HE.out;obtain⟨⟨a1,n1,c1,rfl⟩,a2,n2,c2,rfl⟩:(∃a n c,s0=slice a n c)/\∃a n c,s1=slice a n c:=by
    obtain⟨_,_,_,_,hx, -⟩:=HRR.out.yes hn;obtain⟨rfl,rfl⟩:=Prod.mk.inj hx;exact⟨⟨_,_,_,rfl⟩,_,_,_,rfl⟩
   have HA:Hid (bO 71 B w g (slice ma p.m.length mc) (slice ha p.hs.length hc0) (slice pa p.ps.length pc) RES (.returned (str sU)) (((w9.setCell ⟨g,0,none⟩ (slice a1 n1 c1)).setCell ⟨g,1,none⟩ (slice a2 n2 c2)).setCell ⟨g,4,none⟩ (.bool false))):=HP.out w9 _ (_,_) hn HG.out HRR.out ((((Ch.refl g w9).setCell 0 _).setCell 1 _).setCell 4 _) (by
    have e0:=hss (i:=0) (v:=slice a1 n1 c1) HK.out;have e1:=hss (i:=1) (v:=slice a2 n2 c2) e0;rw[hss e1];simp)
   clear hn HE HRR;go_wp2_with fail;go_ret;exact HA
  ·rw[awm hn]at HE;obtain rfl:=HE.out;have HQ:Hid (RES=(p,aQ)):=HN.out hn;clear hn HE;go_wp2_with fail;go_ret;rw[HQ.out];exact⟨rfl,_,_,_,_,HX.gr HG,Fx.aJ HG⟩
theorem SC (hr:n<4294967296)(X:Pr 71 B w g M H P U p):Calls prog 54 #[pointer (some ⟨g,0,none⟩),int .u32 n] w (bO 71 B w g M H P (gm p [n])):=by
 by_cases hf:p.fr=true
 ·exact adx hr X hf
 have hf':p.fr=false:=by simpa using hf
 have z4:=tO X.blk;rw[hf']at z4;rw[EG fun q=>hf q.1];have HX:=kH X;go_enter func54,ntmps54;go_wp2_with fail;go_ret;exact⟨rfl,_,_,_,_,HX,Fx.refl _ _⟩
end Vp
namespace Vp
variable[Inhabited Hc.bH]
open Mm Hh Hc Mc Ud As
variable{p:Pl}
theorem SE {y:Nat}(h:w.heap[b]?=some (cells #[int K x,int K y] t f)):Ns K w (some ⟨b,0,none⟩) 2 [x,y]:=
 ⟨rfl,fun _=>⟨b,0,rfl,(gs h).1,fun i z hi=>by
  match i,hi with
  |0,hi=>
   simp only[arC,awz]at hi;subst hi;exact fA h
  |1,hi=>
   simp only[arJ,arC,awz]at hi;subst hi;exact eH h
  |i+2,hi=>simp at hi⟩⟩
theorem Yx {h}(o:h.Ok)(hb:w.heap[b]?=some (cells (hA h) t f)):Ns .u32 w (some ⟨b,0,none⟩) 32 (h.regs.map Int.toNat):=
 ⟨by rw[asf,o.len],fun _=>⟨b,0,rfl,(gs hb).1,fun i x hi=>by
  rw[ar3]at hi;obtain⟨y,hy,rfl⟩:=asM.1 hi;have hl:i<32:=by rw[<-o.len];exact(arw.1 hy).1
  have hr:=mg o hl;have e:Hh.rg h i=y:=by unfold Hh.rg;rw[ar2,hy];rfl
  have h0:=(o.reg i).1;rw[e]at hr h0;rw[arH,cr hb];show(hL h).toArray[i]?=_
  rw[arB,hr,show((y.toNat:Nat):Int)=y by omega]⟩⟩
theorem ag0 {st cs}(S:Gs w b 3 [[dg st,dg cs],[dg pc],l.map dg])(h1:st<9223372036854775808)(h2:cs<9223372036854775808)(h3:pc<9223372036854775808)(hl:∀x∈l,x<9223372036854775808)(hn:l.length<=500000):Calls prog 51 #[slice (some ⟨b,0,none⟩) 3 3] w fun e w'=>e=.returned (str (aB (dg st) (cs::pc::l)))/\Gr w w':=by
 have:=j5 (c:=3) S aE ab aq (fun x hx=>by
  simp only[asQ,ata,arP,ar7,arL,arY,arG,arN,awQ]at hx;rcases hx with(rfl|rfl)|rfl|⟨y,hy,rfl⟩
  ·exact pz h1
  ·exact pz h2
  ·exact pz h3
  ·exact pz (hl y hy))
 rw[uV];simpa using this
structure Ask (p:Pl) (k st cs pc:Nat) (rs:List Nat) (L0:List Value):Prop where
 s:st<10/\cs<10/\pc<4294967296/\rs.length=32
 rw:∀x∈rs,x<4294967296
 len:L0.length=37
 one:L0.toArray.all (·.oneCell')=true
 NJ:∀(W:World) (b:Nat),W.heap[b]?=some (cells L0.toArray 43 (0,0))->W.cell? ⟨b,35,none⟩=some (int i64 (st:Nat))/\W.cell? ⟨b,36,none⟩=some (int i64 (cs:Nat))/\W.cell? ⟨b,32,none⟩=some (int .u32 (pc:Nat))/\Ns .u32 W (some ⟨b,0,none⟩) 32 rs
 res:rz p [k]=aB (dg st) (cs::pc::rs)
theorem JX {ty}(X:Pr ty B w g M H P U p)(hk:k<p.hs.length):∃gh hc st cs pc rs L0,H=slice (some ⟨gh,0,none⟩) p.hs.length hc/\w.rangeAt gh (k*37) L0/\Ask p k st cs pc rs L0:=by
 obtain⟨o1,o2⟩:=X.ok.hok _ (rC hk);have ms:0<=(hAt p k).state/\(hAt p k).state<=2/\0<=(hAt p k).cause/\(hAt p k).cause<=6:=by
  unfold may at o2;simp only[awD]at o2;omega
 obtain⟨ma,mc,ha,hc0,pa,pc,ua,un,uc,rfl,rfl,rfl,rfl,_,_,hH,_⟩:=X.open;obtain⟨gh,oh,rfl,he⟩:=uW X.mx.hrt ab;have hp:=o1.gP;have hp0:=o1.oW;refine⟨gh,hc0,(hAt p k).state.toNat,(hAt p k).cause.toNat,(hAt p k).pc.toNat,(hAt p k).regs.map Int.toNat,hL (hAt p k),rfl,?_,⟨ab,ab,ab,by rw[asf];exact o1.len⟩,fun x hx=>?_,aF o1,?_,fun W b hb=>?_,by simp only[rz,awn hk]⟩
 ·obtain⟨b,o,e2,_,hc⟩:=hH.spot ab;injection e2 with e2;injection e2 with e3 e4;subst e3 e4;have:=hc k (hAt p k) (by unfold hAt;rw[ar2,arq hk];rfl);rw[arH]at this;exact this
 ·obtain⟨y,hy,rfl⟩:=arY.1 hx;obtain⟨i,hi⟩:=List.getElem?_of_mem hy;have:=o1.reg i;unfold Hh.rg at this;rw[ar2,hi,asi]at this;omega
 ·rw[List.all_toArray,ar0];exact GR _
 ·have hs:=fun(j:Nat)=>bu (h:=hAt p k) o1 j
  have c:∀j:Nat,W.cell? ⟨b,32+j,none⟩=(hL (hAt p k))[32+j]?:=fun j=>by
   rw[cr hb,arB]
  refine⟨(c 3).trans ((hs 3).trans ?_),(c 4).trans ((hs 4).trans ?_),(c 0).trans ((hs 0).trans ?_),Yx o1 hb⟩
  ·show some (Value.int i64 (hAt p k).state)=_
   rw[show(((hAt p k).state.toNat:Nat):Int)=(hAt p k).state by omega]
  ·show some (Value.int i64 (hAt p k).cause)=_
   rw[show(((hAt p k).cause.toNat:Nat):Int)=(hAt p k).cause by omega]
  ·show some (Value.int .u32 (hAt p k).pc)=_
   rw[show(((hAt p k).pc.toNat:Nat):Int)=(hAt p k).pc by omega]
def SF (L:List (List Nat)) (n:Nat):Rg.Kd N []:=Rg.Fa (fun x:Option Addr×Nat=>slice x.1 n x.2) (fun W x=>Ts W x.1 n L/\(x.1=none->x.2=0)) fun g h=>gK h g
theorem Yy (X:Pr 71 B w g M H P U p)(T:∀{W},Below B w W->ig W)(hk:k<p.hs.length):Calls prog 49 #[pointer (some ⟨g,0,none⟩),int .u32 k] w (bO 71 B w g M H P (p,rz p [k])):=by
 have JD:Hid (Calls prog 77 #[pointer (some ⟨g,0,none⟩),int .u32 k] w fun e w'=>e=.returned (.bool true)/\w=w'):=(dK X).mono fun e w' ⟨a,b⟩=>⟨by rw[a];exact congrArg (fun t=>Ending.returned (.bool t)) (awC hk),b⟩
 obtain⟨gh,hc0,st,cs,gP,rs,L0,rfl,hrg,A⟩:=JX X hk;rw[A.res];have HX:=kH X;have HA:=kH A;have HRG:=kH hrg;have z1:=eH X.blk;have h4:=X.ok.h4;have HTG:Hid (∀W,Gr w W->ig W):=fun W G=>T (awH G X.le)
 obtain⟨⟨s1,s2,s3,s4⟩,hrw,hll, -, -, -⟩:=A;have qY:=kH hll;have rO:Hid (L0.toArray.size=37):=by unfold Hid;rw[asb];exact hll
 have HJ:Hid (∀(W:World) (b:Nat),Gs W b 3 [[dg st,dg cs],[dg gP],rs.map dg]->_):=fun W b S=>ag0 S ab ab ab (fun x hx=>by have:=hrw x hx;omega) ab
 have HRW:=kH hrw;have k0:(k:Int)<(p.hs.length:Int):=ab;generalize p.hs.length=n at *
 generalize hV:str (aB (dg st) (cs::gP::rs))=V at *
 have HV:=kH hV;generalize hD:L0.toArray=D0 at *
 have HD:=kH hD.symm;go_enter func49,ntmps49;go_wp2_with fail;refine JD.mono ?_;rintro e _ ⟨rfl,rfl⟩
 go_wp2_with (first
  |(refine awU rfl 43 _ rfl gh (k*37) rfl L0 _ ?r1 underlying43 rfl (by rw[qY.out];exact Mc.iH) ?_;(case r1=>exact HRG))
  |(refine awx rfl 43 _ _ rfl w.heap.size D0 rfl (by simp[Act.eval,Act.put,HD.out]) 43 (hA ⟨List.replicate 32 0,0,false,0,0,0⟩) ?r3 (by rw[rO.out];exact Mc.iH) (by rw[rO.out];rfl) (by rw[HD.out];exact HA.one) ?_;(case r3=>exact awk w _)))
 refine aK (fun W=>W.heap[w.heap.size]?=some (cells D0 43 (0,0))/\Gr w W) ⟨awJ _ _ _ _ _ (0,0) (awk w _),ag ((Gr.refl w).alloc _) (arA _) _⟩ ?_;generalize w.heap.size=b5 at *
 rintro w4 ⟨hb,G4⟩;have fM:=kH G4;obtain⟨y0,y1,y2,N4⟩:=HA.NJ w4 b5 (by rw[<-HD.out];exact hb);have UG:=kH N4;have hw4:=(gs hb).1;refine Rg.iT (T:=[]) [Rg.Val (pointer (some ⟨b5,35,none⟩)),Rg.Val (int i64 st),Rg.Val (pointer (some ⟨b5,36,none⟩)),Rg.Val (int i64 cs),Rg.JP #[int i64 (st:Int),int i64 (cs:Int)] 3 2,SF [dg st,dg cs] 2,Rg.Val (pointer (some ⟨b5,32,none⟩)),Rg.Val (int .u32 gP),Rg.JP #[int .u32 (gP:Int)] 37 1,SF [dg gP] 1,Rg.Val (pointer (some ⟨b5,0,none⟩)),Rg.Val (slice (some ⟨b5,0,none⟩) 32 32),SF (rs.map dg) 32,Rg.Fa (fun b:Nat=>slice (some ⟨b,0,none⟩) 3 3) (fun W b=>Gs W b 3 [[dg st,dg cs],[dg gP],rs.map dg]) (fun g h=>h.of g),Rg.Val V,Rg.Val V] [[],[0],[],[2],[1,3],[4],[],[6],[7],[8],[],[10],[11],[5,9,12],[13],[14]] al al ?_ ?_
 ·simp only[Rg.BZ,Rg.Hd,Rg.dep,Rg.Ob,Rg.at',Rg.Val,Rg.Fa,Rg.nT,Rg.JP,Rg.made,Rg.l8,List.replicate,arM,ar8,art,ars,arC,arJ,arV,Act.put,arp,Rg.inT,aw7,SF];refine⟨?_,?_,?_,?_,?_,?_,?_,?_,?_,?_,?_,?_,?_,?_,?_,?_,trivial⟩;all_goals intro W hW
  all_goals (have q0:=(hW.cell _ (by exact hw4)).trans y0;have q1:=(hW.cell _ (by exact hw4)).trans y1;have q2:=(hW.cell _ (by exact hw4)).trans y2)
  case refine_6=>
   rintro _ ⟨b,rfl,hb⟩ K hK;go_simp;refine(JN (l:=[st,cs]) (SE hb) (fun y hy=>by simp only[arG,arN,awQ]at hy;rcases hy with rfl|rfl<;>omega) ab (HTG _ (fM.trans hW))).mono ?_;rintro e w' ⟨a,k,rfl,h,G⟩;exact hK.out _ _ G ⟨(a,k),rfl,h⟩ trivial
  case refine_10=>
   rintro _ ⟨b,rfl,hb⟩ K hK;go_simp;refine(JO (l:=[gP]) (qp hb) (fun y hy=>by rw[arL.1 hy];omega) ab (HTG _ (fM.trans hW))).mono ?_;rintro e w' ⟨a,k,rfl,h,G⟩;exact hK.out _ _ G ⟨(a,k),rfl,h⟩ trivial
  case refine_13=>
   rintro _ rfl K hK;go_simp;refine(JO (UG.of hW) HRW ab (HTG _ (fM.trans hW))).mono ?_;rintro e w' ⟨a,k,rfl,h,G⟩;exact hK.out _ _ G ⟨(a,k),rfl,h⟩ trivial
  case refine_14=>
   rintro _ ⟨⟨a0,k0⟩,rfl,h0⟩ _ ⟨⟨a1,k1⟩,rfl,h1⟩ _ ⟨⟨a2,k2⟩,rfl,h2⟩ K hK;go_simp;exact hK.out _ _ br ⟨_,rfl,gs3 (awk W _) (gK h0 br) (gK h1 br) (gK h2 br)⟩ trivial
  case refine_15=>
   rintro _ ⟨b,rfl,S⟩ K hK;go_simp;refine(HJ W _ S).mono ?_;rintro e w' ⟨rfl,G⟩;exact hK.out _ _ G rfl trivial
  all_goals intros
  all_goals subst_vars
  all_goals rename_i K hK
  all_goals go_simp
  all_goals first|exact hK.out _ _ (Gr.refl _) rfl trivial|exact hK.out _ _ br ⟨_,rfl,awk _ _⟩ trivial
 ·intro w' G;simp only[Rg.Fin',Rg.Val,Rg.Fa,Rg.nT,Rg.JP,SF,aw5,Act.put,arp,art,ars];rintro _-_-_-_-_-_-_-_-_-_-_-_-_-_-_-v hv;go_wp2_with fail;go_ret;exact⟨congrArg Ending.returned (hv.trans HV.symm),_,_,_,_,HX.gr (fM.trans G),Fx.aJ (fM.trans G)⟩
theorem Yz (X:Pr 71 B w g M H P U p)(hk:¬k<p.hs.length):Calls prog 49 #[pointer (some ⟨g,0,none⟩),int .u32 k] w (bO 71 B w g M H P (p,rz p [k])):=by
 have e:rz p [k]=aQ:=by simp only[rz,awm hk]
 rw[e];have JD:Hid (Calls prog 77 #[pointer (some ⟨g,0,none⟩),int .u32 k] w fun e w'=>e=.returned (.bool false)/\w=w'):=(dK X).mono fun e w' ⟨a,b⟩=>⟨by rw[a];exact congrArg (fun t=>Ending.returned (.bool t)) (awq hk),b⟩
 have HX:=kH X;go_enter func49,ntmps49;go_wp2_with fail;refine JD.mono ?_;rintro e _ ⟨rfl,rfl⟩;go_wp2_with fail;go_ret;exact⟨rfl,_,_,_,_,HX,Fx.refl _ _⟩
theorem MZ (X:Pr 71 B w g M H P U p)(T:∀{W},Below B w W->ig W):Calls prog 49 #[pointer (some ⟨g,0,none⟩),int .u32 k] w (bO 71 B w g M H P (p,rz p [k])):=by
 by_cases hk:k<p.hs.length
 ·exact Yy X T hk
 ·exact Yz X hk
end Vp
namespace Vp
variable[Inhabited Hc.bH]
open Mm Hh Hc Mc Ud As Kc
theorem YA {y z u:Nat}(h:w.heap[b]?=some (cells #[int K x,int K y,int K z,int K u] t f)):Ns K w (some ⟨b,0,none⟩) 4 [x,y,z,u]:=
 ⟨rfl,fun _=>⟨b,0,rfl,(gs h).1,fun i v hi=>by
  match i,hi with
  |0,hi=>
   simp only[arC,awz]at hi;subst hi;exact fA h
  |1,hi=>
   simp only[arJ,arC,awz]at hi;subst hi;exact eH h
  |2,hi=>
   simp only[arJ,arC,awz]at hi;subst hi;exact uJ h
  |3,hi=>
   simp only[arJ,arC,awz]at hi;subst hi;exact Ca h
  |i+4,hi=>simp at hi⟩⟩
theorem zK (h0:0<=a)(h1:a<4294967296):0<=Dc.aO a/\Dc.aO a<=59:=by have:=Dc.l9 h0 h1;unfold Dc.aO;split<;>omega
structure Wt (a:Int) (x0 x1 x2 x3 x4:Nat):Prop where
 e0:Dc.aO a=x0
 e1:Dc.jd (Dc.aM (Dc.aO a)) a=x1
 e2:Dc.dh (Dc.aM (Dc.aO a)) a=x2
 e3:Dc.cz (Dc.aM (Dc.aO a)) a=x3
 e4:Dc.bU (Dc.aM (Dc.aO a)) a%4294967296=x4
 b0:x0<=1000
 b1:x1<=1000
 b2:x2<=1000
 b3:x3<=1000
 b4:x4<4294967296
theorem Hl (hx:x<4294967296):∃x0 x1 x2 x3 x4,Wt x x0 x1 x2 x3 x4:=by have h1:=ym (Dc.aM (Dc.aO x)) x;have h2:=Ts.Pq (Dc.aM (Dc.aO x)) x;have h3:=Ts.Pt (Dc.aM (Dc.aO x)) x;have h0:0<=Dc.aO x/\Dc.aO x<=59:=zK ab ab;exact⟨(Dc.aO x).toNat,(Dc.jd (Dc.aM (Dc.aO x)) x).toNat,(Dc.dh (Dc.aM (Dc.aO x)) x).toNat,(Dc.cz (Dc.aM (Dc.aO x)) x).toNat,(Dc.bU (Dc.aM (Dc.aO x)) x%4294967296).toNat,⟨ab,ab,ab,ab,ab,ab,ab,ab,ab,ab⟩⟩
theorem ady (hx:x<4294967296)(hd:Dc.aO x≠0)(T:∀{W},Gr w W->ig W):Calls prog 50 #[int .u32 x] w fun e w'=>e=.returned (str (iy [x]))/\Gr w w':=by
 obtain⟨x0,x1,x2,x3,x4,Q⟩:=Hl hx;have ib:=sK (Dc.aM (Dc.aO x)) (show(0:Int)<=x by omega) (show(x:Int)<4294967296 by omega);have e:iy [x]=aB XE [x0,x1,x2,x3,x4]:=by
  unfold iy;simp only[awm hd];rw[Q.e4,Q.e1,Q.e2,Q.e3,Q.e0];simp
 rw[e];have HD:Hid (Calls prog 14 #[int .u32 x] w fun e w'=>e=.returned (tuple #[agg #[int i64 (x0:Int),int i64 (x1:Int),int i64 (x2:Int),int i64 (x3:Int),int i32 (Dc.bU (Dc.aM (Dc.aO x)) x)],.bool true])/\Gr w w'):=by
  refine(Dw.gz (x:Int) w (T (Gr.refl _)).tb ab ab).mono fun e w' ⟨he,G⟩=>⟨?_,G.1⟩
  rw[he];unfold Dw.kv Dw.dm Dw.gI;rw[awC hd,Q.e1,Q.e2,Q.e3,Q.e0]
 have q4:=Q.e4;have b0:=Q.b0;have b1:=Q.b1;have b2:=Q.b2;have b3:=Q.b3;have b4:=Q.b4;have HT:Hid (∀{W:World},Gr w W->ig W):=T;clear T Q hd e;generalize Dc.bU (Dc.aM (Dc.aO x)) x=z4 at *
 have akV:IntKind.u32.wrap z4=(x4:Int):=by rw[axx];omega
 have HJ:Hid (∀(W:World) (b:Nat),Gs W b 3 [[XE],[dg x0,dg x1,dg x2,dg x3],[dg x4]]->Calls prog 51 #[slice (some ⟨b,0,none⟩) 3 3] W fun e w'=>e=.returned (str (aB XE [x0,x1,x2,x3,x4]))/\Gr W w'):=fun W b S=>ZQ (k:=[x0,x1,x2,x3]) (l:=[x4]) S an (fun y hy=>by simp only[arG,arN,awQ]at hy;rcases hy with rfl|rfl|rfl|rfl<;>omega) (fun y hy=>by rw[arL.1 hy];omega) aq
 generalize str (aB XE [x0,x1,x2,x3,x4])=TXT at *
 go_enter func50,ntmps50;go_wp2_with fail;refine HD.mono ?_;rintro e w1 ⟨rfl,G1⟩;have aU:=kH G1;go_wp2_with (refine awx rfl 59 _ _ rfl w1.heap.size #[int i64 (x0:Int),int i64 (x1:Int),int i64 (x2:Int),int i64 (x3:Int),int i32 z4] rfl ar 59 #[int i64 0,int i64 0,int i64 0,int i64 0,int i32 0] ?r3 Hf.iI rfl (Hf.kK _ _ _ _ _) ?_;(case r3=>exact awk w1 _));refine aK (fun W=>W.heap[w1.heap.size]?=some (cells #[int i64 (x0:Int),int i64 (x1:Int),int i64 (x2:Int),int i64 (x3:Int),int i32 z4] 59 (0,0))/\Gr w W) ⟨awJ _ _ _ _ _ (0,0) (awk w1 _),ag (aU.alloc _) aU.size _⟩ ?_;generalize w1.heap.size=b5 at *
 rintro w4 ⟨hb,G4⟩;have fM:=kH G4;have y0:=fA hb;have y1:=eH hb;have y2:=uJ hb;have y3:=Ca hb;have y4:=tO hb;have hw4:=(gs hb).1;have HTI:Hid (∀(W:World) (b t:Nat) (f:Nat×Nat),Gr w4 W->W.heap[b]?=some (cells #[int i64 (x0:Int),int i64 (x1:Int),int i64 (x2:Int),int i64 (x3:Int)] t f)->Calls prog 52 #[slice (some ⟨b,0,none⟩) 4 4] W fun e w'=>∃a k,e=.returned (slice a 4 k)/\(Ts w' a 4 [dg x0,dg x1,dg x2,dg x3]/\(a=none->k=0))/\Gr W w'):=fun W b t f G h=>JN (l:=[x0,x1,x2,x3]) (YA h) (fun y hy=>by simp only[arG,arN,awQ]at hy;rcases hy with rfl|rfl|rfl|rfl<;>omega) ab (HT (fM.trans G))
 have HTP:Hid (∀(W:World) (b t:Nat) (f:Nat×Nat),Gr w4 W->W.heap[b]?=some (cells #[int .u32 (x4:Int)] t f)->Calls prog 79 #[slice (some ⟨b,0,none⟩) 1 1] W fun e w'=>∃a k,e=.returned (slice a 1 k)/\(Ts w' a 1 [dg x4]/\(a=none->k=0))/\Gr W w'):=fun W b t f G h=>JO (l:=[x4]) (qp h) (fun y hy=>by rw[arL.1 hy];omega) ab (HT (fM.trans G))
 let JP:Array Value->TypeId->Nat->Rg.Kd w4.heap.size []:=fun c t n=>Rg.Fa (fun b:Nat=>slice (some ⟨b,0,none⟩) n n) (fun W b=>W.heap[b]?=some (cells c t (0,0))) (fun g h=>bS g h)
 let Cal:List (List Nat)->Nat->Rg.Kd w4.heap.size []:=fun L n=>Rg.Fa (fun x:Option Addr×Nat=>slice x.1 n x.2) (fun W x=>Ts W x.1 n L/\(x.1=none->x.2=0)) (fun g h=>gK h g)
 refine Rg.iT (T:=[]) [JP #[string ⟨#[105,115]⟩] 9 1,Rg.Val (pointer (some ⟨b5,0,none⟩)),Rg.Val (int i64 x0),Rg.Val (pointer (some ⟨b5,1,none⟩)),Rg.Val (int i64 x1),Rg.Val (pointer (some ⟨b5,2,none⟩)),Rg.Val (int i64 x2),Rg.Val (pointer (some ⟨b5,3,none⟩)),Rg.Val (int i64 x3),JP #[int i64 (x0:Int),int i64 (x1:Int),int i64 (x2:Int),int i64 (x3:Int)] 3 4,Cal [dg x0,dg x1,dg x2,dg x3] 4,
  Rg.Val (pointer (some ⟨b5,4,none⟩)),Rg.Val (int i32 z4),Rg.Val (int .u32 x4),JP #[int .u32 (x4:Int)] 37 1,Cal [dg x4] 1,Rg.Fa (fun b:Nat=>slice (some ⟨b,0,none⟩) 3 3) (fun W b=>Gs W b 3 [[XE],[dg x0,dg x1,dg x2,dg x3],[dg x4]]) (fun g h=>h.of g),Rg.Val TXT,Rg.Val TXT] [[],[],[1],[],[3],[],[5],[],[7],[2,4,6,8],[9],[],[11],[12],[13],[14],[0,10,15],[16],[17]] al al ?_ ?_
 ·simp only[Rg.BZ,Rg.dep,Rg.Ob,Rg.at',Rg.Val,Rg.Fa,Rg.nT,Rg.made,Rg.l8,List.replicate,arM,ar8,art,ars,arC,arJ,Act.put,arp,Rg.inT,aw7,JP,Cal];refine⟨?_,?_,?_,?_,?_,?_,?_,?_,?_,?_,?_,?_,?_,?_,?_,?_,?_,?_,?_,trivial⟩;all_goals intro W hW
  all_goals have q0:=(hW.cell _ (by exact hw4)).trans y0
  all_goals have q1:=(hW.cell _ (by exact hw4)).trans y1
  all_goals have q2:=(hW.cell _ (by exact hw4)).trans y2
  all_goals have q3:=(hW.cell _ (by exact hw4)).trans y3
  all_goals have q4:=(hW.cell _ (by exact hw4)).trans y4
  case refine_11=>
   rintro _ ⟨b,rfl,hb⟩ K hK;go_simp;refine(HTI W _ _ _ hW hb).mono ?_;rintro e w' ⟨a,k,rfl,h,G⟩;exact hK.out _ _ G ⟨(a,k),rfl,h⟩ trivial
  case refine_16=>
   rintro _ ⟨b,rfl,hb⟩ K hK;go_simp;refine(HTP W _ _ _ hW hb).mono ?_;rintro e w' ⟨a,k,rfl,h,G⟩;exact hK.out _ _ G ⟨(a,k),rfl,h⟩ trivial
  case refine_17=>
   rintro _ ⟨b,rfl,hb⟩ _ ⟨⟨a1,k1⟩,rfl,h1⟩ _ ⟨⟨a2,k2⟩,rfl,h2⟩ K hK;have h0:=qo (W:=XE) hb;go_simp;exact hK.out _ _ br ⟨_,rfl,gs3 (awk W _) ⟨h0.of br,fun e=>by cases e⟩ (gK h1 br) (gK h2 br)⟩ trivial
  case refine_18=>
   rintro _ ⟨b,rfl,S⟩ K hK;go_simp;refine(HJ W _ S).mono ?_;rintro e w' ⟨rfl,G⟩;exact hK.out _ _ G rfl trivial
  all_goals intros
  all_goals subst_vars
  all_goals rename_i K hK
  all_goals go_simp
  all_goals first|exact hK.out _ _ (Gr.refl _) rfl trivial|exact hK.out _ _ br ⟨_,rfl,awk _ _⟩ trivial
 ·intro w' G;simp only[Rg.Fin',Rg.Val,Rg.Fa,Rg.nT,aw5,Act.put,arp,art,ars,JP,Cal];intros;subst_vars;go_wp2_with fail;go_ret;exact⟨rfl,fM.trans G⟩
theorem adz (hx:x<4294967296)(hd:Dc.aO x=0)(T:Dw.oV w):Calls prog 50 #[int .u32 x] w fun e w'=>e=.returned (str (iy [x]))/\Gr w w':=by
 have e:iy [x]=ZG:=by unfold iy;simp only[awn hd]
 rw[e];have HD:Hid (Calls prog 14 #[int .u32 x] w fun e w'=>e=.returned (tuple #[agg #[int i64 0,int i64 0,int i64 0,int i64 0,int i32 0],.bool false])/\Gr w w'):=by
  refine(Dw.gz (x:Int) w T ab ab).mono fun e w' ⟨he,G⟩=>⟨?_,G.1⟩
  rw[he,(Dw.jf hd).1,(Dw.jf hd).2];rfl
 go_enter func50,ntmps50;go_wp2_with fail;refine HD.mono ?_;rintro e w1 ⟨rfl,G1⟩;have aU:=kH G1;go_wp2_with (refine awx rfl 59 _ _ rfl w1.heap.size #[int i64 0,int i64 0,int i64 0,int i64 0,int i32 0] rfl ar 59 #[int i64 0,int i64 0,int i64 0,int i64 0,int i32 0] ?r3 Hf.iI rfl (Hf.kK _ _ _ _ _) ?_;(case r3=>exact awk w1 _));go_ret;exact⟨rfl,ag (aU.alloc _) aU.size _⟩
theorem SG (hx:x<4294967296)(T:∀{W},Gr w W->ig W):Calls prog 50 #[int .u32 x] w fun e w'=>e=.returned (str (iy [x]))/\Gr w w':=by
 by_cases hd:Dc.aO x=0
 ·exact adz hx hd (T (Gr.refl _)).tb
 ·exact ady hx hd T
end Vp
namespace As
open Mm
theorem bInfo:(prog.info? 74).map (·.size)=some 2:=al
theorem ag1:liesAt prog prog.depth 74 (2/prog.cellsOf 74) 0 74 1=true:=al
theorem zk (h0:w.cell? ⟨b,0,none⟩=some (pointer none))(hsh:w.shape? b=some (74,2))(hfz:w.frozen? ⟨b,0,none⟩=false):Calls prog 41 #[pointer (some ⟨b,0,none⟩)] w fun e w'=>e=.returned (tuple #[])/\w'=w.setCell ⟨b,0,none⟩ (pointer (some ⟨b,0,none⟩)):=by obtain⟨j,hj,hjs⟩:=asM.1 bInfo;go_enter func41,ntmps41;go_wp2;rw[Lib.run_to_unsafe w ⟨b,0,none⟩ underlying72 underlying162 hj (by rw[hjs];decide) hsh (Nat.zero_lt_succ 1)];simp only[Result.andThen];rw[Oper.upon_value];go_wp2;rw[run_callFunc_extern func74 al al al (e:=Extern.AbiNoEscape.same) al,Lib.run_noEscape];simp only[Result.andThen];rw[Oper.upon_value];go_wp2;rw[Lib.run_from_unsafe w ⟨b,0,none⟩ underlying162 underlying72 hj hsh ag1];simp only[Result.andThen];rw[Oper.upon_value];go_wp2;go_end0;exact⟨rfl,rfl⟩
theorem zl (h0:w.cell? ⟨b,0,none⟩=some (pointer (some ⟨b,0,none⟩))):Calls prog 41 #[pointer (some ⟨b,0,none⟩)] w fun e w'=>e=.returned (tuple #[])/\w'=w:=by obtain⟨j,hj,_⟩:=asM.1 bInfo;go_enter func41,ntmps41;go_wp2;rw[Lib.run_neq_ptr_same w _ underlying72 hj];go_wp2;go_end0;exact⟨rfl,rfl⟩
abbrev Bq (B b:Nat) (l:List UInt8) (w:World):Prop:=Lib.IsBuilderF 74 5 B b (Lib.byteCells l) w
theorem M3 {bs}(h:Lib.IsBuilderF 74 5 B b bs w):Calls prog 41 #[pointer (some ⟨b,0,none⟩)] w fun e w'=>e=.returned (tuple #[])/\Lib.BuilderAtF 74 5 B b (pointer (some ⟨b,0,none⟩)) bs w'/\Below B w w'/\Lib.OthersKept 5 (some b) w w':=by
 rcases h with h|h
 ·refine(zk h.cell0 h.shape h.frozen0).mono ?_;rintro e w' ⟨rfl,rfl⟩;exact⟨rfl,h.used _,(awX B w).setCell (p:=⟨b,0,none⟩) h.1 _,(Lib.OthersKept.refl _ _ w).setCell ⟨b,0,none⟩ rfl _⟩
 ·refine(zl h.cell0).mono ?_;rintro e w' ⟨rfl,rfl⟩;exact⟨rfl,h,awX B _,Lib.OthersKept.refl _ _ _⟩
theorem M6 {bs}(s)(h:Lib.IsBuilderF 74 5 B b bs w)(hlen:bs.length+s.size<=140737488355328)(hBw:B<=w.heap.size):Calls prog 19 #[pointer (some ⟨b,0,none⟩),string s] w fun e w'=>e=.returned (tuple #[int i64 s.size,.nilIface])/\Lib.IsBuilderF 74 5 B b (bs++Lib.strCells s) w'/\Below B w w'/\Lib.OthersKept 5 (some b) w w':=by
 obtain⟨i0,hi,hz0,hz1,hz2⟩:=awS Mm.info5;have H:=kH (M3 h);clear h;go_enter func19,ntmps19;go_wp2_with fail;refine H.mono ?_;rintro e w1 ⟨rfl,h1,hb1,hk1⟩;obtain⟨hB,v,hbk,hown,hne⟩:=h1;have c0:w1.cell? ⟨b,0,none⟩=some (pointer (some ⟨b,0,none⟩)):=(cr hbk).trans rfl;have c1:w1.cell? ⟨b,1,none⟩=some v:=(cr hbk).trans rfl;go_wp2_with (at_builtin;refine Lib.wpList_append_own_stringF _ rfl _ _ 25 9 rfl B 5 i0 underlying25 underlying9 hi hz0 hz1 hz2 _ _ _ rfl hown s rfl ?c3 ?c4 ?c5 ?_)
 case c3=>unfold maxLen;omega
 case c4=>omega
 case c5=>have:=hb1.size;omega
 intro v' w2 hown' hgrow _;have hlt:b<w1.heap.size:=(gs hbk).1;have hb2:w2.heap[b]?=some (cells #[pointer (some ⟨b,0,none⟩),v] 74 (0,0)):=by
  rw[hgrow.block b hlt (fun e=>hne e.symm)];exact hbk
 have d0:w2.cell? ⟨b,0,none⟩=some (pointer (some ⟨b,0,none⟩)):=(cr hb2).trans rfl;have d1:w2.cell? ⟨b,1,none⟩=some v:=(cr hb2).trans rfl;have f1:w2.frozen? ⟨b,1,none⟩=false:=iA hb2;obtain⟨ao,n',cap,rfl⟩:∃ao n' cap,v'=slice ao n' cap:=by
  rcases hown'.2 with⟨hv,_⟩|⟨g,cap,cur,fz,hv,_⟩
  ·exact⟨_,_,_,hv⟩
  ·exact⟨_,_,_,hv⟩
 go_wp2;go_ret2;refine⟨rfl,.inr ?_,?_,(hk1.grown hgrow (Lib.ownsRowF_kind hown)).setCell ⟨b,1,none⟩ rfl _⟩
 ·exact Lib.BuilderAtF.put hB hb2 (bs':=bs++Lib.strCells s) (by simpa[Lib.strCells_length]using hown') an
 ·exact(hb1.grown hgrow (by have:=hb1.size;omega) (fun k hk=>(hown.lt k hk).1)).setCell (p:=⟨b,1,none⟩) hB _
theorem aG {op b}(h1:a<=op)(h2:op<=b)(w):Calls prog 94 #[int i64 op,int i64 a,int i64 b] w fun e w'=>e=.returned (.bool true)/\w=w':=by go_enter func94,ntmps94;go_wp2;go_ret;exact⟨rfl,rfl⟩
theorem ai {op b}(h:op<a\/b<op)(w):Calls prog 94 #[int i64 op,int i64 a,int i64 b] w fun e w'=>e=.returned (.bool false)/\w=w':=by
 by_cases h1:a<=op
 ·have h2:¬op<=b:=ab;go_enter func94,ntmps94;go_wp2;go_ret;exact⟨rfl,rfl⟩
 ·clear h;go_enter func94,ntmps94;go_wp2;go_ret;exact⟨rfl,rfl⟩
theorem SI {op}(h1:1<=op)(h2:op<=2)(w):Calls prog 67 #[int i64 op] w fun e w'=>e=.returned (str (lg op))/\w=w':=by rw[aeF ab];have H0:=kH (aG h1 h2);go_enter func67,ntmps67;go_wp2_with fail;refine(H0 _).mono ?_;rintro e _ ⟨rfl,rfl⟩;go_wp2_with fail;go_ret;exact⟨rfl,rfl⟩
theorem SK {op}(h:op=3)(w):Calls prog 67 #[int i64 op] w fun e w'=>e=.returned (str (lg op))/\w=w':=by
 rw[aeG ab];have H0:Hid (∀w:World,Calls prog 94 #[int i64 op,int i64 1,int i64 2] w fun e w'=>e=.returned (.bool false)/\w=w'):=ai ab;have e3:(op ==3)=true:=by simp;omega
 clear h;go_enter func67,ntmps67;go_wp2_with fail;refine(H0 _).mono ?_;rintro e _ ⟨rfl,rfl⟩;go_wp2_with fail;go_ret;exact⟨rfl,rfl⟩
theorem SL {op}(h:op=4)(w):Calls prog 67 #[int i64 op] w fun e w'=>e=.returned (str (lg op))/\w=w':=by
 rw[UO (by unfold F2;omega)];have H0:Hid (∀w:World,Calls prog 94 #[int i64 op,int i64 1,int i64 2] w fun e w'=>e=.returned (.bool false)/\w=w'):=ai ab;have e3:(op ==3)=false:=by simp;omega
 have e4:(op ==4)=true:=by simp;omega
 clear h;go_enter func67,ntmps67;go_wp2_with fail;refine(H0 _).mono ?_;rintro e _ ⟨rfl,rfl⟩;go_wp2_with fail;go_ret;exact⟨rfl,rfl⟩
theorem SN {op}(h1:19<=op)(h2:op<=27)(w):Calls prog 67 #[int i64 op] w fun e w'=>e=.returned (str (lg op))/\w=w':=by
 rw[UO (by unfold F2;omega)];have H0:Hid (∀w:World,Calls prog 94 #[int i64 op,int i64 1,int i64 2] w fun e w'=>e=.returned (.bool false)/\w=w'):=ai ab;have e3:(op ==3)=false:=by simp;omega
 have e4:(op ==4)=false:=by simp;omega
 have H3:=kH (aG h1 h2);go_enter func67,ntmps67;go_wp2_with fail;refine(H0 _).mono ?_;rintro e _ ⟨rfl,rfl⟩;go_wp2_with fail;refine(H3 _).mono ?_;rintro e _ ⟨rfl,rfl⟩;go_wp2_with fail;go_ret;exact⟨rfl,rfl⟩
theorem SQ {op}(h:op=57)(w):Calls prog 67 #[int i64 op] w fun e w'=>e=.returned (str (lg op))/\w=w':=by
 rw[UO (by unfold F2;omega)];have H0:Hid (∀w:World,Calls prog 94 #[int i64 op,int i64 1,int i64 2] w fun e w'=>e=.returned (.bool false)/\w=w'):=ai ab;have e3:(op ==3)=false:=by simp;omega
 have e4:(op ==4)=false:=by simp;omega
 have H3:Hid (∀w:World,Calls prog 94 #[int i64 op,int i64 19,int i64 27] w fun e w'=>e=.returned (.bool false)/\w=w'):=ai ab;have e57:(op ==57)=true:=by simp;omega
 clear h;go_enter func67,ntmps67;go_wp2_with fail;refine(H0 _).mono ?_;rintro e _ ⟨rfl,rfl⟩;go_wp2_with fail;refine(H3 _).mono ?_;rintro e _ ⟨rfl,rfl⟩;go_wp2_with fail;go_ret;exact⟨rfl,rfl⟩
theorem SS {op}(h1:5<=op)(h2:op<=10)(w):Calls prog 67 #[int i64 op] w fun e w'=>e=.returned (str (lg op))/\w=w':=by
 rw[aeH ab];have H0:Hid (∀w:World,Calls prog 94 #[int i64 op,int i64 1,int i64 2] w fun e w'=>e=.returned (.bool false)/\w=w'):=ai ab;have e3:(op ==3)=false:=by simp;omega
 have e4:(op ==4)=false:=by simp;omega
 have H3:Hid (∀w:World,Calls prog 94 #[int i64 op,int i64 19,int i64 27] w fun e w'=>e=.returned (.bool false)/\w=w'):=ai ab;have e57:(op ==57)=false:=by simp;omega
 have H5:=kH (aG h1 h2);go_enter func67,ntmps67;go_wp2_with fail;refine(H0 _).mono ?_;rintro e _ ⟨rfl,rfl⟩;go_wp2_with fail;refine(H3 _).mono ?_;rintro e _ ⟨rfl,rfl⟩;go_wp2_with fail;refine(H5 _).mono ?_;rintro e _ ⟨rfl,rfl⟩;go_wp2_with fail;go_ret;exact⟨rfl,rfl⟩
theorem SX {op}(h1:11<=op)(h2:op<=15)(w):Calls prog 67 #[int i64 op] w fun e w'=>e=.returned (str (lg op))/\w=w':=by
 rw[aeI ab];have H0:Hid (∀w:World,Calls prog 94 #[int i64 op,int i64 1,int i64 2] w fun e w'=>e=.returned (.bool false)/\w=w'):=ai ab;have e3:(op ==3)=false:=by simp;omega
 have e4:(op ==4)=false:=by simp;omega
 have H3:Hid (∀w:World,Calls prog 94 #[int i64 op,int i64 19,int i64 27] w fun e w'=>e=.returned (.bool false)/\w=w'):=ai ab;have e57:(op ==57)=false:=by simp;omega
 have H5:Hid (∀w:World,Calls prog 94 #[int i64 op,int i64 5,int i64 10] w fun e w'=>e=.returned (.bool false)/\w=w'):=ai ab;have H6:=kH (aG h1 h2);go_enter func67,ntmps67;go_wp2_with fail;refine(H0 _).mono ?_;rintro e _ ⟨rfl,rfl⟩;go_wp2_with fail;refine(H3 _).mono ?_;rintro e _ ⟨rfl,rfl⟩;go_wp2_with fail;refine(H5 _).mono ?_;rintro e _ ⟨rfl,rfl⟩;go_wp2_with fail;refine(H6 _).mono ?_;rintro e _ ⟨rfl,rfl⟩;go_wp2_with fail;go_ret;exact⟨rfl,rfl⟩
theorem SY {op}(h1:16<=op)(h2:op<=18)(w):Calls prog 67 #[int i64 op] w fun e w'=>e=.returned (str (lg op))/\w=w':=by
 rw[aeJ ab];have H0:Hid (∀w:World,Calls prog 94 #[int i64 op,int i64 1,int i64 2] w fun e w'=>e=.returned (.bool false)/\w=w'):=ai ab;have e3:(op ==3)=false:=by simp;omega
 have e4:(op ==4)=false:=by simp;omega
 have H3:Hid (∀w:World,Calls prog 94 #[int i64 op,int i64 19,int i64 27] w fun e w'=>e=.returned (.bool false)/\w=w'):=ai ab;have e57:(op ==57)=false:=by simp;omega
 have H5:Hid (∀w:World,Calls prog 94 #[int i64 op,int i64 5,int i64 10] w fun e w'=>e=.returned (.bool false)/\w=w'):=ai ab;have H6:Hid (∀w:World,Calls prog 94 #[int i64 op,int i64 11,int i64 15] w fun e w'=>e=.returned (.bool false)/\w=w'):=ai ab;have H7:=kH (aG h1 h2);go_enter func67,ntmps67;go_wp2_with fail;refine(H0 _).mono ?_;rintro e _ ⟨rfl,rfl⟩;go_wp2_with fail;refine(H3 _).mono ?_;rintro e _ ⟨rfl,rfl⟩;go_wp2_with fail;refine(H5 _).mono ?_;rintro e _ ⟨rfl,rfl⟩;go_wp2_with fail;refine(H6 _).mono ?_;rintro e _ ⟨rfl,rfl⟩;go_wp2_with fail;refine(H7 _).mono ?_;rintro e _ ⟨rfl,rfl⟩;go_wp2_with fail;go_ret;exact⟨rfl,rfl⟩
theorem S9 {op}(h1:28<=op)(h2:op<=45)(w):Calls prog 67 #[int i64 op] w fun e w'=>e=.returned (str (lg op))/\w=w':=by
 rw[aeK ab];have H0:Hid (∀w:World,Calls prog 94 #[int i64 op,int i64 1,int i64 2] w fun e w'=>e=.returned (.bool false)/\w=w'):=ai ab;have e3:(op ==3)=false:=by simp;omega
 have e4:(op ==4)=false:=by simp;omega
 have H3:Hid (∀w:World,Calls prog 94 #[int i64 op,int i64 19,int i64 27] w fun e w'=>e=.returned (.bool false)/\w=w'):=ai ab;have e57:(op ==57)=false:=by simp;omega
 have H5:Hid (∀w:World,Calls prog 94 #[int i64 op,int i64 5,int i64 10] w fun e w'=>e=.returned (.bool false)/\w=w'):=ai ab;have H6:Hid (∀w:World,Calls prog 94 #[int i64 op,int i64 11,int i64 15] w fun e w'=>e=.returned (.bool false)/\w=w'):=ai ab;have H7:Hid (∀w:World,Calls prog 94 #[int i64 op,int i64 16,int i64 18] w fun e w'=>e=.returned (.bool false)/\w=w'):=ai ab;have H8:=kH (aG h1 h2);go_enter func67,ntmps67;go_wp2_with fail;refine(H0 _).mono ?_;rintro e _ ⟨rfl,rfl⟩;go_wp2_with fail;refine(H3 _).mono ?_;rintro e _ ⟨rfl,rfl⟩;go_wp2_with fail;refine(H5 _).mono ?_;rintro e _ ⟨rfl,rfl⟩;go_wp2_with fail;refine(H6 _).mono ?_;rintro e _ ⟨rfl,rfl⟩;go_wp2_with fail;refine(H7 _).mono ?_;rintro e _ ⟨rfl,rfl⟩;go_wp2_with fail;refine(H8 _).mono ?_;rintro e _ ⟨rfl,rfl⟩;go_wp2_with fail;go_ret;exact⟨rfl,rfl⟩
theorem Ta {op}(h:op=46)(w):Calls prog 67 #[int i64 op] w fun e w'=>e=.returned (str (lg op))/\w=w':=by
 rw[aeL ab];have H0:Hid (∀w:World,Calls prog 94 #[int i64 op,int i64 1,int i64 2] w fun e w'=>e=.returned (.bool false)/\w=w'):=ai ab;have e3:(op ==3)=false:=by simp;omega
 have e4:(op ==4)=false:=by simp;omega
 have H3:Hid (∀w:World,Calls prog 94 #[int i64 op,int i64 19,int i64 27] w fun e w'=>e=.returned (.bool false)/\w=w'):=ai ab;have e57:(op ==57)=false:=by simp;omega
 have H5:Hid (∀w:World,Calls prog 94 #[int i64 op,int i64 5,int i64 10] w fun e w'=>e=.returned (.bool false)/\w=w'):=ai ab;have H6:Hid (∀w:World,Calls prog 94 #[int i64 op,int i64 11,int i64 15] w fun e w'=>e=.returned (.bool false)/\w=w'):=ai ab;have H7:Hid (∀w:World,Calls prog 94 #[int i64 op,int i64 16,int i64 18] w fun e w'=>e=.returned (.bool false)/\w=w'):=ai ab;have H8:Hid (∀w:World,Calls prog 94 #[int i64 op,int i64 28,int i64 45] w fun e w'=>e=.returned (.bool false)/\w=w'):=ai ab;have e46:(op ==46)=true:=by simp;omega
 clear h;go_enter func67,ntmps67;go_wp2_with fail;refine(H0 _).mono ?_;rintro e _ ⟨rfl,rfl⟩;go_wp2_with fail;refine(H3 _).mono ?_;rintro e _ ⟨rfl,rfl⟩;go_wp2_with fail;refine(H5 _).mono ?_;rintro e _ ⟨rfl,rfl⟩;go_wp2_with fail;refine(H6 _).mono ?_;rintro e _ ⟨rfl,rfl⟩;go_wp2_with fail;refine(H7 _).mono ?_;rintro e _ ⟨rfl,rfl⟩;go_wp2_with fail;refine(H8 _).mono ?_;rintro e _ ⟨rfl,rfl⟩;go_wp2_with fail;go_ret;exact⟨rfl,rfl⟩
theorem M7 {op}(h1:47<=op)(h2:op<=56)(w):Calls prog 67 #[int i64 op] w fun e w'=>e=.returned (str (lg op))/\w=w':=by
 rw[aeM ab];have H0:Hid (∀w:World,Calls prog 94 #[int i64 op,int i64 1,int i64 2] w fun e w'=>e=.returned (.bool false)/\w=w'):=ai ab;have e3:(op ==3)=false:=by simp;omega
 have e4:(op ==4)=false:=by simp;omega
 have H3:Hid (∀w:World,Calls prog 94 #[int i64 op,int i64 19,int i64 27] w fun e w'=>e=.returned (.bool false)/\w=w'):=ai ab;have e57:(op ==57)=false:=by simp;omega
 have H5:Hid (∀w:World,Calls prog 94 #[int i64 op,int i64 5,int i64 10] w fun e w'=>e=.returned (.bool false)/\w=w'):=ai ab;have H6:Hid (∀w:World,Calls prog 94 #[int i64 op,int i64 11,int i64 15] w fun e w'=>e=.returned (.bool false)/\w=w'):=ai ab;have H7:Hid (∀w:World,Calls prog 94 #[int i64 op,int i64 16,int i64 18] w fun e w'=>e=.returned (.bool false)/\w=w'):=ai ab;have H8:Hid (∀w:World,Calls prog 94 #[int i64 op,int i64 28,int i64 45] w fun e w'=>e=.returned (.bool false)/\w=w'):=ai ab;have e46:(op ==46)=false:=by simp;omega
 have H10:=kH (aG h1 h2);go_enter func67,ntmps67;go_wp2_with fail;refine(H0 _).mono ?_;rintro e _ ⟨rfl,rfl⟩;go_wp2_with fail;refine(H3 _).mono ?_;rintro e _ ⟨rfl,rfl⟩;go_wp2_with fail;refine(H5 _).mono ?_;rintro e _ ⟨rfl,rfl⟩;go_wp2_with fail;refine(H6 _).mono ?_;rintro e _ ⟨rfl,rfl⟩;go_wp2_with fail;refine(H7 _).mono ?_;rintro e _ ⟨rfl,rfl⟩;go_wp2_with fail;refine(H8 _).mono ?_;rintro e _ ⟨rfl,rfl⟩;go_wp2_with fail;refine(H10 _).mono ?_;rintro e _ ⟨rfl,rfl⟩;go_wp2_with fail;go_ret;exact⟨rfl,rfl⟩
theorem Tg {op}(h:op<1\/58<=op)(w):Calls prog 67 #[int i64 op] w fun e w'=>e=.returned (str (lg op))/\w=w':=by
 rw[aeN h];have H0:Hid (∀w:World,Calls prog 94 #[int i64 op,int i64 1,int i64 2] w fun e w'=>e=.returned (.bool false)/\w=w'):=ai ab;have e3:(op ==3)=false:=by simp;omega
 have e4:(op ==4)=false:=by simp;omega
 have H3:Hid (∀w:World,Calls prog 94 #[int i64 op,int i64 19,int i64 27] w fun e w'=>e=.returned (.bool false)/\w=w'):=ai ab;have e57:(op ==57)=false:=by simp;omega
 have H5:Hid (∀w:World,Calls prog 94 #[int i64 op,int i64 5,int i64 10] w fun e w'=>e=.returned (.bool false)/\w=w'):=ai ab;have H6:Hid (∀w:World,Calls prog 94 #[int i64 op,int i64 11,int i64 15] w fun e w'=>e=.returned (.bool false)/\w=w'):=ai ab;have H7:Hid (∀w:World,Calls prog 94 #[int i64 op,int i64 16,int i64 18] w fun e w'=>e=.returned (.bool false)/\w=w'):=ai ab;have H8:Hid (∀w:World,Calls prog 94 #[int i64 op,int i64 28,int i64 45] w fun e w'=>e=.returned (.bool false)/\w=w'):=ai ab;have e46:(op ==46)=false:=by simp;omega
 have H10:Hid (∀w:World,Calls prog 94 #[int i64 op,int i64 47,int i64 56] w fun e w'=>e=.returned (.bool false)/\w=w'):=ai ab;go_enter func67,ntmps67;go_wp2_with fail;refine(H0 _).mono ?_;rintro e _ ⟨rfl,rfl⟩;go_wp2_with fail;refine(H3 _).mono ?_;rintro e _ ⟨rfl,rfl⟩;go_wp2_with fail;refine(H5 _).mono ?_;rintro e _ ⟨rfl,rfl⟩;go_wp2_with fail;refine(H6 _).mono ?_;rintro e _ ⟨rfl,rfl⟩;go_wp2_with fail;refine(H7 _).mono ?_;rintro e _ ⟨rfl,rfl⟩;go_wp2_with fail;refine(H8 _).mono ?_;rintro e _ ⟨rfl,rfl⟩;go_wp2_with fail;refine(H10 _).mono ?_;rintro e _ ⟨rfl,rfl⟩;go_wp2_with fail;go_ret;exact⟨rfl,rfl⟩
theorem M8 (op)(w):Calls prog 67 #[int i64 op] w fun e w'=>e=.returned (str (lg op))/\w=w':=by
 by_cases c0:1<=op/\op<=2
 ·exact SI c0.1 c0.2 w
 by_cases c1:op=3
 ·exact SK c1 w
 by_cases c2:op=4
 ·exact SL c2 w
 by_cases c3:19<=op/\op<=27
 ·exact SN c3.1 c3.2 w
 by_cases c4:op=57
 ·exact SQ c4 w
 by_cases c5:5<=op/\op<=10
 ·exact SS c5.1 c5.2 w
 by_cases c6:11<=op/\op<=15
 ·exact SX c6.1 c6.2 w
 by_cases c7:16<=op/\op<=18
 ·exact SY c7.1 c7.2 w
 by_cases c8:28<=op/\op<=45
 ·exact S9 c8.1 c8.2 w
 by_cases c9:op=46
 ·exact Ta c9 w
 by_cases c10:47<=op/\op<=56
 ·exact M7 c10.1 c10.2 w
 exact Tg ab w
theorem adA (op):∀c∈lg op,c=100\/c=115\/c=116\/c=105\/c=117\/c=44\/c=40\/c=41:=by
 unfold lg;repeat' split
 all_goals decide
theorem BH (op):(lg op).length<=7:=by
 unfold lg;repeat' split
 all_goals decide
abbrev dm (f:Fi):Value:=agg #[int i64 f.1,int i64 f.2.1,int i64 f.2.2.1,int i64 f.2.2.2.1,int i32 f.2.2.2.2]
structure JY (rd a b n:Int):Prop where
 d0:0<=rd
 d1:rd<=31
 a0:0<=a
 a1:a<=31
 b0:0<=b
 b1:b<=31
 n0 : -2147483648<=n
 n1:n<2147483648
theorem JY.of {op b n}(h:Re.IsP op rd a b n)(n0 : -2147483648<=n)(n1:n<2147483648):JY rd a b n:=⟨h.1.2.2.1,h.1.2.2.2.1,h.1.2.2.2.2.1,h.1.2.2.2.2.2.1,h.1.2.2.2.2.2.2.1,h.1.2.2.2.2.2.2.2,n0,n1⟩
theorem Ti {op b n}(R:JY rd a b n)(T:ig w):Calls prog 68 #[agg #[int i64 op,int i64 rd,int i64 a,int i64 b,int i32 n],int i32 100] w fun e w'=>e=.returned (str (rg rd))/\Gr w w':=by
 have HC:Hid (∀w:World,ig w->Calls prog 95 #[int i64 rd] w fun e w'=>e=.returned (str (rg rd))/\Gr w w'):=fun w T=>mf (by have:=R.d0;omega) (by have:=R.d1;omega) T
 have HT:=kH T;have n0:=R.n0;have n1:=R.n1;generalize str (rg rd)=V at *
 go_enter func68,ntmps68;go_wp2_with fail;refine(HC _ (HT.of br)).mono ?_;rintro e w1 ⟨rfl,G1⟩;go_wp2_with fail;go_ret;exact⟨rfl,br.trans G1⟩
theorem Tu {op b n}(R:JY rd a b n)(T:ig w):Calls prog 68 #[agg #[int i64 op,int i64 rd,int i64 a,int i64 b,int i32 n],int i32 115] w fun e w'=>e=.returned (str (rg a))/\Gr w w':=by
 have HC:Hid (∀w:World,ig w->Calls prog 95 #[int i64 a] w fun e w'=>e=.returned (str (rg a))/\Gr w w'):=fun w T=>mf (by have:=R.a0;omega) (by have:=R.a1;omega) T
 have HT:=kH T;have n0:=R.n0;have n1:=R.n1;generalize str (rg a)=V at *
 go_enter func68,ntmps68;go_wp2_with fail;refine(HC _ (HT.of br)).mono ?_;rintro e w1 ⟨rfl,G1⟩;go_wp2_with fail;go_ret;exact⟨rfl,br.trans G1⟩
theorem Tv {op b n}(R:JY rd a b n)(T:ig w):Calls prog 68 #[agg #[int i64 op,int i64 rd,int i64 a,int i64 b,int i32 n],int i32 116] w fun e w'=>e=.returned (str (rg b))/\Gr w w':=by
 have HC:Hid (∀w:World,ig w->Calls prog 95 #[int i64 b] w fun e w'=>e=.returned (str (rg b))/\Gr w w'):=fun w T=>mf (by have:=R.b0;omega) (by have:=R.b1;omega) T
 have HT:=kH T;have n0:=R.n0;have n1:=R.n1;generalize str (rg b)=V at *
 go_enter func68,ntmps68;go_wp2_with fail;refine(HC _ (HT.of br)).mono ?_;rintro e w1 ⟨rfl,G1⟩;go_wp2_with fail;go_ret;exact⟨rfl,br.trans G1⟩
theorem Tx {op b n}(R:JY rd a b n)(T:ig w):Calls prog 68 #[agg #[int i64 op,int i64 rd,int i64 a,int i64 b,int i32 n],int i32 105] w fun e w'=>e=.returned (str (num n))/\Gr w w':=by
 have HC:Hid (∀w:World,ig w->Calls prog 96 #[int i64 n] w fun e w'=>e=.returned (str (num n))/\Gr w w'):=fun w T=>ve (by have:=R.n0;omega) (by have:=R.n1;omega) T
 have HT:=kH T;have n0:=R.n0;have n1:=R.n1;generalize str (num n)=V at *
 go_enter func68,ntmps68;go_wp2_with fail;refine(HC _ (HT.of br)).mono ?_;rintro e w1 ⟨rfl,G1⟩;go_wp2_with fail;go_ret;exact⟨rfl,br.trans G1⟩
theorem Ty {op b n}(R:JY rd a b n)(T:ig w):Calls prog 68 #[agg #[int i64 op,int i64 rd,int i64 a,int i64 b,int i32 n],int i32 117] w fun e w'=>e=.returned (str (num (n/4096)))/\Gr w w':=by
 have HC:Hid (∀w:World,ig w->Calls prog 96 #[int i64 (n/4096)] w fun e w'=>e=.returned (str (num (n/4096)))/\Gr w w'):=fun w T=>ve (by have:=R.n0;omega) (by have:=R.n1;omega) T
 have HT:=kH T;have n0:=R.n0;have n1:=R.n1;generalize str (num (n/4096))=V at *
 go_enter func68,ntmps68;go_wp2_with fail;refine(HC _ (HT.of br)).mono ?_;rintro e w1 ⟨rfl,G1⟩;go_wp2_with fail;go_ret;exact⟨rfl,br.trans G1⟩
theorem qN {op b n}(R:JY rd a b n)(T:ig w)(hc:c=100\/c=115\/c=116\/c=105\/c=117\/c=44\/c=40\/c=41):Calls prog 68 #[agg #[int i64 op,int i64 rd,int i64 a,int i64 b,int i32 n],int i32 (c:Int)] w fun e w'=>e=.returned (str (dG rd a b n c))/\Gr w w':=by
 rcases hc with rfl|rfl|rfl|rfl|rfl|hc
 ·exact Ti R T
 ·exact Tu R T
 ·exact Tv R T
 ·exact Tx R T
 ·exact Ty R T
 ·clear T R;rcases hc with rfl|rfl|rfl
  all_goals
   go_enter func68,ntmps68;go_wp2_with fail;go_ret;exact⟨rfl,(Gr.refl _).alloc _⟩
end As
namespace As
open Mm
theorem upA (g:Gr w w'){x}(h:w.heap[k]?=some x):w'.heap[k]?=some x:=by rw[axk g k (gs h).1];exact h
end As
namespace As
open Mm
theorem YB {T e}{bs}(h:Lib.IsBuilderF T e B b bs w)(G:Gr w w'):Lib.IsBuilderF T e B b bs w':=by
 have one:∀p,Lib.BuilderAtF T e B b p bs w->Lib.BuilderAtF T e B b p bs w':=fun p ⟨hB,v,hb,hown,hne⟩=>
  ⟨hB,v,(axk G b (gs hb).1).trans hb,hown.kept (row:=none) ⟨G.os,G.tape,G.output,G.size,fun k hk _=>axk G k hk⟩ (by cases v.ownBlock<;>simp),hne⟩
 exact h.elim (fun x=>.inl (one _ x)) (fun x=>.inr (one _ x))
theorem _root_.Go.Proofs.YtiadhbmnfjfioaaGreatDoor.Mm.Gr.trans' {a b c}(h:Gr a b)(k:Below (a.heap.size+1) b c):Gr a c:=aw2 h (awH k ab)
theorem M9 (L:List Nat)(f:Nat->List Nat)(p)(h:p<L.length):(L.take (p+1)).flatMap f=(L.take p).flatMap f++f L[p]:=by rw[arW,arq h,List.flatMap_append];simp only[as2,arZ,asy,arP]
theorem TA {b n}(R:JY rd a b n)(c):(dG rd a b n c).length<=30:=by
 have h:=R;obtain⟨d0,d1,a0,a1,b0,b1,n0,n1⟩:=h;have l1:=nY (n:=rd) ab ab;have l2:=nY (n:=a) ab ab;have l3:=nY (n:=b) ab ab;have l4:=nY (n:=n) ab ab;have l5:=nY (n:=n/4096) ab ab;unfold dG rg;repeat' split
 all_goals simp<;>omega
theorem rH {rd a b n:Int}(R:JY rd a b n):∀l:List Nat,(l.flatMap (dG rd a b n)).length≤30*l.length
 | []=>aq
 |c::l=>by
  have:=rH R l;have:=TA R c;simp only[arZ,ary,arM];omega
theorem kL {op b n}(R:JY rd a b n)(T:ig w):Calls prog 33 #[agg #[int i64 op,int i64 rd,int i64 a,int i64 b,int i32 n]] w fun e w'=>e=.returned (str (pI op rd a b n))/\Gr w w':=by
 have HS:=kH (M8 op);have HR:=kH R;have HT:=kH T;have hch:=kH (adA op);have hln:=kH (BH op);unfold pI;generalize lg op=S at *
 go_enter func33,ntmps33;go_wp2_with fail;refine(HS _).mono ?_;rintro e _ ⟨rfl,rfl⟩;rw[show str S=string (bs S)from rfl];go_wp2_with fail;go_loopw [] (fun wr=>∃(pos:Nat),pos<=S.length/\Lib.IsBuilderF 74 5 (w.heap.size+1) (w.heap.size+1) (Lib.byteCells (((S.take pos).flatMap (dG rd a b n)).map UInt8.ofNat)) wr/\wr.heap[w.heap.size+1+1]?=some (.stringIter (bs S) pos)/\wr.heap[w.heap.size]?=some (cells #[int i64 op,int i64 rd,int i64 a,int i64 b,int i32 n] 59 (0,0))/\Gr w wr) (fun wr=>(bs S).size-wr.iterPos (w.heap.size+1+1))
 case atStart=>
  refine⟨0,arQ _,?_,?_,?_,(((Gr.refl w).alloc _).alloc _).alloc _⟩
  ·have:=(Lib.IsBuilderF.of (Lib.fresh_isBuilder 74 5 (w.alloc (cells #[int i64 op,int i64 rd,int i64 a,int i64 b,int i32 n] 59)))).alloc (.stringIter (bs S) 0);rw[show(w.alloc (cells #[int i64 op,int i64 rd,int i64 a,int i64 b,int i32 n] 59)).heap.size=w.heap.size+1 by simp]at this;exact this
  ·have:=World.iter_heap ((w.alloc (cells #[int i64 op,int i64 rd,int i64 a,int i64 b,int i32 n] 59)).alloc (cells #[pointer none,slice none 0 0] 74)) (bs S) 0;simpa using this
  ·show(((w.alloc _).alloc _).alloc _).heap[w.heap.size]?=_
   rw[heap_alloc_old _ _ aE,heap_alloc_old _ _ aq];exact awk w _
 case round=>
  obtain⟨pos,hps,hI,hit,hbk,hg⟩:=hrel;have hI0:=kH hI;by_cases hp:pos<S.length
  ·have hp':pos<(bs S).size:=by rw[df];exact hp
   have hc:=hch _ (as8 hp);have amK:S[pos]<128:=ab;have e0:((bs S)[pos]'hp').toNat=S[pos]:=by
    have:(bs S)[pos]'hp'=UInt8.ofNat S[pos]:=by
     show(bs S).data[pos]=_
     simp only[bs,arx,List.getElem_map]
    rw[this,awY];omega
   have hnx:∀ty,(Instr.next (pointer (some ⟨w.heap.size+1+1,0,none⟩)) true ty).run prog wr=.ok (tuple #[.bool true,int i64 pos,int i32 (S[pos]:Nat)]) (wr.iterAt (w.heap.size+1+1) (bs S) (pos+1)):=fun ty=>by
    rw[Lib.run_next_ascii_at wr _ (bs S) pos ty hit hp' ab,e0]
   have HI2:=kH (hI.iterAt hit (pos+1));have hit2:Hid _:=Lib.iterAt_heap wr (w.heap.size+1+1) (bs S) pos (pos+1) hit;have hbk2:=kH ((Lib.iterAt_other wr (w.heap.size+1+1) w.heap.size (bs S) (pos+1) ab).trans hbk);have hg2:Hid (Gr w (wr.iterAt (w.heap.size+1+1) (bs S) (pos+1))):=Lib.below_iterAt hg ab (bs S) (pos+1);have hm:Hid (wr.iterPos (w.heap.size+1+1)=pos):=by unfold Hid;simp[World.iterPos,hit]
   have HC:Hid (∀W:World,ig W->Calls prog 68 #[agg #[int i64 op,int i64 rd,int i64 a,int i64 b,int i32 n],int i32 ((S[pos]:Nat):Int)] W fun e w'=>e=.returned (str (dG rd a b n S[pos]))/\Gr W w'):=fun W T=>qN HR T hc
   have hfl:=kH (M9 S (dG rd a b n) pos hp);have hle:Hid _:=rH HR (S.take (pos+1));generalize wr.iterAt (w.heap.size+1+1) (bs S) (pos+1)=W1 at *
   generalize S[pos]=c at *
   have z0:=fA hbk2;have z1:=eH hbk2;have z2:=uJ hbk2;have z3:=Ca hbk2;have z4:=tO hbk2;go_wp2_with fail;refine(HC.out _ (HT.out.of hg2.out)).mono ?_;rintro e W2 ⟨rfl,G2⟩;have HI3:=kH (YB HI2.out G2);have hit3:=kH (upA G2 hit2.out);have akX:=kH (upA G2 hbk2.out);have hg3:=kH (hg2.out.trans G2);have hsz:Hid (w.heap.size+1<=W2.heap.size):=by have:=(gs hit3.out).1;unfold Hid;omega
   have H4:Hid (Calls prog 19 #[pointer (some ⟨w.heap.size+1,0,none⟩),string (bs (dG rd a b n c))] W2 fun e w'=>e=.returned (tuple #[int i64 (bs (dG rd a b n c)).size,.nilIface])/\Lib.IsBuilderF 74 5 (w.heap.size+1) (w.heap.size+1) (Lib.byteCells (((S.take pos).flatMap (dG rd a b n)).map UInt8.ofNat)++Lib.strCells (bs (dG rd a b n c))) w'/\Below (w.heap.size+1) W2 w'/\Lib.OthersKept 5 (some (w.heap.size+1)) W2 w'):=
    M6 (bs (dG rd a b n c)) HI3.out (by
     have h1:=hle.out;have h2:=congrArg List.length hfl.out;have h3:=hln.out;rw[ase]at h1;rw[ary]at h2;rw[Lib.byteCells_length,asf,df];omega) hsz.out
   have hcs:Hid (Lib.byteCells (((S.take pos).flatMap (dG rd a b n)).map UInt8.ofNat)++Lib.strCells (bs (dG rd a b n c))=Lib.byteCells (((S.take (pos+1)).flatMap (dG rd a b n)).map UInt8.ofNat)):=by
    unfold Hid;rw[hfl.out,Lib.strCells_eq,bV,asl];simp[Lib.byteCells]
   rw[show str (dG rd a b n c)=string (bs (dG rd a b n c))from rfl];generalize bs (dG rd a b n c)=sb at *
   go_wp2_with fail;refine H4.mono ?_;rintro e W3 ⟨rfl,hI4,hb4,hk4⟩;rw[hcs.out]at hI4;have HI4:=kH hI4;go_wp2_with fail;go_roundw
   case rel=>
    exact⟨pos+1,ab,HI4,hk4.iter hit3 ab,(axk hb4 _ ab).trans akX,hg3.trans' hb4⟩
   case measure=>
    have e1:W3.iterPos (w.heap.size+1+1)=pos+1:=by simp[World.iterPos,hk4.iter hit3.out ab]
    rw[e1,hm.out];omega
  ·have akY:pos=S.length:=ab;subst akY;have hnx:∀ty,(Instr.next (pointer (some ⟨w.heap.size+1+1,0,none⟩)) true ty).run prog wr=_:=fun ty=>Lib.run_next_end_at wr (w.heap.size+1+1) (bs S) S.length ty hit (by rw[df];omega)
   have hsz:w.heap.size+1<=wr.heap.size:=by have:=(gs hit).1;omega
   have H5:Hid (Calls prog 21 #[pointer (some ⟨w.heap.size+1,0,none⟩)] wr fun e w'=>e=.returned (str (S.flatMap (dG rd a b n)))/\Below (w.heap.size+1) wr w'):=(Tryz.Builder_String_any_k (w.heap.size+1) (w.heap.size+1) (((S.take S.length).flatMap (dG rd a b n)).map UInt8.ofNat) wr hI hsz).mono fun e w' ⟨he,_,hb,_⟩=>⟨by rw[he,ash];rfl,hb⟩
   have HG:=kH hg;go_wp2_with fail;refine H5.mono ?_;rintro e W3 ⟨rfl,hb4⟩;go_wp2_with fail;go_ret;exact⟨rfl,HG.trans' hb4⟩
end As
namespace As
open Mm
theorem zm {op}{t}(h:decide (46<=op/\op<=56)=t)(w):Calls prog 66 #[int i64 op] w fun e w'=>e=.returned (.bool t)/\w=w':=by
 have H:Hid (∀w:World,Calls prog 94 #[int i64 op,int i64 46,int i64 56] w fun e w'=>e=.returned (.bool t)/\w=w'):=fun w=>by
  cases t with
  |true=>have:=axu h;exact aG this.1 this.2 w
  |false=>have:=of_decide_eq_false h;exact ai ab w
 go_enter func66,ntmps66;go_wp2_with fail;refine(H _).mono ?_;rintro e _ ⟨rfl,rfl⟩;go_wp2_with fail;go_ret;exact⟨rfl,rfl⟩
theorem TC (h1:1<=k)(h2:k<=59)(hk:¬(46<=(k:Int)/\(k:Int)<=56))(rd a b n)(T:ig w):Calls prog 32 #[agg #[int i64 (k:Int),int i64 rd,int i64 a,int i64 b,int i32 n]] w fun e w'=>e=.returned (str (names.getD (k-1) []))/\Gr w w':=by
 have HA:Hid (∀w:World,Calls prog 66 #[int i64 (k:Int)] w fun e w'=>e=.returned (.bool false)/\w=w'):=zm (by simpa using hk);have c0:(0:Int)<=(k:Int):=ab;have c1:(k:Int)<60:=ab;have q:∀o,(w.alloc o).cell? ⟨1,k,none⟩=some (str (names.getD (k-1) [])):=fun o=>by
  have:=(T.of ((Gr.refl w).alloc o)).nm (k-1) ab;rwa[show k-1+1=k by omega]at this
 generalize str (names.getD (k-1) [])=V at *
 go_enter func32,ntmps32;go_wp2_with fail;refine(HA _).mono ?_;rintro e _ ⟨rfl,rfl⟩;go_wp2_with fail;go_ret;exact⟨rfl,(Gr.refl _).alloc _⟩
theorem TD {A B}(hl:A.length+B.length<=1000000)(w):(binOp .add 9 (str A) (str B)).run prog w=.ok (str (A++B)) w:=by
 have e:(Op.stringOp .add ⟨(A.map UInt8.ofNat).toArray⟩ ⟨(B.map UInt8.ofNat).toArray⟩).run prog w=.ok (str (A++B)) w:=by
  rw[<-jF];exact run_string_add_sum _ _ _ (by show(A.map UInt8.ofNat).toArray.size+(B.map UInt8.ofNat).toArray.size<=9223372036854775807;simp;omega)
 unfold str at e ⊢;rw[binOp_string_add];exact e
theorem TE {m:Nat}(h1:46<=(k:Int))(h2:(k:Int)<=56)(hm:m<4)(rd a b)(T:ig w):Calls prog 32 #[agg #[int i64 (k:Int),int i64 rd,int i64 a,int i64 b,int i32 (m:Int)]] w fun e w'=>e=.returned (str (names.getD (k-1) []++[46,119]++UL (m:Int)))/\Gr w w':=by
 have HA:Hid (∀w:World,Calls prog 66 #[int i64 (k:Int)] w fun e w'=>e=.returned (.bool true)/\w=w'):=zm aE;have c0:(0:Int)<=(k:Int):=ab;have c1:(k:Int)<60:=ab;have c2:(0:Int)<=(m:Int):=ab;have c3:(m:Int)<4:=ab;have q:∀o,(w.alloc o).cell? ⟨1,k,none⟩=some (str (names.getD (k-1) [])):=fun o=>by
  have:=(T.of ((Gr.refl w).alloc o)).nm (k-1) ab;rwa[show k-1+1=k by omega]at this
 have r:∀o,(w.alloc o).cell? ⟨2,m,none⟩=some (str (UL (m:Int))):=fun o=>(T.of ((Gr.refl w).alloc o)).ad m hm
 have HL:Hid ((names.getD (k-1) []).length<=10):=by
  have:∀k:Fin 59,(names.getD k.val []).length<=10:=an;exact this ⟨k-1,ab⟩
 have HM:Hid ((UL (m:Int)).length<=10):=by
  unfold Hid UL;repeat' split
  all_goals simp
 generalize names.getD (k-1) []=A at *
 generalize UL (m:Int)=M at *
 have q0:=q (cells #[int i64 (k:Int),int i64 rd,int i64 a,int i64 b,int i32 (m:Int)] 59);have r0:=r (cells #[int i64 (k:Int),int i64 rd,int i64 a,int i64 b,int i32 (m:Int)] 59);have ha1:∀w:World,(binOp .add 9 (str A) (string ⟨#[46,119]⟩)).run prog w=.ok (str (A++[46,119])) w:=fun w=>TD (B:=[46,119]) (by have:=HL.out;simp;omega) w
 have ha2:∀w:World,(binOp .add 9 (str (A++[46,119])) (str M)).run prog w=.ok (str (A++[46,119]++M)) w:=fun w=>TD (by have:=HL.out;have:=HM.out;simp;omega) w
 generalize str (A++[46,119]++M)=V at *
 generalize str (A++[46,119])=V1 at *
 go_enter func32,ntmps32;go_wp2_with fail;refine(HA _).mono ?_;rintro e _ ⟨rfl,rfl⟩;go_wp2_with fail;go_quiet (fail);go_wp2_with fail;go_ret;exact⟨rfl,br.drewN _⟩
theorem Na {op n}(h1:1<=op)(h2:op<=59)(hn:46<=op->op<=56->0<=n/\n<=3)(rd a b)(T:ig w):Calls prog 32 #[agg #[int i64 op,int i64 rd,int i64 a,int i64 b,int i32 n]] w fun e w'=>e=.returned (str (tV op n))/\Gr w w':=by
 obtain⟨k,rfl⟩:∃k:Nat,op=(k:Int):=⟨op.toNat,ab⟩;unfold tV;rw[show((k:Int)-1).toNat=k-1 by omega];by_cases h:46<=(k:Int)/\(k:Int)<=56
 ·rw[awn h];obtain⟨n0,n1⟩:=hn h.1 h.2;obtain⟨m,rfl⟩:∃m:Nat,n=(m:Int):=⟨n.toNat,ab⟩;exact TE h.1 h.2 ab rd a b T
 ·rw[awm h];exact TC ab ab h rd a b n T
theorem adB {op b n}(h:Re.IsP op rd a b n):46<=op->op<=56->0<=n/\n<=3:=fun h1 h2=>by rcases h.2 with h|h|h|h|h|h|h|h|h|h|h|h<;>omega
theorem zo {op b n}(n0 : -2147483648<=n)(n1:n<2147483648)(hy:Re.IsP op rd a b n)(T:ig w):Calls prog 16 #[agg #[int i64 op,int i64 rd,int i64 a,int i64 b,int i32 n]] w fun e w'=>e=.returned (tuple #[str (xR op rd a b n),int i64 0])/\Gr w w':=by
 have H0:Hid (∀w:World,Dw.oV w->Calls prog 31 #[agg #[int i64 op,int i64 rd,int i64 a,int i64 b,int i32 n]] w fun e w'=>e=.returned (tuple #[int .u32 (Dw.Wv op rd a b n),int i64 0])/\Gr w w'):=fun w T=>(Dw.wu op rd a b n w T n0 n1 (Dw.wy hy n0 n1)).mono fun e w' ⟨he,g⟩=>⟨he,g.1⟩
 have H1:Hid (∀w:World,ig w->Calls prog 32 #[agg #[int i64 op,int i64 rd,int i64 a,int i64 b,int i32 n]] w fun e w'=>e=.returned (str (tV op n))/\Gr w w'):=fun w T=>Na hy.1.1 hy.1.2.1 (adB hy) rd a b T
 have H2:Hid (∀w:World,ig w->Calls prog 33 #[agg #[int i64 op,int i64 rd,int i64 a,int i64 b,int i32 n]] w fun e w'=>e=.returned (str (pI op rd a b n))/\Gr w w'):=fun w T=>kL (JY.of hy n0 n1) T
 have HT:=kH T;have HL:=kH (Cg hy.1.1 hy.1.2.1 n);have HM:Hid ((pI op rd a b n).length<=210):=by
  have:=rH (JY.of hy n0 n1) (lg op);have:=BH op;unfold Hid pI;omega
 have HE:Hid (xR op rd a b n=tV op n++if pI op rd a b n=[]then[]else 32::pI op rd a b n):=by
  unfold Hid xR;rw[Cj hy.1.1 hy.1.2.1]
 rw[HE.out];generalize Dw.Wv op rd a b n=v at *
 generalize tV op n=A at *
 generalize pI op rd a b n=M at *
 go_enter func16,ntmps16;go_wp2_with fail;refine(H0 _ (HT.of br).tb).mono ?_;rintro e w1 ⟨rfl,G1⟩;have HB1:=kH (upA G1 (awk w _));have aU:=kH (br.trans G1);have z0:=fA HB1;have z1:=eH HB1;have z2:=uJ HB1;have z3:=Ca HB1;have z4:=tO HB1;go_wp2_with fail;refine(H1 _ (HT.of aU)).mono ?_;rintro e w2 ⟨rfl,G2⟩;have HB2:=kH (upA G2 HB1);have HG2:=kH (aU.trans G2);have z0:=fA HB2;have z1:=eH HB2;have z2:=uJ HB2;have z3:=Ca HB2;have z4:=tO HB2;go_wp2_with fail;refine(H2 _ (HT.of HG2)).mono ?_;rintro e w3 ⟨rfl,G3⟩;have eO:=kH (HG2.trans G3);by_cases hM:M=[]
 ·subst hM;rw[show str []=string ⟨#[]⟩from rfl];go_wp2_with fail;go_ret2;exact⟨aq,eO⟩
 ·have h1:(!(bs M).toList.isEmpty)=true:=by
   rw[ar1,bV];simpa using hM
  rw[show str M=string (bs M)from rfl]
  go_wp2_with (first
   |(refine u7 rfl _ _ _ _ rfl [32] M rfl rfl (by have:=HM.out;simp;omega) ?_)
   |(refine u7 rfl _ _ _ _ rfl A (32::M) rfl rfl (by have:=HL.out;have:=HM.out;simp;omega) ?_))
  go_ret2;exact⟨by first|rfl|(simp[hM];rfl),eO⟩
end As
namespace Vp
variable[Inhabited Hc.bH]
open Mm Hh Hc Mc Ud As
variable{p:Pl}
theorem tL {l}{pc}(h0:0<=pc)(h1:pc<4294967296):(¬Bk.kJ l pc=0->Bk.blk l pc 16 0=[])/\(Bk.kJ l pc=0->∃r,Bk.blk l pc 16 0=aT l 13 pc::r):=by
 have e:Bk.at4 pc 0=pc:=by unfold Bk.at4 Wd.lo;omega
 refine⟨fun h=>Bk.qG (n:=15) (k:=0) (by rw[e];exact h),fun h=>?_⟩;rw[Bk.blk,e,awn h];exact⟨_,rfl⟩
theorem BI {x}(h0:0<=x)(h1:x<4294967296)(h:¬Dc.aO x=0):Re.IsP (Dc.aO x) (Dc.jd (Dc.aM (Dc.aO x)) x) (Dc.dh (Dc.aM (Dc.aO x)) x) (Dc.cz (Dc.aM (Dc.aO x)) x) (Dc.bU (Dc.aM (Dc.aO x)) x):=by
 have hb:=Dc.l9 h0 h1;have:0<=Dc.aO x:=by unfold Dc.aO;split<;>omega
 exact Dw.wC h0 h1 ⟨by unfold Dw.gI;simpa using h,rfl,rfl,rfl,rfl,rfl⟩
theorem adC (hp:pc<4294967296)(X:Pr 71 B w g M H P U p)(T:Tz B w)(hf:Bk.kJ p.m pc=0):Calls prog 53 #[pointer (some ⟨g,0,none⟩),int .u32 pc] w (bO 71 B w g M H P (p,gY p [pc])):=by
 obtain⟨r,hr⟩:=(tL (l:=p.m) (pc:=(pc:Int)) ab ab).2 hf;have e:gY p [pc]=uH (aT p.m 13 pc):=by unfold gY;simp only[hr]
 rw[e];obtain⟨ma,mc,ha,hc0,pa,pc',ua,un,uc,rfl,rfl,rfl,rfl,NM,_⟩:=X.open;have z0:=fA X.blk;have m4:=X.ok.m4;have wx:=W.aT p.m 13 (pc:Int);have hd:¬Dc.aO (aT p.m 13 pc)=0:=by
  unfold Bk.kJ at hf;split at hf
  ·split at hf
   ·cases hf
   ·assumption
  ·cases hf
 have HF:Hid (Calls prog 29 #[slice ma p.m.length mc,int .u32 pc] w fun e w'=>e=.returned (tuple #[Dw.kv (aT p.m 13 pc),int i64 0])/\Gr w w'):=by
  have:=Hf.oG mc (pc:Int) NM T.Bu.tb ab ab ab;rwa[hf]at this
 have hP:=BI wx.1 wx.2 hd;have ib:=sK (Dc.aM (Dc.aO (aT p.m 13 pc))) wx.1 wx.2;have HP:Hid (∀W:World,Gr w W->Calls prog 16 #[Dw.kv (aT p.m 13 pc)] W fun e w'=>e=.returned (tuple #[str (uH (aT p.m 13 pc)),int i64 0])/\Gr W w'):=fun W G=>zo ib.1 ib.2 hP (T.gr G).Bu
 have HB:Hid (∀e w',Gr w w'->e=.returned (str (uH (aT p.m 13 pc)))->bO 71 B w g (slice ma p.m.length mc) (slice ha p.hs.length hc0) (slice pa p.ps.length pc') (p,uH (aT p.m 13 pc)) e w'):=fun e w' G he=>⟨he,_,_,_,_,X.gr G,Fx.aJ G⟩
 unfold Dw.kv Dw.dm at HF HP;generalize str (uH (aT p.m 13 pc))=V at *
 generalize uH (aT p.m 13 pc)=V0 at *
 generalize Dc.jd (Dc.aM (Dc.aO (aT p.m 13 pc))) (aT p.m 13 pc)=x1 at *
 generalize Dc.dh (Dc.aM (Dc.aO (aT p.m 13 pc))) (aT p.m 13 pc)=x2 at *
 generalize Dc.cz (Dc.aM (Dc.aO (aT p.m 13 pc))) (aT p.m 13 pc)=x3 at *
 generalize Dc.bU (Dc.aM (Dc.aO (aT p.m 13 pc))) (aT p.m 13 pc)=x4 at *
 generalize Dc.aO (aT p.m 13 pc)=x0 at *
 go_enter func53,ntmps53;go_wp2_with fail;refine HF.mono ?_;rintro e w1 ⟨rfl,G1⟩;have aU:=kH G1
 go_wp2_with (first
  |(refine awx rfl 59 _ _ rfl w1.heap.size #[int i64 x0,int i64 x1,int i64 x2,int i64 x3,int i32 x4] rfl ar 59 #[int i64 0,int i64 0,int i64 0,int i64 0,int i32 0] ?r3 Hf.iI rfl (Hf.kK _ _ _ _ _) ?_;(case r3=>exact awk w1 _))
  |(refine aw6 rfl 59 _ rfl w1.heap.size rfl 59 #[int i64 x0,int i64 x1,int i64 x2,int i64 x3,int i32 x4] (0,0) _ ?z1 underlying59 rfl Hf.iI ?_;(case z1=>exact awJ _ _ _ _ _ (0,0) (awk w1 _))))
 refine(HP _ (ag (aU.alloc _) aU.size _)).mono ?_;rintro e w5 ⟨rfl,G5⟩;have kg:=kH ((ag (aU.alloc _) aU.size _).trans G5);go_wp2_with fail;go_ret;exact HB _ _ kg rfl
theorem adD (hp:pc<4294967296)(X:Pr 71 B w g M H P U p)(T:Tz B w)(hf:¬Bk.kJ p.m pc=0):Calls prog 53 #[pointer (some ⟨g,0,none⟩),int .u32 pc] w (bO 71 B w g M H P (p,gY p [pc])):=by
 have hr:=(tL (l:=p.m) (pc:=(pc:Int)) ab ab).1 hf;have e:gY p [pc]=ZG:=by unfold gY;simp only[hr]
 rw[e];obtain⟨ma,mc,ha,hc0,pa,pc',ua,un,uc,rfl,rfl,rfl,rfl,NM,_⟩:=X.open;have z0:=fA X.blk;have m4:=X.ok.m4;have HF:=kH (Hf.oG mc (pc:Int) NM T.Bu.tb ab ab ab);have HB:Hid (∀e w',Gr w w'->e=.returned (str ZG)->bO 71 B w g (slice ma p.m.length mc) (slice ha p.hs.length hc0) (slice pa p.ps.length pc') (p,ZG) e w'):=fun e w' G he=>⟨he,_,_,_,_,X.gr G,Fx.aJ G⟩
 unfold Dw.kv Dw.dm at HF;generalize Bk.kJ p.m pc=E at *
 generalize Dc.jd (Dc.aM (Dc.aO (aT p.m 13 pc))) (aT p.m 13 pc)=x1 at *
 generalize Dc.dh (Dc.aM (Dc.aO (aT p.m 13 pc))) (aT p.m 13 pc)=x2 at *
 generalize Dc.cz (Dc.aM (Dc.aO (aT p.m 13 pc))) (aT p.m 13 pc)=x3 at *
 generalize Dc.bU (Dc.aM (Dc.aO (aT p.m 13 pc))) (aT p.m 13 pc)=x4 at *
 generalize Dc.aO (aT p.m 13 pc)=x0 at *
 go_enter func53,ntmps53;go_wp2_with fail;refine HF.mono ?_;rintro e w1 ⟨rfl,G1⟩;have aU:=kH G1;go_wp2_with (refine awx rfl 59 _ _ rfl w1.heap.size #[int i64 x0,int i64 x1,int i64 x2,int i64 x3,int i32 x4] rfl ar 59 #[int i64 0,int i64 0,int i64 0,int i64 0,int i32 0] ?r3 Hf.iI rfl (Hf.kK _ _ _ _ _) ?_;(case r3=>exact awk w1 _));go_ret;exact HB _ _ (ag (aU.alloc _) aU.size _) rfl
theorem TF (hp:pc<4294967296)(X:Pr 71 B w g M H P U p)(T:Tz B w):Calls prog 53 #[pointer (some ⟨g,0,none⟩),int .u32 pc] w (bO 71 B w g M H P (p,gY p [pc])):=by
 by_cases hf:Bk.kJ p.m pc=0
 ·exact adC hp X T hf
 ·exact adD hp X T hf
end Vp
namespace Vp
variable[Inhabited Hc.bH]
open Mm Hh Hc Mc Ud As
variable{w w':World}{g B:Nat}{M H P U:Value}{p:Pl}{V:Value}
variable{r:Pl×List Nat}
def Rd (w:World) (V:Value) (s:ByteArray) (l:List Nat):Prop:=Calls prog 42 #[V] w fun e w'=>∃a c,e=.returned (tuple #[string s,slice a l.length c,.bool true])/\(Ns .u32 w' a l.length l/\∀b o,a=some ⟨b,o,none⟩->w.heap.size<=b)/\Gr w w'
def Cm (w:World) (g B:Nat) (M H P:Value) (f:Nat) (args:Array Value) (r:Pl×List Nat):Prop:=∀W:World,Gr w W->Calls prog f args W (bO 71 B w g M H P r)
theorem Cm.mk {f:Nat}{args}{r}(h:∀W,Gr w W->Calls prog f args W (bO 71 B W g M H P r)):Cm w g B M H P f args r:=fun W G=>(h W G).mono fun e w' q=>bO.pre (D:=(_,_,_)) (Fx.aJ G) q
theorem YC (R:Rd w V ⟨#[104,97,114,116]⟩ [x0])(C:Cm w g B M H P 44 #[pointer (some ⟨g,0,none⟩),int .u32 (x0:Int)] r):Calls prog 20 #[pointer (some ⟨g,0,none⟩),V] w (bO 71 B w g M H P r):=by have HR:=kH R;have HC:Hid _:=C;clear R C;go_enter func20,ntmps20;go_wp2_with fail;refine HR.mono ?_;rintro e w1 ⟨a,c,rfl,⟨N,_⟩,G⟩;have HG:Hid (Gr w w1):=G;obtain⟨b,o,rfl,_,hc⟩:=N.spot aq;have c0:w1.cell? ⟨b,o,none⟩=some (int .u32 (x0:Int)):=hc 0 x0 rfl;clear hc N G;go_wp2_with fail;refine(HC _ HG).mono ?_;rintro e w2 ⟨rfl,h⟩;go_wp2_with fail;go_ret;exact⟨rfl,h⟩
theorem TG {x2}(R:Rd w V ⟨#[115,101,116]⟩ [x0,x1,x2])(C:Cm w g B M H P 45 #[pointer (some ⟨g,0,none⟩),int .u32 (x0:Int),int .u32 (x1:Int),int .u32 (x2:Int)] r):Calls prog 20 #[pointer (some ⟨g,0,none⟩),V] w (bO 71 B w g M H P r):=by
 have HR:Hid _:=R;have HC:Hid _:=C;clear R C;go_enter func20,ntmps20;go_wp2_with fail;refine HR.mono ?_;rintro e w1 ⟨a,c,rfl,⟨N,_⟩,G⟩;have HG:Hid (Gr w w1):=G;obtain⟨b,o,rfl,_,hc⟩:=N.spot aq;have c0:w1.cell? ⟨b,o,none⟩=some (int .u32 (x0:Int)):=hc 0 x0 rfl;have c1:w1.cell? ⟨b,o+1,none⟩=some (int .u32 (x1:Int)):=hc 1 x1 rfl;have c2:w1.cell? ⟨b,o+2,none⟩=some (int .u32 (x2:Int)):=hc 2 x2 rfl;clear hc N G;go_wp2_with fail;go_region_with (go_at_call 45;refine(HC _ (HG.trans (Gr.refl _).drew)).mono ?_;rintro e w2 ⟨rfl,h⟩)
 all_goals
  go_wp2_with fail;go_ret;exact⟨rfl,h⟩
theorem YD (R:Rd w V ⟨#[112,105,99,107]⟩ [x0,x1])(C:Cm w g B M H P 46 #[pointer (some ⟨g,0,none⟩),int .u32 (x0:Int),int .u32 (x1:Int)] r):Calls prog 20 #[pointer (some ⟨g,0,none⟩),V] w (bO 71 B w g M H P r):=by
 have HR:Hid _:=R;have HC:Hid _:=C;clear R C;go_enter func20,ntmps20;go_wp2_with fail;refine HR.mono ?_;rintro e w1 ⟨a,c,rfl,⟨N,_⟩,G⟩;have HG:Hid (Gr w w1):=G;obtain⟨b,o,rfl,_,hc⟩:=N.spot aq;have c0:w1.cell? ⟨b,o,none⟩=some (int .u32 (x0:Int)):=hc 0 x0 rfl;have c1:w1.cell? ⟨b,o+1,none⟩=some (int .u32 (x1:Int)):=hc 1 x1 rfl;clear hc N G;go_wp2_with fail;go_region_with (go_at_call 46;refine(HC _ (HG.trans (Gr.refl _).drew)).mono ?_;rintro e w2 ⟨rfl,h⟩)
 all_goals
  go_wp2_with fail;go_ret;exact⟨rfl,h⟩
theorem adE (R:Rd w V ⟨#[114,117,110]⟩ [])(C:Cm w g B M H P 47 #[pointer (some ⟨g,0,none⟩)] r):Calls prog 20 #[pointer (some ⟨g,0,none⟩),V] w (bO 71 B w g M H P r):=by have HR:=kH R;have HC:=kH C;go_enter func20,ntmps20;go_wp2_with fail;refine HR.mono ?_;rintro e w1 ⟨a,c,rfl,⟨N,_⟩,G⟩;have HG:=kH G;go_wp2_with fail;refine(HC _ HG).mono ?_;rintro e w2 ⟨rfl,h⟩;go_wp2_with fail;go_ret;exact⟨rfl,h⟩
theorem YE (R:Rd w V ⟨#[102,97,115,116]⟩ [x0])(C:Cm w g B M H P 48 #[pointer (some ⟨g,0,none⟩),int .u32 (x0:Int)] r):Calls prog 20 #[pointer (some ⟨g,0,none⟩),V] w (bO 71 B w g M H P r):=by have HR:=kH R;have HC:Hid _:=C;clear R C;go_enter func20,ntmps20;go_wp2_with fail;refine HR.mono ?_;rintro e w1 ⟨a,c,rfl,⟨N,_⟩,G⟩;have HG:Hid (Gr w w1):=G;obtain⟨b,o,rfl,_,hc⟩:=N.spot aq;have c0:w1.cell? ⟨b,o,none⟩=some (int .u32 (x0:Int)):=hc 0 x0 rfl;clear hc N G;go_wp2_with fail;refine(HC _ HG).mono ?_;rintro e w2 ⟨rfl,h⟩;go_wp2_with fail;go_ret;exact⟨rfl,h⟩
theorem adF (R:Rd w V ⟨#[104,97,114,116,63]⟩ [x0])(C:Cm w g B M H P 49 #[pointer (some ⟨g,0,none⟩),int .u32 (x0:Int)] r):Calls prog 20 #[pointer (some ⟨g,0,none⟩),V] w (bO 71 B w g M H P r):=by have HR:=kH R;have HC:Hid _:=C;clear R C;go_enter func20,ntmps20;go_wp2_with fail;refine HR.mono ?_;rintro e w1 ⟨a,c,rfl,⟨N,_⟩,G⟩;have HG:Hid (Gr w w1):=G;obtain⟨b,o,rfl,_,hc⟩:=N.spot aq;have c0:w1.cell? ⟨b,o,none⟩=some (int .u32 (x0:Int)):=hc 0 x0 rfl;clear hc N G;go_wp2_with fail;refine(HC _ HG).mono ?_;rintro e w2 ⟨rfl,h⟩;go_wp2_with fail;go_ret;exact⟨rfl,h⟩
theorem YF (R:Rd w V ⟨#[115,104,111,119]⟩ [x0])(C:Cm w g B M H P 53 #[pointer (some ⟨g,0,none⟩),int .u32 (x0:Int)] r):Calls prog 20 #[pointer (some ⟨g,0,none⟩),V] w (bO 71 B w g M H P r):=by have HR:=kH R;have HC:Hid _:=C;clear R C;go_enter func20,ntmps20;go_wp2_with fail;refine HR.mono ?_;rintro e w1 ⟨a,c,rfl,⟨N,_⟩,G⟩;have HG:Hid (Gr w w1):=G;obtain⟨b,o,rfl,_,hc⟩:=N.spot aq;have c0:w1.cell? ⟨b,o,none⟩=some (int .u32 (x0:Int)):=hc 0 x0 rfl;clear hc N G;go_wp2_with fail;refine(HC _ HG).mono ?_;rintro e w2 ⟨rfl,h⟩;go_wp2_with fail;go_ret;exact⟨rfl,h⟩
theorem YG (R:Rd w V ⟨#[98,97,99,107]⟩ [x0])(C:Cm w g B M H P 54 #[pointer (some ⟨g,0,none⟩),int .u32 (x0:Int)] r):Calls prog 20 #[pointer (some ⟨g,0,none⟩),V] w (bO 71 B w g M H P r):=by have HR:=kH R;have HC:Hid _:=C;clear R C;go_enter func20,ntmps20;go_wp2_with fail;refine HR.mono ?_;rintro e w1 ⟨a,c,rfl,⟨N,_⟩,G⟩;have HG:Hid (Gr w w1):=G;obtain⟨b,o,rfl,_,hc⟩:=N.spot aq;have c0:w1.cell? ⟨b,o,none⟩=some (int .u32 (x0:Int)):=hc 0 x0 rfl;clear hc N G;go_wp2_with fail;refine(HC _ HG).mono ?_;rintro e w2 ⟨rfl,h⟩;go_wp2_with fail;go_ret;exact⟨rfl,h⟩
theorem YH (R:Rd w V ⟨#[119,104,97,116]⟩ [x0])(C:Cm w g B M H P 50 #[int .u32 (x0:Int)] r):Calls prog 20 #[pointer (some ⟨g,0,none⟩),V] w (bO 71 B w g M H P r):=by have HR:=kH R;have HC:Hid _:=C;clear R C;go_enter func20,ntmps20;go_wp2_with fail;refine HR.mono ?_;rintro e w1 ⟨a,c,rfl,⟨N,_⟩,G⟩;have HG:Hid (Gr w w1):=G;obtain⟨b,o,rfl,_,hc⟩:=N.spot aq;have c0:w1.cell? ⟨b,o,none⟩=some (int .u32 (x0:Int)):=hc 0 x0 rfl;clear hc N G;go_wp2_with fail;refine(HC _ HG).mono ?_;rintro e w2 ⟨rfl,h⟩;go_wp2_with fail;go_ret;exact⟨rfl,h⟩
theorem gs1 {n1 c1}(h:w.heap[b]?=some (cells #[slice a1 n1 c1] t f))(h1:Ts w a1 n1 L1/\(a1=none->c1=0)):Gs w b 1 [L1]:=
 ⟨rfl,(gs h).1,fun i L hi=>by
  obtain rfl:i=0:=by
   have:=(arw.1 hi).1;simp at this;omega
  simp only[arC,awz]at hi;subst hi;exact⟨_,_,_,fA h,h1.1,h1.2⟩⟩
theorem ag2 (S:Gs w b 1 [[dg x]])(hx:x<9223372036854775808):Calls prog 51 #[slice (some ⟨b,0,none⟩) 1 1] w fun e w'=>e=.returned (str (dg x))/\Gr w w':=by
 have:=j5 (c:=1) S aq ab aq (fun y hy=>by
  simp only[asQ,ata,arP,arL]at hy;subst hy;exact pz hx)
 have e:jn [[dg x]].flatten=dg x:=by simp[jn]
 rwa[e]at this
theorem TH (hx:x0<4294967296)(R:Rd w V ⟨#[98,108,111,99,107]⟩ [x0])(X:Pr 71 B w g M H P U p)(T:Tz B w):Calls prog 20 #[pointer (some ⟨g,0,none⟩),V] w (bO 71 B w g M H P (p,sV p [x0])):=by
 have e:sV p [x0]=dg (Bk.blk p.m x0 16 0).length:=rfl;rw[e];have HB:Hid (∀e w',Gr w w'->e=.returned (str (dg (Bk.blk p.m x0 16 0).length))->bO 71 B w g M H P (p,dg (Bk.blk p.m x0 16 0).length) e w'):=fun e w' G he=>⟨he,_,_,_,_,X.gr G,Fx.aJ G⟩
 obtain⟨ma,mc,ha,hc0,pa,pc',ua,un,uc,rfl,rfl,rfl,rfl,NM,_⟩:=X.open;have z0:=fA X.blk;have m4:=X.ok.m4;have h16:(Bk.blk p.m x0 16 0).length<=16:=(Ts.gG p.m x0 16 0).1;have HM:Hid (∀W:World,Gr w W->Calls prog 15 #[slice ma p.m.length mc,int .u32 (x0:Int)] W fun e w'=>∃va vc,e=.returned (agg #[int .u32 (x0:Int),slice va (Bk.blk p.m x0 16 0).length vc])/\Gr W w'):=fun W G=>by
  have:=Bk.wG mc (x0:Int) (NM.of G) (T.gr G).Bu.tb ab ab ab;have e1:Bk.bkP p.m.length (x0:Int)=x0:=ak;have e2:Bk.bkX p.m.length p.m (x0:Int)=Bk.blk p.m x0 16 0:=ak;rw[e1,e2]at this;refine this.mono ?_;rintro e w' ⟨v,rfl,OW,G'⟩;obtain⟨va,vc,rfl⟩:=Bk.oK OW;exact⟨va,vc,rfl,G'⟩
 have HT:Hid (∀(W:World) (b:Nat) (t:Nat) (f:Nat×Nat),Gr w W->W.heap[b]?=some (cells #[int i64 ((Bk.blk p.m x0 16 0).length:Int)] t f)->Calls prog 52 #[slice (some ⟨b,0,none⟩) 1 1] W fun e w'=>∃a k,e=.returned (slice a 1 k)/\(Ts w' a 1 [dg (Bk.blk p.m x0 16 0).length]/\(a=none->k=0))/\Gr W w'):=fun W b t f G h=>JN (c:=1) (qp h) (fun y hy=>by rw[arL.1 hy];omega) ab (T.gr G).Bu
 have HJ:Hid (∀(W:World) (b:Nat) (t:Nat) (f:Nat×Nat) (a:Option Addr) (k:Nat),(Ts W a 1 [dg (Bk.blk p.m x0 16 0).length]/\(a=none->k=0))->W.heap[b]?=some (cells #[slice a 1 k] t f)->Calls prog 51 #[slice (some ⟨b,0,none⟩) 1 1] W fun e w'=>e=.returned (str (dg (Bk.blk p.m x0 16 0).length))/\Gr W w'):=fun W b t f a k h1 h=>ag2 (gs1 h h1) ab
 have hgl:=(gs X.blk).1;have HR:Hid _:=R;clear R X T NM m4 h16 e;generalize str (dg (Bk.blk p.m x0 16 0).length)=V0 at *
 generalize dg (Bk.blk p.m x0 16 0).length=D0 at *
 generalize(Bk.blk p.m x0 16 0).length=N0 at *
 go_enter func20,ntmps20;go_wp2_with fail;refine HR.mono ?_;rintro e wr ⟨a,c,rfl,⟨N,_⟩,G⟩;have HG:Hid (Gr w wr):=G;obtain⟨b,o,rfl,_,hc⟩:=N.spot aq;have c0:wr.cell? ⟨b,o,none⟩=some (int .u32 (x0:Int)):=hc 0 x0 rfl;have d0:=(G.cell _ (by exact hgl)).trans z0;clear hc N G HR z0 hgl;go_wp2_with fail;refine awN (S:=fun W=>Gr wr W) al (Gr.refl wr).drew (fun hHeld=>?_);refine aK (fun W=>Gr wr W) hHeld ?_;clear hHeld;rintro w5 G5;have uh:Hid (Gr wr w5):=G5;clear G5;refine tK 0 (pointer (some ⟨g,0,none⟩)) uh ?_;refine tK 1 (pointer (some ⟨g,0,none⟩)) uh ?_;refine tK 2 (pointer (some ⟨g,0,none⟩)) uh ?_;refine tK 3 (pointer (some ⟨g,0,none⟩)) uh ?_;refine aw1 (i:=4) (v:=slice ma p.m.length mc) rfl al al al (fun _ _ _ h=>h) (Or.inl ⟨by rfl,fun W hW=>by have q0:=(hW.cell _ (by exact awo _ _ (by rw[d0]))).trans d0;go_simp⟩) uh ?_;simp only[arx,aru,arv,Act.put,arp,art,ars];refine tK 5 (slice (some ⟨b,o,none⟩) 1 c) uh ?_;refine tK 6 (pointer (some ⟨b,o,none⟩)) uh ?_;refine aw1 (i:=7) (v:=int .u32 (x0:Int)) rfl al al al (fun _ _ _ h=>h) (Or.inl ⟨by rfl,fun W hW=>by have q1:=(hW.cell _ (by exact awo _ _ (by rw[c0]))).trans c0;go_simp⟩) uh ?_;simp only[arx,aru,arv,Act.put,arp,art,ars];refine aww (rs:=[8]) al aq ?_;refine awp rfl (fun K hK=>?_) awu;go_simp;refine(HM w5 (HG.trans uh)).mono ?_;rintro e w11 ⟨va,vc,rfl,G⟩;have agK:Hid (Gr w5 w11):=G;have lM:Hid (Gr wr w11):=uh.trans G;clear G;refine hK.out _ _ lM (fun hx=>?_);clear hK K hx;refine aw1 (i:=9) (v:=slice va N0 vc) rfl al al al (fun _ _ _ h=>h) (Or.inl ⟨by rfl,fun W hW=>by rfl⟩) lM ?_;simp only[arx,aru,arv,Act.put,arp,art,ars];refine tK 10 (int i64 (N0:Int)) lM ?_;refine aww (rs:=[11]) al aq ?_;refine awp rfl (fun K hK=>?_) awu;go_simp;refine hK.out _ _ (lM.alloc _) (fun hx=>?_);clear hK K hx;refine aK (fun W=>W.heap[w11.heap.size]?=some (cells #[int i64 (N0:Int)] 3 (0,0))/\Gr w11 W) ⟨awk w11 _,(Gr.refl _).alloc _⟩ ?_;rintro w14 ⟨hb,G⟩;have akZ:Hid (w14.heap[w11.heap.size]?=some (cells #[int i64 (N0:Int)] 3 (0,0))):=hb;have apm:Hid (Gr w11 w14):=G;have ag3:Hid (Gr wr w14):=lM.trans G;clear hb G;refine aww (rs:=[12]) al aq ?_;refine awp rfl (fun K hK=>?_) awu;go_simp;refine(HT w14 _ _ _ (HG.trans ag3) (bS (Gr.refl _) akZ)).mono ?_;rintro e ZX ⟨va1,vk1,rfl,hf,G⟩;have HC:Hid (Ts ZX va1 1 [D0]/\(va1=none->vk1=0)):=hf;have apn:Hid (Gr w14 ZX):=G;have adH:Hid (Gr wr ZX):=ag3.trans G;clear G hf;refine hK.out _ _ adH (fun hx=>?_);clear hK K hx;refine aww (rs:=[13]) al aq ?_;refine awp rfl (fun K hK=>?_) awu;go_simp;refine hK.out _ _ (adH.alloc _) (fun hx=>?_);clear hK K hx;refine aK (fun W=>W.heap[ZX.heap.size]?=some (cells #[slice va1 1 vk1] 22 (0,0))/\Gr ZX W) ⟨awk ZX _,(Gr.refl _).alloc _⟩ ?_;rintro w21 ⟨hb,G⟩;have ak1:Hid (w21.heap[ZX.heap.size]?=some (cells #[slice va1 1 vk1] 22 (0,0))):=hb;have Yh:Hid (Gr ZX w21):=G;have Sm:Hid (Gr wr w21):=adH.trans G;clear hb G;refine aww (rs:=[14]) al aq ?_;refine awp rfl (fun K hK=>?_) awu;go_simp;refine(HJ w21 _ _ _ _ _ (gK HC Yh) (bS (Gr.refl _) ak1)).mono ?_;rintro e w25 ⟨rfl,G⟩;have apo:Hid (Gr w21 w25):=G;have adI:Hid (Gr wr w25):=Sm.trans G;clear G;refine hK.out _ _ adI (fun hx=>?_);clear hK K hx;refine tK 15 V0 adI ?_;refine awT al ?_ _;go_wp2_with fail;go_ret;exact HB _ _ (HG.trans adI) rfl
theorem TI (hl:∀x∈l,x<4294967296)(R:Rd w V ⟨#[119,111,114,100,115]⟩ l)(X:Pr 71 B w g M H P U p)(T:Tz B w):Calls prog 20 #[pointer (some ⟨g,0,none⟩),V] w (bO 71 B w g M H P (dN p l)):=by
 have HC:Hid (∀(W:World) (a:Option Addr) (c:Nat),Gr w W->(Ns .u32 W a l.length l/\∀b o,a=some ⟨b,o,none⟩->w.heap.size<=b)->Calls prog 43 #[pointer (some ⟨g,0,none⟩),slice a l.length c] W (bO 71 B w g M H P (dN p l))):=fun W a c G ⟨N,hN⟩=>by
  have h:Calls prog 43 #[pointer (some ⟨g,0,none⟩),slice a l.length c] W (bO 71 B W g M H P (dN p l)):=by
   by_cases h4:p.m.length+4*l.length<=4096
   ·exact MU (X.gr G) N hl (fun b o e hd=>by
     have h1:=hN b o e;have h2:=(X.dom b hd).2;omega) (fun h=>((T.gr G).below h).Bu) h4
   ·exact Si (X.gr G) ab
  exact h.mono fun e w' q=>bO.pre (D:=(_,_,_)) (Fx.aJ G) q
 have HR:=kH R;generalize dN p l=RES at *
 go_enter func20,ntmps20;go_wp2_with fail;refine HR.mono ?_;rintro e wr ⟨a,c,rfl,hN,G⟩;have HG:=kH G;have HN:=kH hN;go_wp2_with fail;refine(HC _ _ _ HG HN).mono ?_;rintro e w2 ⟨rfl,h⟩;go_wp2_with fail;go_ret;exact⟨rfl,h⟩
theorem YI (R:Calls prog 42 #[V] w fun e w'=>e=.returned (tuple #[string ⟨#[]⟩,slice none 0 0,.bool false])/\Gr w w')(X:Pr 71 B w g M H P U p):Calls prog 20 #[pointer (some ⟨g,0,none⟩),V] w (bO 71 B w g M H P (p,aQ)):=by
 have HB:Hid (∀e w',Gr w w'->e=.returned (str aQ)->bO 71 B w g M H P (p,aQ) e w'):=fun e w' G he=>⟨he,_,_,_,_,X.gr G,Fx.aJ G⟩
 have HR:=kH R;go_enter func20,ntmps20;go_wp2_with fail;refine HR.mono ?_;rintro e wr ⟨rfl,G⟩;have HG:=kH G;go_wp2_with fail;go_ret;exact HB _ _ HG rfl
def fV:List (List Nat×Nat):=[(jY,1),(nQ,3),(jB,2),(uG,0),(lU,1),(qi,1),(jZ,1),(iP,1),(j3,1),(jk,1)]
def adJ:List (List UInt8×Int):=fV.map fun q=>(q.1.map UInt8.ofNat,(q.2:Int))
theorem adK {s}(R:Rd w V s l)(X:Pr 71 B w g M H P U p)(hw:¬s.toList=[119,111,114,100,115])(hb:∀q k,(q,k)∈adJ->s.toList=q->(l.length:Int)=k->False):Calls prog 20 #[pointer (some ⟨g,0,none⟩),V] w (bO 71 B w g M H P (p,aQ)):=by
 have HB:Hid (∀e w',Gr w w'->e=.returned (str aQ)->bO 71 B w g M H P (p,aQ) e w'):=fun e w' G he=>⟨he,_,_,_,_,X.gr G,Fx.aJ G⟩
 have HR:=kH R;have hw':(s.toList ==[119,111,114,100,115])=false:=by simpa using hw
 have HD:=kH hb;go_enter func20,ntmps20;go_wp2_with fail;refine HR.mono ?_;rintro e wr ⟨a,c,rfl,⟨N,_⟩,G⟩;have HG:=kH G;generalize l.length=n at *
 go_wp2_with fail
 all_goals first
  |(go_ret;exact HB _ _ HG rfl)
  |(refine(HD _ 1 ?_ bo ab).elim;decide)
  |(refine(HD _ 3 ?_ bo ab).elim;decide)
  |(refine(HD _ 2 ?_ bo ab).elim;decide)
  |(refine(HD _ 0 ?_ bo ab).elim;decide)
theorem Nc (hd:∀d∈wd,d<256)(h:wd≠gX):¬(bs wd).toList=[119,111,114,100,115]:=fun e=>h (EY hd an (pG (by rw[<-ar1,e];rfl)))
theorem YJ (hd:∀d∈wd,d<256)(h:∀q k,(q,k)∈fV->wd=q->l.length=k->False):∀q k,(q,k)∈adJ->(bs wd).toList=q->(l.length:Int)=k->False:=by
 intro q k hm e1 e2;unfold adJ at hm;rw[arY]at hm;obtain⟨⟨a,n⟩,h1,h2⟩:=hm;simp only[axg]at h2;obtain⟨rfl,rfl⟩:=h2;have ha:∀d∈a,d<256:=by
  have:∀q∈fV,∀d∈q.1,d<256:=an;exact this _ h1
 refine h a n h1 (EY hd ha (pG ?_)) ab;rw[<-ar1,e1,bV]
theorem zq {k:Nat}(R:Rd w V (bs wd) l)(X:Pr 71 B w g M H P U p)(hd:∀d∈wd,d<256)(hw:wd≠gX)(h:∀q k,(q,k)∈fV->wd=q->l.length=k->False):Calls prog 20 #[pointer (some ⟨g,0,none⟩),V] w (bO 71 B w g M H P (p,aQ)):=adK R X (Nc hd hw) (YJ hd h)
theorem cnt (n)(hn:∀x∈fV,wd=x.1->x.2=n)(hl:l.length≠n):∀q k,(q,k)∈fV->wd=q->l.length=k->False:=fun q k h1 h2 h3=>hl (h3.trans (hn (q,k) h1 h2))
theorem YK (R:Rd w V (bs wd) l)(hd:∀d∈wd,d<256)(hl:∀x∈l,x<4294967296)(X:Pr 71 B w g M H P U p)(T:Tz B w):Calls prog 20 #[pointer (some ⟨g,0,none⟩),V] w (bO 71 B w g M H P (GG p wd l)):=by
 have TT:∀{W:World},Gr w W->∀{W2:World},Below B W W2->ig W2:=fun G _ h=>((T.gr G).below h).Bu
 have bad:∀n,(∀x∈fV,wd=x.1->x.2=n)->l.length≠n->wd≠gX->Calls prog 20 #[pointer (some ⟨g,0,none⟩),V] w (bO 71 B w g M H P (p,aQ)):=fun n h1 h2 h3=>zq (k:=n) R X hd h3 (cnt n h1 h2)
 unfold GG;by_cases h:wd=gX
 ·subst h;rw[awn rfl];exact TI hl R X T
 rw[awm h];by_cases h0:wd=jY
 ·subst h0;rw[awn rfl]
  match l,R,hl,bad with
  | [x],R,hl,bad=>exact YC R (Cm.mk fun W G=>R9 (hl _ aq) (X.gr G) (TT G))
  | [],R,hl,bad=>exact bad 1 an aq h
  |_::_::_,R,hl,bad=>exact bad 1 an aq h
 rw[awm h0];by_cases h1:wd=nQ
 ·subst h1;rw[awn rfl]
  match l,R,hl,bad with
  | [x,y,z],R,hl,bad=>exact(by
    by_cases hk:x<p.hs.length/\1<=y/\y<=31
    ·exact TG R (Cm.mk fun W G=>Yb (hl _ aq) (X.gr G) hk.1 hk.2.1 hk.2.2)
    ·exact TG R (Cm.mk fun W G=>adg (X.gr G) hk))
  | [],R,hl,bad=>exact bad 3 an aq h
  | [_],R,hl,bad=>exact bad 3 an aq h
  | [_,_],R,hl,bad=>exact bad 3 an aq h
  |_::_::_::_::_,R,hl,bad=>exact bad 3 an aq h
 rw[awm h1];by_cases h2:wd=jB
 ·subst h2;rw[awn rfl]
  match l,R,hl,bad with
  | [x,y],R,hl,bad=>exact YD R (Cm.mk fun W G=>Sd (hl _ aq) (hl _ aq) (X.gr G) (TT G))
  | [],R,hl,bad=>exact bad 2 an aq h
  | [_],R,hl,bad=>exact bad 2 an aq h
  |_::_::_::_,R,hl,bad=>exact bad 2 an aq h
 rw[awm h2];by_cases h3:wd=uG
 ·subst h3;rw[awn rfl]
  match l,R,hl,bad with
  | [],R,hl,bad=>exact adE R (Cm.mk fun W G=>AL (X.gr G) (T.gr G))
  |_::_,R,hl,bad=>exact bad 0 an aq h
 rw[awm h3];by_cases h4:wd=lU
 ·subst h4;rw[awn rfl]
  match l,R,hl,bad with
  | [x],R,hl,bad=>exact YE R (Cm.mk fun W G=>SB (hl _ aq) (X.gr G) (T.gr G))
  | [],R,hl,bad=>exact bad 1 an aq h
  |_::_::_,R,hl,bad=>exact bad 1 an aq h
 rw[awm h4];by_cases h5:wd=qi
 ·subst h5;rw[awn rfl]
  match l,R,hl,bad with
  | [x],R,hl,bad=>exact adF R (Cm.mk fun W G=>MZ (X.gr G) (TT G))
  | [],R,hl,bad=>exact bad 1 an aq h
  |_::_::_,R,hl,bad=>exact bad 1 an aq h
 rw[awm h5];by_cases h6:wd=jZ
 ·subst h6;rw[awn rfl]
  match l,R,hl,bad with
  | [x],R,hl,bad=>exact YH R (Cm.mk fun W G=>(SG (hl _ aq) fun G2=>(T.gr (G.trans G2)).Bu).mono fun e w' ⟨he,G2⟩=>⟨he,_,_,_,_,(X.gr G).gr G2,Fx.aJ G2⟩)
  | [],R,hl,bad=>exact bad 1 an aq h
  |_::_::_,R,hl,bad=>exact bad 1 an aq h
 rw[awm h6];by_cases h7:wd=j3
 ·subst h7;rw[awn rfl]
  match l,R,hl,bad with
  | [x],R,hl,bad=>exact YF R (Cm.mk fun W G=>TF (hl _ aq) (X.gr G) (T.gr G))
  | [],R,hl,bad=>exact bad 1 an aq h
  |_::_::_,R,hl,bad=>exact bad 1 an aq h
 rw[awm h7];by_cases h8:wd=jk
 ·subst h8;rw[awn rfl]
  match l,R,hl,bad with
  | [x],R,hl,bad=>exact YG R (Cm.mk fun W G=>SC (hl _ aq) (X.gr G))
  | [],R,hl,bad=>exact bad 1 an aq h
  |_::_::_,R,hl,bad=>exact bad 1 an aq h
 rw[awm h8];by_cases h9:wd=iP
 ·subst h9;rw[awn rfl]
  match l,R,hl,bad with
  | [x],R,hl,bad=>exact TH (hl _ aq) R X T
  | [],R,hl,bad=>exact bad 1 an aq h
  |_::_::_,R,hl,bad=>exact bad 1 an aq h
 rw[awm h9];refine zq (k:=0) R X hd h fun q k hm e _=>?_
 subst e;simp only[fV,arG,axg,arN,awQ]at hm;rcases hm with hm|hm|hm|hm|hm|hm|hm|hm|hm|hm
 ·exact h0 hm.1
 ·exact h1 hm.1
 ·exact h2 hm.1
 ·exact h3 hm.1
 ·exact h4 hm.1
 ·exact h5 hm.1
 ·exact h6 hm.1
 ·exact h9 hm.1
 ·exact h7 hm.1
 ·exact h8 hm.1
theorem Hm {L}(hl:∀d∈L,d<256)(hs:L.length<=4000000)(X:Pr 71 B w g M H P U p)(T:Tz B w):Calls prog 20 #[pointer (some ⟨g,0,none⟩),str L] w (bO 71 B w g M H P (pq p L)):=by
 have R:=vI hl hs T.ers;unfold pq;cases hn:aS (splitN 32 L).tail with
 |none=>
  refine YI (R.mono fun e w' ⟨q,G⟩=>?_) X;unfold RdA at q;rw[hn]at q;exact⟨q,G⟩
 |some l=>
  have hd:∀d∈(splitN 32 L).headD [],d<256:=by
   obtain⟨s1,s2,_⟩:=nR (c:=32) ab hl;rw[<-s1];exact s2
  refine YK (R.mono fun e w' ⟨q,G⟩=>?_) hd (bX hn) X T;unfold RdA at q;rw[hn]at q;obtain⟨a,c,h1,h2⟩:=q;exact⟨a,c,h1,h2,G⟩
end Vp
namespace Vp
variable[Inhabited Hc.bH]
open Mm Hh Hc Mc Ud As Go.Lib
section
variable{P:Program}
theorem xO (base)(t u ty e)(i)(ht:P.underlying t=some (.slice e))(hu:P.underlying u=some .string)(hi:P.info? e=some i)(hz:i.zero=some (.int .u8 0))(hsize:i.size=1)(hby:i.bytes=1)(v)(n)(xs)(hown:w.ownsRowF base e 1 v n xs)(s)(h63:n+s.size<=maxLen)(hbytes:n+s.size<=140737488355328)(hbase:base<=w.heap.size):∃v' w',(Builtin.append_ #[t,u] ty #[v,.string s]).run P w=.ok v' w'/\w'.ownsRowF base e 1 v' (n+s.size) (xs++strCells s)/\w.grownBy w' v.ownBlock/\∀k,v'.ownBlock=some k->v.ownBlock=some k\/w.heap.size<=k:=by
 obtain⟨v',w',hr,h2,h3,_⟩:=run_append_own_stringF (P:=P) w base t u ty e i ht hu hi hz hsize hby v n xs hown s h63 hbytes hbase;refine⟨v',w',hr,h2,h3,fun k hk=>?_⟩;rcases hown.2 with⟨rfl,rfl⟩|⟨g,cap,cur,fz,rfl,hbg,hg,hfz,hnc,hcm,hcs,htake⟩
 ·have hx:=asa (by simpa using hown.1);subst hx;obtain⟨v2,w2,hr2,k2,_⟩:=run_append_own_stringF (P:=P) w w.heap.size t u ty e i ht hu hi hz hsize hby (.slice none 0 0) 0 [] (World.ownsRowF_nil _ _ _ _) s h63 hbytes (arA _);rw[hr]at hr2;injection hr2 with e1 e2;subst e1;exact .inr (k2.lt k hk).1
 ·by_cases hroom:n+s.size<=cap
  ·have hcs':cur.size=cap:=by simpa using hcs
   have hr2:=run_append_room_stringF (P:=P) w t u ty e i ht hu hi hsize g n cap cur fz hg (by simpa using hfz) s hroom ab;rw[hr]at hr2;injection hr2 with e1 e2;subst e1;exact .inl hk
  ·have hxl:xs.length=n:=by simpa using hown.1
   have hsmall:n+s.size<=9223372036854775807:=by simp only[maxLen]at h63;omega
   have holds:=hown.cells (g:=g) rfl;have hr2:=run_append_grow_string (P:=P) w t u ty e i (.int .u8 0) ht hu hi hz ⟨g,0,none⟩ n cap xs (by rw[hsize];simpa using hxl) holds s ab ab (by rw[hby];exact growslice_fits ab ab);rw[hr]at hr2;injection hr2 with e1 e2;subst e1;simp only[Value.ownBlock,awz]at hk;exact .inr ab
theorem nU {ops}{a}{Q}(hgd:o.guard=none)(sl x)(t u)(ho:o.op=.call { callee:=.builtin .append,args:=#[sl,x],argTypes:=#[t,u] })(base)(e)(i)(ht:P.underlying t=some (.slice e))(hu:P.underlying u=some .string)(hi:P.info? e=some i)(hz:i.zero=some (.int .u8 0))(hsize:i.size=1)(hby:i.bytes=1)(v)(n)(xs)(hs:a.eval sl=v)(hown:w.ownsRowF base e 1 v n xs)(s)(hx:a.eval x=.string s)(h63:n+s.size<=maxLen)(hbytes:n+s.size<=140737488355328)(hbase:base<=w.heap.size)(h:∀v' w',w'.ownsRowF base e 1 v' (n+s.size) (xs++strCells s)->w.grownBy w' v.ownBlock->(∀k,v'.ownBlock=some k->v.ownBlock=some k\/w.heap.size<=k)->wpList P ops Q rest (a.put o.dst v') w'):wpList P ops Q (o::rest) a w:=by
 refine axo hgd fun K hK=>?_
 obtain⟨v',w',hr,h2,h3,h4⟩:=xO (P:=P) base t u o.type e i ht hu hi hz hsize hby v n xs hown s h63 hbytes hbase;unfold Oper.wp execOp;simp only[ho,resolve,invoke,builtin,axl,axy,aw8,List.map_toArray,asD,atv,hs,hx,hr];exact hK _ _ (h v' w' h2 h3 h4)
end
variable{w w' w2:World}{ty g B b:Nat}{M H P U v v':Value}{p:Pl}
variable{l:List Value}
def Bv (B b:Nat) (v:Value) (l:List Value) (w:World):Prop:=∃q,(q=pointer none\/q=pointer (some ⟨b,0,none⟩))/\B<=b/\w.heap[b]?=some (cells #[q,v] 74 (0,0))/\w.ownsRowF B 5 1 v l.length l/\v.ownBlock≠some b
theorem Bv.is (h:Bv B b v l w):Lib.IsBuilderF 74 5 B b l w:=by
 obtain⟨q,rfl|rfl,h1,h2,h3,h4⟩:=h
 ·exact .inl ⟨h1,v,h2,h3,h4⟩
 ·exact .inr ⟨h1,v,h2,h3,h4⟩
def Db (b:Nat) (v:Value) (k:Nat):Prop:=k=b\/v.ownBlock=some k
theorem Bv.check (h:Bv B b v l w):Calls prog 41 #[pointer (some ⟨b,0,none⟩)] w fun e w'=>e=.returned (tuple #[])/\(w'.heap[b]?=some (cells #[pointer (some ⟨b,0,none⟩),v] 74 (0,0))/\w'.ownsRowF B 5 1 v l.length l)/\Fx (Db b v) (Db b v) w w':=by
 obtain⟨q,hq,h1,h2,h3,h4⟩:=id h;rcases hq with rfl|rfl
 ·have h0:Lib.BuilderAtF 74 5 B b (pointer none) l w:=⟨h1,v,h2,h3,h4⟩;refine(zk h0.cell0 h0.shape h0.frozen0).mono ?_;rintro e w' ⟨rfl,rfl⟩;refine⟨rfl,⟨by rw[hss h2];simp,h3.kept (row:=some b) ⟨rfl,rfl,rfl,aq,fun k _ hk=>hso (fun e=>hk (by rw[e]))⟩ (.inr h4)⟩,Fx.set (.inl rfl)⟩
 ·have h0:Lib.BuilderAtF 74 5 B b (pointer (some ⟨b,0,none⟩)) l w:=⟨h1,v,h2,h3,h4⟩;refine(zl h0.cell0).mono ?_;rintro e w' ⟨rfl,rfl⟩;exact⟨rfl,⟨h2,h3⟩,Fx.refl _ _⟩
theorem TJ (s)(h:Bv B b v l w)(hlen:l.length+s.size<=140737488355328)(hBw:B<=w.heap.size):Calls prog 19 #[pointer (some ⟨b,0,none⟩),string s] w fun e w'=>e=.returned (tuple #[int i64 s.size,.nilIface])/\∃v',Bv B b v' (l++Lib.strCells s) w'/\Fx (Db b v) (Db b v') w w':=by
 obtain⟨i0,hi,hz0,hz1,hz2⟩:=awS Mm.info5;have HB:Hid (B<=b):=h.choose_spec.2.1;have HNE:Hid (v.ownBlock≠some b):=h.choose_spec.2.2.2.2;have HH:Hid (Calls prog 41 #[pointer (some ⟨b,0,none⟩)] w fun e w'=>e=.returned (tuple #[])/\(w'.heap[b]?=some (cells #[pointer (some ⟨b,0,none⟩),v] 74 (0,0))/\w'.ownsRowF B 5 1 v l.length l)/\Fx (Db b v) (Db b v) w w'):=h.check;clear h;go_enter func19,ntmps19;go_wp2_with fail;refine HH.mono ?_;rintro e w1 ⟨rfl,⟨hbk,hown⟩,F1⟩;have c0:w1.cell? ⟨b,0,none⟩=some (pointer (some ⟨b,0,none⟩)):=(cr hbk).trans rfl;have c1:w1.cell? ⟨b,1,none⟩=some v:=(cr hbk).trans rfl;go_wp2_with (at_builtin;refine nU rfl _ _ 25 9 rfl B 5 i0 underlying25 underlying9 hi hz0 hz1 hz2 _ _ _ rfl hown s rfl ?c3 ?c4 ?c5 ?_)
 case c3=>unfold maxLen;omega
 case c4=>omega
 case c5=>have:=F1.size;omega
 intro v' w2 hown' hgrow hat;have hlt:b<w1.heap.size:=(gs hbk).1;have hb2:w2.heap[b]?=some (cells #[pointer (some ⟨b,0,none⟩),v] 74 (0,0)):=by
  rw[hgrow.block b hlt (fun e=>HNE.out e.symm)];exact hbk
 have d0:w2.cell? ⟨b,0,none⟩=some (pointer (some ⟨b,0,none⟩)):=(cr hb2).trans rfl;have d1:w2.cell? ⟨b,1,none⟩=some v:=(cr hb2).trans rfl;have f1:w2.frozen? ⟨b,1,none⟩=false:=iA hb2;have HV:Hid (v'.ownBlock≠some b):=fun e=>by
  rcases hat b e with h|h
  ·exact HNE h
  ·omega
 obtain⟨ao,n',cap,rfl⟩:∃ao n' cap,v'=slice ao n' cap:=by
  rcases hown'.2 with⟨hv,_⟩|⟨g,cap,cur,fz,hv,_⟩
  ·exact⟨_,_,_,hv⟩
  ·exact⟨_,_,_,hv⟩
 go_wp2;go_ret2;refine⟨rfl,_,⟨_,.inr rfl,HB,by rw[hss hb2];simp,?_,HV⟩,?_⟩
 ·have h5:w2.ownsRowF B 5 1 (slice ao n' cap) (l++Lib.strCells s).length (l++Lib.strCells s):=by simpa[Lib.strCells_length]using hown'
  exact h5.kept (row:=some b) ⟨rfl,rfl,rfl,aq,fun k _ hk=>hso (fun e=>hk (by rw[e]))⟩ (.inr HV)
 ·refine F1.trans ((Fx.grown hgrow (fun k e=>.inr e) (D':=Db b (slice ao n' cap)) ?_).trans (Fx.set (.inl rfl)));rintro k (h|h)
  ·exact .inl (.inl h)
  ·rcases hat k h with h|h
   ·exact .inl (.inr h)
   ·exact .inr h
theorem BX.other {us}{k1 k2}(h:@BX ⟨⟨k1⟩⟩ g N w U us)(hk:N<=k2)(hgk:g≠k1):@BX ⟨⟨k2⟩⟩ g N w U us:=by
 obtain⟨w0,ua,uc,e,h1,h0,h2,h3,h4,h5⟩:=h;have h3o:=@Un.off ⟨⟨k1⟩⟩ _ _ _ _ h3;have h3u:=@Un.us ⟨⟨k1⟩⟩ _ _ _ _ h3;have h5':=h5
 -- the elder row as it is now
 obtain⟨w1,hw1,hz1⟩:∃w1:World,(∀k,k<N->(k≠k1->w1.heap[k]?=w0.heap[k]?)/\(k=k1->w1.heap[k]?=w.heap[k]?))/\w1.heap.size=N:=by
  by_cases hl:k1<N
  ·refine⟨{ w0 with heap:=w0.heap.setIfInBounds k1 (w.heap[k1]' ab) },fun k hk=>⟨fun hn=>?_,fun he=>?_⟩,by simp[h0]⟩
   ·show(w0.heap.setIfInBounds k1 _)[k]?=_
    rw[asG (fun e=>hn e.symm)]
   ·subst he;show(w0.heap.setIfInBounds k _)[k]?=_
    rw[asR ab];exact(asB ab).symm
  ·exact⟨w0,fun k hk=>⟨fun _=>rfl,fun he=>absurd he ab⟩,h0⟩
 have hkk:∀k,k<w0.heap.size->@Kw ⟨⟨k1⟩⟩ w0 w1 k:=fun k hk=>by
  by_cases e:k=k1
  ·exact .inr (.inr e)
  ·exact .inl ((hw1 k ab).1 e)
 have hu1:=@Un.kw ⟨⟨k1⟩⟩ w1 w0 hkk _ _ _ ab h3;have hrow:∀b o,ua=some ⟨b,o,none⟩->0<us.length->w1.heap[b]?=w0.heap[b]?:=fun b o e hn=>@Bn ⟨⟨k1⟩⟩ w1 w0 hkk _ _ _ h3 b o e hn
 have lts:∀{b i:Nat} {v:Value},w1.cell? ⟨b,i,none⟩=some v->b<N:=fun {b i v} h=>by
  have:=awo w1 _ h;rw[hz1]at this;exact this
 have hg1:NbW w1 g:=fun i v hv=>by
  have hl:=lts hv;by_cases e:g=k1
  ·exact absurd e hgk
  ·exact h4 i v ((awv ((hw1 g hl).1 e)).symm.trans hv)
 refine⟨w1,ua,uc,e,h1,hz1,h2,?_,hg1,fun k hk' hg=>?_⟩
 ·refine @Un.mk ⟨⟨k2⟩⟩ _ _ _ _ hu1 (fun b o e j hj=>?_);obtain⟨b',o',e',hb,hc⟩:=hu1.spot ab;rw[e]at e';injection e' with e';injection e' with e1 e2;subst e1 e2;obtain⟨x,⟨ba0,bn0,bc0,la0,ln0,lc0,ex,ou,_,_,M,L,_⟩,h2'⟩:=hc j us[j] (arq hj);have Za:=h2' 39 (slice ba0 bn0 bc0) (by rw[ex];have:=fo (u:=us[j]) (b:=slice ba0 bn0 bc0) (l:=slice la0 ln0 lc0) ou.was 1;simpa using this);have Oq:=h2' 40 (slice la0 ln0 lc0) (by rw[ex];have:=fo (u:=us[j]) (b:=slice ba0 bn0 bc0) (l:=slice la0 ln0 lc0) ou.was 2;simpa using this);refine⟨show b≠k2 by omega,fun ba bn bc q hn ad ea=>?_,fun la ln lc q hn ad ea=>?_⟩
  ·rw[Za]at q;injection q with q;injection q with q1 q2 q3;subst q1 q2;have hl:=awo w1 _ (M.cell ad ea 0 hn);rw[Mm.add_block,hz1]at hl;show ad.block≠k2
   omega
  ·rw[Oq]at q;injection q with q;injection q with q1 q2 q3;subst q1 q2;obtain⟨lb,lo,e3,hlb,_⟩:=L.spot hn;rw[ea]at e3;injection e3 with e3;subst e3;show lb≠k2
   omega
 ·show w.heap[k]?=w1.heap[k]?\/NbW w1 k\/k=k2
  by_cases e:k=k1
  ·exact .inl ((hw1 k hk').2 e).symm
  ·rcases h5' k hk' hg with q|q|q
   ·exact .inl (q.trans ((hw1 k hk').1 e).symm)
   ·exact .inr (.inl fun i v hv=>q i v ((awv ((hw1 k hk').1 e)).symm.trans hv))
   ·exact absurd q e
theorem tN {base e sz:Nat}(h:w.ownsRow base e sz v n xs)(hk:∀k,v.ownBlock=some k->w'.heap[k]?=w.heap[k]?):w'.ownsRow base e sz v n xs:=by
 obtain⟨h1,h2⟩:=h;refine⟨h1,?_⟩;rcases h2 with h2|⟨g,cap,cur,rfl,h3,h4,h5⟩
 ·exact .inl h2
 ·exact .inr ⟨g,cap,cur,rfl,h3,(hk g rfl).trans h4,h5⟩
theorem Hq (h:Bv B b v l w):NbW w b:=by
 obtain⟨q,hq,h1,h2,h3,h4⟩:=h;intro i u hu z;rw[cr h2]at hu
 match i,hu with
 |0,hu=>simp at hu;subst hu;rcases hq with rfl|rfl<;>simp
 |1,hu=>
  simp at hu;subst hu;rcases h3.2 with⟨rfl,_⟩|⟨_,_,_,_,rfl,_⟩<;>simp
 |i+2,hu=>simp at hu
theorem Pr.wr {k1 k2 Bb}{l}(X:@Pr ⟨⟨k1⟩⟩ ty B w g M H P U p)(hv:Bv Bb b v l w)(F:Fx (Db b v) (Db b v') w w')(hk1:∀k,v.ownBlock=some k->k=k1)(ak8:k2=k1\/w.heap.size<=k2)(hgk:g≠k1)(ap:∀k,Dm g M H P k->¬Db b v k):@Pr ⟨⟨k2⟩⟩ ty B w' g M H P U p/\∀k,Dm g M H P k->¬Db b v' k:=by
 have hd:=@Pr.dom ⟨⟨k1⟩⟩ w ty g B M H P U p X;have kp:∀k,Dm g M H P k->w'.heap[k]?=w.heap[k]?:=fun k h=>F.keep k (hd k h).2 (ap k h)
 refine⟨?_,fun k h h2=>?_⟩
 ·obtain⟨N,n1,n2,n3,n4⟩:=@Pr.row ⟨⟨k1⟩⟩ _ _ _ _ _ _ _ _ _ X;have n4':p.fr=true->@BX ⟨⟨k2⟩⟩ g N w' U p.us:=fun hf=>by
   have h5:=@BX.wr ⟨⟨k1⟩⟩ _ _ _ _ _ _ (n4 hf) F.size (fun k hk hg=>by
    by_cases hb:k=b
    ·subst hb;exact .inr (.inl (Hq hv))
    ·by_cases hw:v.ownBlock=some k
     ·exact .inr (.inr (hk1 k hw))
     ·exact .inl (F.keep k ab (fun h=>h.elim hb hw)))
   rcases ak8 with rfl|h6
   ·exact h5
   ·exact BX.other h5 ab hgk
  have m:=@Pr.mx ⟨⟨k1⟩⟩ _ _ _ _ _ _ _ _ _ X
  exact @Pr.mk ⟨⟨k2⟩⟩ _ _ _ _ _ _ _ _ _ (@Pr.qx ⟨⟨k1⟩⟩ _ _ _ _ _ _ _ _ _ X) (@Pr.bg ⟨⟨k1⟩⟩ _ _ _ _ _ _ _ _ _ X) ((kp g (.inl rfl)).trans (@Pr.blk ⟨⟨k1⟩⟩ _ _ _ _ _ _ _ _ _ X))
   ⟨tN m.mem fun k e=>kp k (.inr (.inl e)),tN m.hrt fun k e=>kp k (.inr (.inr (.inl e))),m.ok⟩ (@Pr.ok ⟨⟨k1⟩⟩ _ _ _ _ _ _ _ _ _ X)
   ⟨N,n1,arF n2 F.size,tN n3 fun k e=>kp k (.inr (.inr (.inr e))),n4'⟩ (@Pr.un ⟨⟨k1⟩⟩ _ _ _ _ _ _ _ _ _ X)
 ·rcases F.dom k h2 with h3|h3
  ·exact ap k h h3
  ·have:=(hd k h).2;omega
theorem Bv.fx {D D'}(h:Bv B b v l w)(F:Fx D D' w w')(ap:∀k,D k->¬Db b v k):Bv B b v l w'/\∀k,D' k->¬Db b v k:=by
 obtain⟨q,hq,h1,h2,h3,h4⟩:=h;have hl:∀k,Db b v k->k<w.heap.size:=fun k hk=>by
  rcases hk with rfl|hk
  ·exact(gs h2).1
  ·exact(h3.lt k hk).2
 have kp:∀k,Db b v k->w'.heap[k]?=w.heap[k]?:=fun k hk=>F.keep k (hl k hk) (fun hd=>ap k hd hk)
 refine⟨⟨q,hq,h1,(kp b (.inl rfl)).trans h2,⟨h3.1,?_⟩,h4⟩,fun k hd hk=>?_⟩
 ·rcases h3.2 with e|⟨g,cap,cur,fz,rfl,e1,e2,e3⟩
  ·exact .inl e
  ·exact .inr ⟨g,cap,cur,fz,rfl,e1,(kp g (.inr rfl)).trans e2,e3⟩
 ·rcases F.dom k hd with h5|h5
  ·exact ap k h5 hk
  ·have:=hl k hk;omega
end Vp
namespace Vp
variable[Inhabited Hc.bH]
open Mm Hh Hc Mc Ud As
variable{p:Pl}
theorem EH:∀(l:List Nat) (Wd:List Nat),(∀x∈l,x<9223372036854775808)→(aB Wd l).length≤Wd.length+41*l.length
 | [],Wd,_=>by simp[aB]
 |x::r,Wd,h=>by
  have ih:=EH r (Wd++32::dg x) fun y hy=>h y (by simp[hy])
  have e:aB Wd (x::r)=aB (Wd++32::dg x) r:=rfl;have:=pz (h x aq);rw[e];simp only[ary,arM]at ih ⊢;omega
theorem rJ (h:∀x∈l,x<9223372036854775808)(h1:Wd.length<=1000)(h2:l.length<=200000):(aB Wd l).length<=100000000:=by have:=EH l Wd h;omega
theorem YL {op b n}(h:Re.IsP op rd a b n)(n0 : -2147483648<=n)(n1:n<2147483648):(xR op rd a b n).length<=300:=by
 have h1:=Cg h.1.1 h.1.2.1 n;have h2:=rH (JY.of h n0 n1) (lg op);have h3:=BH op;unfold xR;rw[Cj h.1.1 h.1.2.1,ary];unfold pI;split
 ·simp;omega
 ·simp only[arM];omega
theorem JZ {p}(o:mM p)(us)(fr):(lY p us fr).2.length<=100000000:=by
 unfold lY;split
 ·rename_i hw;have q:=Sj o hw;show(XF _).length<=_
  refine rJ (fun x hx=>?_) an ?_
  ·rcases arG.1 hx with rfl|hx
   ·have:=q.st;omega
   ·obtain⟨y,hy,rfl⟩:=arY.1 hx;have:=q.w y hy;omega
  ·have h1:=q.few;have h2:=q.st;simp only[arM,asf];omega
 ·have:=l7 p.m p.hs p.ps;exact rJ (fun x hx=>by rw[arL.1 hx];omega) an aq
theorem uX (h:x<9223372036854775808)(h1:Wd.length<=1000):(aB Wd [x]).length<=100000000:=rJ (fun y hy=>by rw[arL.1 hy];exact h) h1 aq
theorem YM (o:mM p)(w)(hl:∀n∈l,n<4294967296):(GG p w l).2.length<=100000000:=by
 have q:aQ.length<=100000000:=an;unfold GG;split
 ·unfold dN;split
  ·exact q
  ·exact uX ab an
 split
 ·match l,hl with
  | [],_=>exact q
  | [pc],hl=>
   have:=o.h4;simp only[lW];split
   ·exact uX ab an
   ·exact q
  |_::_::_,_=>exact q
 split
 ·match l,hl with
  | [],_=>exact q
  | [_],_=>exact q
  | [_,_],_=>exact q
  | [k,r,x],hl=>
   simp only[o5];split
   ·show sU.length<=_;decide
   ·exact q
  |_::_::_::_::_,_=>exact q
 split
 ·match l,hl with
  | [],_=>exact q
  | [_],_=>exact q
  | [k,n],hl=>
   have:=o.p3;simp only[lX];split
   ·exact uX ab an
   ·exact q
  |_::_::_::_,_=>exact q
 split
 ·match l with
  | []=>exact JZ o _ _
  |_::_=>exact q
 split
 ·match l with
  | []=>exact q
  | [room]=>
   simp only[lZ];split
   ·exact uX ab an
   ·exact JZ (p:={ p with fr:=false }) o.old _ _
  |_::_::_=>exact q
 split
 ·match l with
  | []=>exact q
  | [k]=>
   show(rz p [k]).length<=_
   simp only[rz];split
   ·rename_i hk;obtain⟨a,b⟩:=o.hok _ (rC hk);have ms:0<=(hAt p k).state/\(hAt p k).state<=2/\0<=(hAt p k).cause/\(hAt p k).cause<=6:=by
     unfold may at b;simp only[awD]at b;omega
    have h1:=a.gP;have h2:=a.len;have h3:=pz (x:=(hAt p k).state.toNat) ab;refine rJ (fun x hx=>?_) ab (by simp only[arM,asf];omega);rcases arG.1 hx with rfl|hx
    ·omega
    ·rcases arG.1 hx with rfl|hx
     ·omega
     ·obtain⟨y,hy,rfl⟩:=arY.1 hx;obtain⟨i,hi⟩:=asv.1 hy;have e:Hh.rg (hAt p k) i=y:=by unfold Hh.rg;rw[ar2,hi];rfl
      have:=(a.reg i).2;omega
   ·exact q
  |_::_::_=>exact q
 split
 ·match l,hl with
  | [],_=>exact q
  | [x],hl=>
   have hx:=hl x aq;show(iy [x]).length<=_
   simp only[iy];split
   ·decide
   ·obtain⟨x0,x1,x2,x3,x4,Q⟩:=Hl hx;have:=Q.b0;have:=Q.b1;have:=Q.b2;have:=Q.b3;have:=Q.b4;rw[Q.e4,Q.e3,Q.e2,Q.e1,Q.e0];simp only[arS];refine rJ (fun y hy=>?_) an aq;simp only[arG,arN,awQ]at hy;rcases hy with rfl|rfl|rfl|rfl|rfl<;>omega
  |_::_::_,_=>exact q
 split
 ·match l,hl with
  | [],_=>exact q
  | [pc],hl=>
   have hx:=hl pc aq;show(gY p [pc]).length<=_
   by_cases hf:Bk.kJ p.m pc=0
   ·obtain⟨r,hr⟩:=(tL (l:=p.m) (pc:=(pc:Int)) ab ab).2 hf;simp only[gY,hr];have wx:=W.aT p.m 13 (pc:Int);have hd:¬Dc.aO (aT p.m 13 pc)=0:=by
     unfold Bk.kJ at hf;split at hf
     ·split at hf
      ·cases hf
      ·assumption
     ·cases hf
    have ib:=sK (Dc.aM (Dc.aO (aT p.m 13 pc))) wx.1 wx.2;have:=YL (BI wx.1 wx.2 hd) ib.1 ib.2;show(uH _).length<=_
    unfold uH;omega
   ·have hr:=(tL (l:=p.m) (pc:=(pc:Int)) ab ab).1 hf;simp only[gY,hr];decide
  |_::_::_,_=>exact q
 split
 ·match l with
  | []=>exact q
  | [n]=>
   simp only[gm];split
   ·show sU.length<=_;decide
   ·exact q
  |_::_::_=>exact q
 split
 ·match l with
  | []=>exact q
  | [x]=>
   show(dg _).length<=_
   have h16:=(Ts.gG p.m x 16 0).1;have:=pz (x:=(Bk.blk p.m x 16 0).length) ab;omega
  |_::_::_=>exact q
 ·exact q
theorem EI (o:mM p)(hl:∀d∈L,d<256)(hs:L.length<=4000000):(pq p L).2.length<=100000000:=by
 unfold pq;cases hn:aS (splitN 32 L).tail with
 |none=>show aQ.length<=_;decide
 |some l=>exact YM o _ (bX hn)
end Vp
end Go.Proofs.YtiadhbmnfjfioaaGreatDoor
