/- ours -/
import Derived.Test.YtiadhbmnfjfioaaGreatDoorX36
import Derived.Test.YtiadhbmnfjfioaaGreatDoorX31
set_option linter.unusedVariables false
set_option linter.unusedSimpArgs false
set_option maxHeartbeats 8000000
set_option maxRecDepth 100000
set_option linter.unusedSectionVars false
namespace Go.Proofs.YtiadhbmnfjfioaaGreatDoor
open Go.ChangeShapes Go.WideShapes Go.ChangeAt Go.RowKit
variable [Inhabited Hc.bN]
namespace Vp
open Mm Hh Hc Mc Ud

variable {w w' :World} {base :Nat} {v :Value} {l :List UInt8} {hs :List Hv}
theorem GU (h:Hc.Own w base v l):w.ownsRow base 5 1 v l.length (bc l):=by
 refine⟨by rw[gH];omega,?_⟩;rcases h with⟨rfl,rfl⟩|⟨k,cap,rfl,⟨hb,hl⟩,rest,hr,hz,hm⟩
 ·exact .inl ⟨rfl,rfl⟩
 ·refine .inr ⟨k,cap,_,rfl,hb,hr,hl,hm,by rw[ap2,hz];omega,?_⟩;rw[Nat.mul_one,arb,show l.length=(bc l).length from(gH l).symm,aqY]
theorem GY {n:Nat}(hl:l.length=n)(h:w.ownsRow base 5 1 v n (bc l)):Hc.Own w base v l:=M8 hl h
theorem EP {gh hc c:Nat}(r:bP w gh hs)(z:Zh w gh hc)(hb:base<=gh)(hl:hs.length=c):w.ownsRow base 43 37 (.slice (some ⟨gh,0,none⟩) c hc) c (hC hs):=by obtain⟨rest,e⟩:=r.row;obtain⟨cur,e2,z1,z2⟩:=z;have hC:=oG r.ok;rw[e]at e2;injection e2 with e2;injection e2 with e2;subst e2;rw[ap2,apo,hC]at z1;refine⟨by rw[hC,hl],.inr ⟨gh,hc,_,rfl,hb,e,by omega,z2,by rw[ap2,apo,hC];omega,?_⟩⟩;rw[arb,<-hl,<-hC,aqY]
structure Mx (w:World) (base:Nat) (M H:Value) (m:List UInt8) (hs:List Hv):Prop where
 mem:w.ownsRow base 5 1 M m.length (bc m)
 hrt:w.ownsRow base 43 37 H hs.length (hC hs)
 ok:∀h∈hs,h.Ok
theorem Mx.to {M H:Value}{m:List UInt8}(X:Mx w base M H m hs)(q:∀(k:Nat) (o:Array Value) (t:Nat) (f:Nat×Nat),t=5\/t=43->w.heap[k]?=some (.cells o t f)->w'.heap[k]?=w.heap[k]?):Mx w' base M H m hs:=⟨aj X.mem fun k o f e=>q k o _ f (.inl rfl) e,aj X.hrt fun k o f e=>q k o _ f (.inr rfl) e,X.ok⟩
theorem Mx.of {M H:Value}{m:List UInt8}(X:Mx w base M H m hs)(G:Gr w w'):Mx w' base M H m hs:=X.to fun k o t f _ e=>G.block _ (gs e).1
theorem aaR (w:World)(base:Nat):Mx w base (.slice none 0 0) (.slice none 0 0) [] []:=⟨aur _ _ _ _,aur _ _ _ _,fun h hm=>(by cases hm)⟩
theorem PG {c mn:Nat}{S:Sh}(h:ShO w v c mn S):∃M H oa oc,v=.agg #[M,H,.slice oa S.out.length oc,.int .i64 S.steps]/\Mx w Hc.mb M H S.m S.hs/\Wm w oa S.out.length S.out:=by obtain⟨ma,mc,gh,hc,oa,oc,rfl,h1,h2,h3,h4,h5,_,h6,h7⟩:=h;refine⟨_,_,oa,oc,rfl,⟨GU h1,?_,h3.ok⟩,h5⟩;rw[h7];exact EP h3 h4 h2 h7
theorem U6 {b c mn:Nat}{m:List UInt8}(h:MvO w b v c mn hs m)(hb:base<=b):∃M H,v=.agg #[M,H]/\Mx w base M H m hs:=by obtain⟨ma,mc,gh,hc,rfl,h1,h2,h3,h4,h5,h6⟩:=h;refine⟨_,_,rfl,⟨GU (h1.base (w':=w) hb),?_,h3.ok⟩⟩;rw[h5];exact EP h3 h4 (apr hb h2) h5
theorem Mx.read {M H:Value}{m:List UInt8}(X:Mx w base M H m hs):∃ma mc ha hc,M=.slice ma m.length mc/\H=.slice ha hs.length hc/\Mem w ma m.length m/\(ma=none->mc=0)/\Hs w ha hs.length hs:=by
 obtain⟨ma,mc,e,M1⟩:=(GY rfl X.mem).mem;have hc0:ma=none->mc=0:=by
  rintro rfl;rcases GY rfl X.mem with⟨h,_⟩|⟨k,cap,h,_⟩
  ·rw[e]at h;injection h
  ·rw[e]at h;cases h
 rcases X.hrt.2 with⟨h0,hn⟩|⟨g,cap,cur,hv,hb,hg,r⟩
 ·exact⟨ma,mc,none,0,e,by rw[h0,hn],M1,hc0,⟨rfl,X.ok,fun h=>absurd h (by omega)⟩⟩
 ·have hh:=X.hrt;rw[hv]at hh;exact⟨ma,mc,some ⟨g,0,none⟩,cap,e,hv,M1,hc0,(bP.own X.ok hh).hs rfl⟩
theorem DL (hs:List Hv)(h:Hv):hC (hs++[h])=hC hs++hL h:=by simp[hC]
theorem Mx.ah8 {M H H':Value}{m:List UInt8}(X:Mx w base M H m hs){h:Hv}(o:h.Ok)(q:w.grownBy w' H.ownBlock)(O:w'.ownsRow base 43 37 H' (hs.length+1) (hC hs++hL h)):Mx w' base M H' m (hs++[h]):=by
 refine⟨aj X.mem fun k o f e=>eF X.hrt q (by decide) e,?_,fun h' hm=>?_⟩
 ·rw[apo,apW,DL];exact O
 ·rcases apR.1 hm with hm|hm
  ·exact X.ok h' hm
  ·rw[apE.1 hm];exact o
theorem Mx.set {M:Value}{m:List UInt8}{g c cap k j:Nat}{h h':Hv}{u:Value}(X:Mx w base M (.slice (some ⟨g,0,none⟩) c cap) m hs)(hk:hs[k]?=some h)(hj:j<37)(e:(hL h).set j u=hL h')(o:h'.Ok):base<=g/\Mx (w.setCell ⟨g,k*37+j,none⟩ u) base M (.slice (some ⟨g,0,none⟩) c cap) m (hs.set k h'):=by
 have hl:c=hs.length:=by
  rcases X.hrt.2 with⟨h0,_⟩|⟨_,_,_,hv,_⟩
  ·cases h0
  ·injection hv
 have hb:=(X.hrt.lt g rfl).1;subst hl;have R:=bP.own X.ok X.hrt;have Z:=Na X.hrt;obtain⟨rest,er⟩:=R.row;have R2:=R.set hk hj e o;refine⟨hb,aj X.mem fun i ob f ei=>hso (by exact aa ei er (by decide)),?_,R2.ok⟩;rw[ap6];exact EP R2 (Z.setCell _ _) hb (ap6 ..)
end Vp
namespace Vp
open Mm Hh Hc Mc Ud

section
variable {P :Program} {w :World} {base e size bytes n :Nat} {i :TypeInfo} {z :Value} {t :TypeId}
theorem J7 (ty:TypeId)(ht:P.underlying t=some (.slice e))(hi:P.info? e=some i)(hz:i.zero=some z)(hsize:i.size=size)(hby:i.bytes=bytes)(hzs:z.cells.size=size)(hsz:0<size)(v:Value)(xs:List Value)(hown:w.ownsRow base e size v n xs)(a:Addr)(m c:Nat)(news:List Value)(hl:news.length=m*size)(hnews:∀j u,news[j]?=some u->w.cell? (a.add j)=some u)(h1:∀u∈news,u.oneCell'=true)(h63:n+m<=maxLen)(hbytes:(n+m)*bytes<=140737488355328)(hbase:base<=w.heap.size):∃v' w',(Builtin.append_ #[t,t] ty #[v,.slice (some a) m c]).run P w=.ok v' w'/\w'.ownsRow base e size v' (n+m) (xs++news)/\w.grownBy w' v.ownBlock/\∀k,v'.ownBlock=some k->v.ownBlock=some k\/w.heap.size<=k:=by
 obtain⟨v',w',hr,h2,h3,_⟩:=au6 (P:=P) w base t ty e i z size bytes ht hi hz hsize hby hzs hsz v n xs hown a m c news hl hnews h1 h63 hbytes hbase;refine⟨v',w',hr,h2,h3,fun k hk=>?_⟩;rcases hown.2 with⟨rfl,rfl⟩|⟨g,cap,cur,rfl,hbg,hg,hnc,hcm,hcs,htake⟩
 ·have hx:=apX (by simpa using hown.1);subst hx;obtain⟨v2,w2,hr2,k2,_⟩:=au6 (P:=P) w w.heap.size t ty e i z size bytes ht hi hz hsize hby hzs hsz (.slice none 0 0) 0 [] (aur _ _ _ _) a m c news hl hnews h1 h63 hbytes (apn _);rw[hr]at hr2;injection hr2 with e1 e2;subst e1;exact .inr (k2.lt k hk).1
 ·by_cases hroom:n+m<=cap
  ·obtain⟨w2,hr2,k2,_⟩:=run_append_fits (P:=P) w base t ty e i size ht hi hsize g n cap xs hown a m c news hl hnews h1 hroom;rw[hr]at hr2;injection hr2 with e1 e2;subst e1;exact .inl hk
  ·subst hsize;subst hby;have holds:=hown.cells (g:=g) rfl;have hr2:=run_append_grow (P:=P) w t ty e i z ht hi hz ⟨g,0,none⟩ n cap xs hown.1 holds a m c news hl hnews (by omega) (by unfold maxLen at h63;omega) (growslice_fits (by omega) hbytes);rw[hr]at hr2;injection hr2 with e1 e2;subst e1;simp only[Value.ownBlock,auj]at hk;exact .inr (by omega)
theorem gU {ops:Array Oper}{rest:List Oper}{o:Oper}{a:Act}{Q:Exit→Act→World→Prop}(hgd:o.guard=none)(s x:Operand)(ho:o.op=.call { callee:=.builtin .append,args:=#[s,x],argTypes:=#[t,t] })(ht:P.underlying t=some (.slice e))(hi:P.info? e=some i)(hz:i.zero=some z)(hsize:i.size=size)(hby:i.bytes=bytes)(hzs:z.cells.size=size)(hsz:0<size)(v:Value)(xs:List Value)(hs:a.eval s=v)(hown:w.ownsRow base e size v n xs)(ad:Addr)(m c:Nat)(news:List Value)(hx:a.eval x=.slice (some ad) m c)(hl:news.length=m*size)(hnews:∀j u,news[j]?=some u->w.cell? (ad.add j)=some u)(h1:∀u∈news,u.oneCell'=true)(h63:n+m<=maxLen)(hbytes:(n+m)*bytes<=140737488355328)(hbase:base<=w.heap.size)(h:∀v' w',w'.ownsRow base e size v' (n+m) (xs++news)->w.grownBy w' v.ownBlock->(∀k,v'.ownBlock=some k->v.ownBlock=some k\/w.heap.size<=k)->wpList P ops Q rest (a.put o.dst v') w'):wpList P ops Q (o::rest) a w:=by
 refine au5 hgd fun K hK=>?_
 obtain⟨v',w',hr,h2,h3,h4⟩:=J7 (P:=P) o.type ht hi hz hsize hby hzs hsz v xs hown ad m c news hl hnews h1 h63 hbytes hbase;unfold Oper.wp;simp[execOp,ho,resolve,invoke,builtin,hs,hx,hr,Result.andThen];exact hK _ _ (h v' w' h2 h3 h4)
end

variable {w w' :World} {ty g :Nat}
section
variable {w0 :World} (hs : ∀ i v, w0.cell? ⟨g, i, none⟩ =some v -> ∀ z, v ≠ .int .u8 z /\ v ≠ .int .u32 z) (hk : ∀ k, k < w0.heap.size -> k ≠ g -> w.heap[k]? =w0.heap[k]?)
include hs hk
theorem zF {b o:Nat}{k:IntKind}{z:Int}(hkk:k=.u8\/k=.u32)(h:w0.cell? ⟨b,o,none⟩=some (.int k z)):b≠g:=by
 rintro rfl;rcases hkk with rfl|rfl
 ·exact(hs _ _ h z).1 rfl
 ·exact(hs _ _ h z).2 rfl
theorem uY {a:Addr}{k:IntKind}{z:Int}(hkk:k=.u8\/k=.u32)(h:w0.cell? a=some (.int k z)):w.cell? a=some (.int k z):=by
 have hsp:=avb h;obtain⟨b,o,s⟩:=a;obtain rfl:s=none:=by simpa using hsp
 exact(aui (hk b (aug w0 _ h) (zF hs hk hkk h))).trans h
theorem U7 {ao:Option Addr}{n:Nat}{l:List UInt8}(M:Mem w0 ao n l):Mem w ao n l:=⟨M.len,M.nil,fun ad e t ht=>uY hs hk (.inl rfl) (M.cell ad e t ht)⟩
theorem aaS {ao:Option Addr}{n:Nat}{ls:List (Int×Int)}(hz:w0.heap.size<=w.heap.size)(L:Ls w0 ao n ls):Ls w ao n ls:=
 ⟨L.len,fun hn=>by
  obtain⟨b,o,e,hb,hc⟩:=L.spot hn;exact⟨b,o,e,apq hb hz,fun i p hp=>⟨(aui (hk b hb (zF hs hk (.inr rfl) (hc i p hp).2))).trans (hc i p hp).1,uY hs hk (.inr rfl) (hc i p hp).2⟩⟩⟩
theorem aaT {u:Uv}{x:List Value}(hz:w0.heap.size<=w.heap.size)(h:Uc w0 u x):Uc w u x:=by obtain⟨ba,bn,bc,la,ln,lc,e,o,k1,k2,M,L,b1,b2⟩:=h;exact⟨ba,bn,bc,la,ln,lc,e,o,k1,k2,U7 hs hk M,aaS hs hk hz L,b1,b2⟩
theorem aaU {ao:Option Addr}{n:Nat}{us:List Uv}(hz:w0.heap.size<=w.heap.size)(U:Us w0 ao n us):Us w ao n us:=
 ⟨U.len,fun hn=>by
  obtain⟨b,o,e,hb,hc⟩:=U.spot hn;refine⟨b,o,e,apq hb hz,fun j u hj=>?_⟩;obtain⟨x,h1,h2⟩:=hc j u hj;refine⟨x,aaT hs hk hz h1,fun i v hi=>?_⟩;have hb2:b≠g:=by
   obtain⟨ba,bn,bc,la,ln,lc,ex,ou,_⟩:=h1;have h0:=h2 1 (.int .u32 (Hh.rg u.was 0)) (by rw[ex];exact(q9 ou.was (j:=0) (by omega)).trans (lC ou.was (by omega)));exact zF hs hk (.inr rfl) h0
  exact(aui (hk b hb hb2)).trans (h2 i v hi)⟩
end
theorem aaV {α:Type}{l:List α}(h:0<l.length):∃x,l[0]?=some x:=⟨l[0],api h⟩
structure Un (w:World) (ao:Option Addr) (n:Nat) (us:List Uv):Prop where
 us:Us w ao n us
 off:∀b o,ao=some ⟨b,o,none⟩->∀j,j<n->b≠Hc.mb/\(∀ba bn bc,w.cell? ⟨b,o+j*41+39,none⟩=some (.slice ba bn bc)->0<bn->∀ad,ba=some ad->ad.block≠Hc.mb)/\(∀la ln lc,w.cell? ⟨b,o+j*41+40,none⟩=some (.slice la ln lc)->0<ln->∀ad,la=some ad->ad.block≠Hc.mb)
theorem Un.keep {w0:World}{ao:Option Addr}{n:Nat}{us:List Uv}(U:Un w0 ao n us)(Q:Us w ao n us)(hk:∀b o,ao=some ⟨b,o,none⟩->0<n->w.heap[b]?=w0.heap[b]?):Un w ao n us:=
 ⟨Q,fun b o e j hj=>by
  obtain⟨h1,h2,h3⟩:=U.off b o e j hj;have he:=hk b o e (by omega);exact⟨h1,fun ba bn bc hc=>h2 ba bn bc ((aui he).symm.trans hc),fun la ln lc hc=>h3 la ln lc ((aui he).symm.trans hc)⟩⟩
theorem Un.of {ao:Option Addr}{n:Nat}{us:List Uv}(U:Un w ao n us)(G:Gr w w'):Un w' ao n us:=
 U.keep (U.us.of G) fun b o e hn=>by
  obtain⟨b',o',e',hb,_⟩:=U.us.spot hn;rw[e]at e';injection e' with e';injection e' with e1 e2;subst e1 e2;exact G.block _ hb
def NbW (w:World) (b:Nat):Prop:=∀i v,w.cell? ⟨b,i,none⟩=some v->∀z,v≠.int .u8 z/\v≠.int .u32 z
def Kw (w0 w:World) (k:Nat):Prop:=w.heap[k]?=w0.heap[k]?\/NbW w0 k\/k=Hc.mb
section
variable {w0 :World} (hk : ∀ k, k < w0.heap.size -> Kw w0 w k)
include hk
theorem xM {b o:Nat}{z:Int}(h:w0.cell? ⟨b,o,none⟩=some (.int .u32 z))(hb:b≠Hc.mb):w.heap[b]?=w0.heap[b]?:=by
 rcases hk b (aug w0 _ h)with e|e|e
 ·exact e
 ·exact absurd rfl (e _ _ h z).2
 ·exact absurd e hb
theorem keep_byte {a:Addr}{z:Int}(h:w0.cell? a=some (.int .u8 z))(hb:a.block≠Hc.mb):w.heap[a.block]?=w0.heap[a.block]?:=by
 have hsp:=avb h;obtain⟨b,o,s⟩:=a;obtain rfl:s=none:=by simpa using hsp
 rcases hk b (aug w0 _ h)with e|e|e
 ·exact e
 ·exact absurd rfl (e _ _ h z).1
 ·exact absurd e hb
theorem zG {ao:Option Addr}{n:Nat}{us:List Uv}(Y:Un w0 ao n us){b o:Nat}(e:ao=some ⟨b,o,none⟩)(hn:0<n):w.heap[b]?=w0.heap[b]?:=by have hbm:=(Y.off b o e 0 hn).1;have U:=Y.us;obtain⟨b',o',e',hb,hc⟩:=U.spot hn;rw[e]at e';injection e' with e';injection e' with e1 e2;subst e1 e2;obtain⟨u0,hu0⟩:=aaV (l:=us) (by have:=U.len;omega);obtain⟨x,⟨ba,bn,bc,la,ln,lc,ex,ou,_⟩,h2⟩:=hc 0 u0 hu0;exact xM hk (h2 1 (.int .u32 (Hh.rg u0.was 0)) (by rw[ex];exact(q9 ou.was (j:=0) (by omega)).trans (lC ou.was (by omega)))) hbm
theorem Un.kw {ao:Option Addr}{n:Nat}{us:List Uv}(hz:w0.heap.size<=w.heap.size)(U:Un w0 ao n us):Us w ao n us:=
 ⟨U.us.len,fun hn=>by
  obtain⟨b,o,e,hb,hc⟩:=U.us.spot hn;have eb:=zG hk U e hn;refine⟨b,o,e,apq hb hz,fun j u hj=>?_⟩;have hjn:j<n:=by have:=(apj.1 hj).1;have:=U.us.len;omega
  obtain⟨x,⟨ba,bn,bc,la,ln,lc,ex,ou,k1,k2,M,L,b1,b2⟩,h2⟩:=hc j u hj;have WH:=h2 39 (.slice ba bn bc) (by rw[ex];have:=eO (u:=u) (b:=.slice ba bn bc) (l:=.slice la ln lc) ou.was 1;simpa using this);have QR:=h2 40 (.slice la ln lc) (by rw[ex];have:=eO (u:=u) (b:=.slice ba bn bc) (l:=.slice la ln lc) ou.was 2;simpa using this);have hoff:=(U.off b o e j hjn).2.1 ba bn bc WH;have ah9:=(U.off b o e j hjn).2.2 la ln lc QR;refine⟨x,⟨ba,bn,bc,la,ln,lc,ex,ou,k1,k2,⟨M.len,M.nil,fun ad e2 t ht=>?_⟩,⟨L.len,fun hl=>?_⟩,b1,b2⟩,fun i v hi=>(aui eb).trans (h2 i v hi)⟩
  ·have h:=M.cell ad e2 t ht;exact(aui (keep_byte hk h (by rw[show(ad.add t).block=ad.block by unfold Addr.add;split<;>rfl];exact hoff (by omega) ad e2))).trans h
  ·obtain⟨lb,lo,e3,hlb,hlc⟩:=L.spot hl;obtain⟨q0,hq0⟩:=aaV (l:=u.lost) (by have:=L.len;omega);have hl0:=hlc 0 q0 hq0;have el:=xM hk hl0.2 (ah9 hl _ e3);exact⟨lb,lo,e3,apq hlb hz,fun i p hp=>⟨(aui el).trans (hlc i p hp).1,(aui el).trans (hlc i p hp).2⟩⟩⟩
end
def zV (g N:Nat) (w:World) (U:Value) (us:List Uv):Prop:=∃w0 ua uc,U=.slice ua us.length uc/\us.length<=uc/\w0.heap.size=N/\N<=w.heap.size/\Un w0 ua us.length us/\NbW w0 g/\∀k,k<N->k≠g->Kw w0 w k
theorem zV.un {N:Nat}{U:Value}{us:List Uv}(h:zV g N w U us):∃ua uc,U=.slice ua us.length uc/\us.length<=uc/\Un w ua us.length us:=by
 obtain⟨w0,ua,uc,e,h1,rfl,h2,h3,h4,h5⟩:=h;have hk:∀k,k<w0.heap.size->Kw w0 w k:=fun k hk=>by
  by_cases hg:k=g
  ·subst hg;exact .inr (.inl h4)
  ·exact h5 k hk hg
 exact⟨ua,uc,e,h1,h3.keep (h3.kw hk h2) fun b o e2 hn=>zG hk h3 e2 hn⟩
theorem zV.us {N:Nat}{U:Value}{us:List Uv}(h:zV g N w U us):∃ua uc,U=.slice ua us.length uc/\us.length<=uc/\Us w ua us.length us:=by obtain⟨ua,uc,e,h1,h2⟩:=h.un;exact⟨ua,uc,e,h1,h2.us⟩
theorem zV.step {N:Nat}{U:Value}{us:List Uv}(h:zV g N w U us)(hz:w.heap.size<=w'.heap.size)(hk:∀k,k<N->k≠g->w'.heap[k]?=w.heap[k]?):zV g N w' U us:=by
 obtain⟨w0,ua,uc,e,h1,h0,h2,h3,h4,h5⟩:=h;refine⟨w0,ua,uc,e,h1,h0,apr h2 hz,h3,h4,fun k hk' hg=>?_⟩;rcases h5 k hk' hg with q|q
 ·exact .inl ((hk k hk' hg).trans q)
 ·exact .inr q
theorem zV.wr {N:Nat}{U:Value}{us:List Uv}(h:zV g N w U us)(hz:w.heap.size<=w'.heap.size)(hk:∀k,k<N->k≠g->Kw w w' k):zV g N w' U us:=by
 obtain⟨w0,ua,uc,e,h1,h0,h2,h3,h4,h5⟩:=h;refine⟨w0,ua,uc,e,h1,h0,apr h2 hz,h3,h4,fun k hk' hg=>?_⟩;rcases h5 k hk' hg with q|q
 ·rcases hk k hk' hg with r|r|r
  ·exact .inl (r.trans q)
  ·exact .inr (.inl fun i v hv=>r i v ((aui q).trans hv))
  ·exact .inr (.inr r)
 ·exact .inr q
def Dm (g:Nat) (M H P:Value) (k:Nat):Prop:=k=g\/M.ownBlock=some k\/H.ownBlock=some k\/P.ownBlock=some k
structure Fx (D D':Nat→Prop) (w w':World):Prop where
 os:w'.os=w.os
 tape:w'.tape=w.tape
 output:w'.output=w.output
 size:w.heap.size<=w'.heap.size
 keep:∀k,k<w.heap.size->¬D k->w'.heap[k]?=w.heap[k]?
 dom:∀k,D' k->D k\/w.heap.size<=k
theorem Fx.refl (D:Nat->Prop)(w:World):Fx D D w w:=⟨rfl,rfl,rfl,apn _,fun _ _ _=>rfl,fun _ h=>.inl h⟩
theorem Fx.trans {D D1 D2:Nat->Prop}{a b c:World}(h:Fx D D1 a b)(q:Fx D1 D2 b c):Fx D D2 a c:=
 ⟨q.os.trans h.os,q.tape.trans h.tape,q.output.trans h.output,apr h.size q.size,fun k hk hd=>(q.keep k (apq hk h.size) (fun h1=>by
  rcases h.dom k h1 with h2|h2
  ·exact hd h2
  ·omega)).trans (h.keep k hk hd),fun k hk=>by
  rcases q.dom k hk with h1|h1
  ·exact h.dom k h1
  ·exact .inr (apr h.size h1)⟩
theorem Fx.bD {D:Nat->Prop}(G:Gr w w'):Fx D D w w':=⟨G.os,G.tape,G.output,G.size,fun k hk _=>G.block k hk,fun _ h=>.inl h⟩
theorem Fx.gr {D D':Nat->Prop}{a:World}(h:Fx D D' a w)(G:Gr w w'):Fx D D' a w':=h.trans (.bD G)
theorem Fx.grown {D D':Nat->Prop}{r:Option Nat}(q:w.grownBy w' r)(h:∀k,r=some k->D k)(hd:∀k,D' k->D k\/w.heap.size<=k):Fx D D' w w':=⟨q.os,q.tape,q.output,q.size,fun k hk hn=>q.block k hk (fun e=>hn (h k e.symm)),hd⟩
theorem Fx.set {D:Nat->Prop}{a:Addr}{v:Value}(h:D a.block):Fx D D w (w.setCell a v):=⟨rfl,rfl,rfl,by simp[World.setCell],fun k hk hn=>hso (fun e=>hn (e ▸ h)),fun _ h=>.inl h⟩
theorem Fx.below {D D':Nat->Prop}{B:Nat}(h:Fx D D' w w')(hb:∀k,D k->B<=k)(hB:B<=w.heap.size):Below B w w':=⟨h.os,h.tape,h.output,h.size,fun k hk=>h.keep k (apq hk hB) (fun hd=>by have:=hb k hd;omega)⟩
def pC (ps:List (Int×Int)):List Value:=ps.flatMap fun p=>[.int .i64 p.1,.int .i64 p.2]
theorem U8 (ps:List (Int×Int))(p:Int×Int):pC (ps++[p])=pC ps++[.int .i64 p.1,.int .i64 p.2]:=by simp[pC]
theorem PH:∀(ps:List (Int×Int)) (i:Nat) (p:Int×Int),ps[i]?=some p→(pC ps)[i*2]?=some (.int .i64 p.1)∧(pC ps)[i*2+1]?=some (.int .i64 p.2)
 |q::r,0,p,h=>by
  simp only[apw,auj]at h;subst h;exact⟨rfl,rfl⟩
 |q::r,i+1,p,h=>by
  have:=PH r i p (by simpa using h);have e:pC (q::r)=.int .i64 q.1::.int .i64 q.2::pC r:=rfl;rw[e,show(i+1)*2=i*2+1+1 by omega];simpa using this
theorem aaW {N:Nat}{v:Value}{ps:List (Int×Int)}(h:w.ownsRow N 45 2 v ps.length (pC ps)):∃pa pc,v=.slice pa ps.length pc/\Ps w pa ps.length ps:=by
 rcases h.2 with⟨h0,hn⟩|⟨k,cap,cur,hv,_,hg,_,_,_,ht⟩
 ·exact⟨none,0,by rw[h0,hn],rfl,fun h=>absurd h (by omega)⟩
 ·refine⟨_,cap,hv,rfl,fun _=>⟨k,0,rfl,(gs hg).1,fun i p hi=>?_⟩⟩;obtain⟨e1,e2⟩:=PH ps i p hi;rw[<-ht,apS]at e1 e2;split at e1
  ·split at e2
   ·rw[aqD]at e1 e2;rw[apu];exact⟨(cr hg).trans e1,(cr hg).trans e2⟩
   ·cases e2
  ·cases e1
structure Pr (ty:Nat) (B:Nat) (w:World) (g:Nat) (M H P U:Value) (p:Pl):Prop where
 oU:ty≠5/\ty≠43/\ty≠45
 bg:B<=g
 blk:w.heap[g]?=some (.cells #[M,H,P,U,.bool p.fr] ty (0,0))
 mx:Mx w B M H p.m p.hs
 ok:lg p
 row:∃N,B<=N/\N<=w.heap.size/\w.ownsRow N 45 2 P p.ps.length (pC p.ps)/\(p.fr=true->zV g N w U p.us)
 un:∃ua n uc,U=.slice ua n uc
variable {B :Nat} {M H P U :Value} {p :Pl}
theorem Pr.le (h:Pr ty B w g M H P U p):B<=w.heap.size:=apr h.bg (aqP (gs h.blk).1)
theorem Pr.dom (h:Pr ty B w g M H P U p):∀k,Dm g M H P k->B<=k/\k<w.heap.size:=by
 obtain⟨N,h1,h2,h3,_⟩:=h.row;rintro k (rfl|e|e|e)
 ·exact⟨h.bg,(gs h.blk).1⟩
 ·exact h.mx.mem.lt k e
 ·exact h.mx.hrt.lt k e
 ·have:=h3.lt k e;exact⟨apr h1 this.1,this.2⟩
theorem Pr.gr (h:Pr ty B w g M H P U p)(G:Gr w w'):Pr ty B w' g M H P U p:=by obtain⟨N,h1,h2,h3,h4⟩:=h.row;exact⟨h.oU,h.bg,(G.block g (gs h.blk).1).trans h.blk,h.mx.of G,h.ok,⟨N,h1,apr h2 G.size,aC h3 G,fun hf=>(h4 hf).step G.size fun k hk _=>G.block k (apq hk h2)⟩,h.un⟩
theorem Pr.down (h:Pr ty B w g M H P U p):Pr ty B (w.setCell ⟨g,4,none⟩ (.bool false)) g M H P U { p with fr:=false }/\Fx (Dm g M H P) (Dm g M H P) w (w.setCell ⟨g,4,none⟩ (.bool false)):=by
 obtain⟨N,h1,h2,h3,_⟩:=h.row;have hn:∀(t:Nat),t≠ty->∀(k:Nat) (o:Array Value) (f:Nat×Nat),w.heap[k]?=some (.cells o t f)->(w.setCell ⟨g,4,none⟩ (.bool false)).heap[k]?=w.heap[k]?:=fun t ht k o f e=>hso (by exact aa e h.blk ht)
 exact⟨⟨h.oU,h.bg,by rw[hss h.blk];simp,h.mx.to fun k o t f ht e=>hn t (by rcases ht with rfl|rfl;exact h.oU.1.symm;exact h.oU.2.1.symm) k o f e,h.ok.old,⟨N,h1,by simpa using h2,aj h3 fun k o f e=>hn _ h.oU.2.2.symm k o f e,fun hf=>by cases hf⟩,h.un⟩,Fx.set (.inl rfl)⟩
end Vp
namespace Vp
open Mm Hh Hc Mc Ud

variable {w w' w2 :World} {ty g B :Nat} {M H P U M' H' P' :Value} {p :Pl}
def fE (ty B:Nat) (w:World) (g:Nat) (M H P:Value) (r:Pl×List Nat) (e:Ending) (w':World):Prop:=e=.returned (As.str r.2)/\∃M' H' P' U',Pr ty B w' g M' H' P' U' r.1/\Fx (Dm g M H P) (Dm g M' H' P') w w'
theorem aaX (a b:List UInt8):bc (a++b)=bc a++bc b:=by simp[bc]
theorem Pr.open (X:Pr ty B w g M H P U p):∃ma mc ha hc pa pc ua un uc,M=.slice ma p.m.length mc/\H=.slice ha p.hs.length hc/\P=.slice pa p.ps.length pc/\U=.slice ua un uc/\Mem w ma p.m.length p.m/\(ma=none->mc=0)/\Hs w ha p.hs.length p.hs/\Ps w pa p.ps.length p.ps:=by obtain⟨ma,mc,ha,hc,e1,e2,h1,h2,h3⟩:=X.mx.read;obtain⟨N,_,_,h4,_⟩:=X.row;obtain⟨pa,pc,e3,h5⟩:=aaW h4;obtain⟨ua,un,uc,e4⟩:=X.un;exact⟨ma,mc,ha,hc,pa,pc,ua,un,uc,e1,e2,e3,e4,h1,h2,h3,h5⟩
theorem dx {v:Value}{i:Nat}{o:Array Value}(hb:w.heap[g]?=some (.cells o ty (0,0))){t:Nat}(ht:t≠ty){k:Nat}{q:Array Value}{f:Nat×Nat}(e:w.heap[k]?=some (.cells q t f)):(w.setCell ⟨g,i,none⟩ v).heap[k]?=w.heap[k]?:=hso (by exact aa e hb ht)
theorem Pr.aia {l:List UInt8}{n:Nat}(X:Pr ty B w g M H P U p)(hf:p.fr=false)(hn:l.length=n)(h4:p.m.length+n<=4096)(q:w.grownBy w2 M.ownBlock)(O:w2.ownsRow B 5 1 M' (p.m.length+n) (bc p.m++bc l))(hat:∀k,M'.ownBlock=some k->M.ownBlock=some k\/w.heap.size<=k):w2.heap[g]?=some (.cells #[M,H,P,U,.bool p.fr] ty (0,0))/\Pr ty B (w2.setCell ⟨g,0,none⟩ M') g M' H P U { p with m:=p.m++l }/\Fx (Dm g M H P) (Dm g M' H P) w (w2.setCell ⟨g,0,none⟩ M'):=by
 obtain⟨N,n1,n2,n3,_⟩:=X.row;have kp:∀{t:Nat},t≠5->∀{k:Nat} {o:Array Value} {f:Nat×Nat},w.heap[k]?=some (.cells o t f)->w2.heap[k]?=w.heap[k]?:=by intro t ht k o f e;exact eF X.mx.mem q ht e
 have hb:=(kp X.oU.1 X.blk).trans X.blk;refine⟨hb,⟨X.oU,X.bg,by rw[hss hb];simp,⟨?_,?_,X.mx.ok⟩,?_,⟨N,n1,by have:=q.size;simp;omega,?_,fun h=>by rw[show p.fr=true from h]at hf;cases hf⟩,X.un⟩,?_⟩
 ·rw[apo,hn,aaX];exact aj O fun k o f e=>dx hb X.oU.1.symm e
 ·exact aj (aj X.mx.hrt fun k o f e=>kp (by decide) e) fun k o f e=>dx hb X.oU.2.1.symm e
 ·exact⟨by show(p.m++l).length<=4096;rw[apo];omega,X.ok.h4,X.ok.hok,X.ok.p3,X.ok.pk,fun h=>(by rw[show p.fr=true from h]at hf;cases hf),fun h=>by rw[show p.fr=true from h]at hf;cases hf⟩
 ·exact aj (aj n3 fun k o f e=>kp (by decide) e) fun k o f e=>dx hb X.oU.2.2.symm e
 ·refine(Fx.grown q (fun k e=>.inr (.inl e)) (D':=Dm g M' H P) ?_).trans (Fx.set (.inl rfl));rintro k (h|h|h|h)
  ·exact .inl (.inl h)
  ·rcases hat k h with h|h
   ·exact .inl (.inr (.inl h))
   ·exact .inr h
  ·exact .inl (.inr (.inr (.inl h)))
  ·exact .inl (.inr (.inr (.inr h)))
theorem Pr.aib {h:Hv}(X:Pr ty B w g M H P U p)(hf:p.fr=false)(o:h.Ok/\may h=true)(h4:p.hs.length+1<=4)(q:w.grownBy w2 H.ownBlock)(O:w2.ownsRow B 43 37 H' (p.hs.length+1) (hC p.hs++hL h))(hat:∀k,H'.ownBlock=some k->H.ownBlock=some k\/w.heap.size<=k):w2.heap[g]?=some (.cells #[M,H,P,U,.bool p.fr] ty (0,0))/\Pr ty B (w2.setCell ⟨g,1,none⟩ H') g M H' P U { p with hs:=p.hs++[h] }/\Fx (Dm g M H P) (Dm g M H' P) w (w2.setCell ⟨g,1,none⟩ H'):=by
 obtain⟨N,n1,n2,n3,_⟩:=X.row;have kp:∀{t:Nat},t≠43->∀{k:Nat} {o:Array Value} {f:Nat×Nat},w.heap[k]?=some (.cells o t f)->w2.heap[k]?=w.heap[k]?:=by intro t ht k o f e;exact eF X.mx.hrt q ht e
 have hb:=(kp X.oU.2.1 X.blk).trans X.blk;have Y:=X.mx.ah8 o.1 q O;refine⟨hb,⟨X.oU,X.bg,by rw[hss hb];simp,⟨?_,?_,Y.ok⟩,?_,⟨N,n1,by have:=q.size;simp;omega,?_,fun h=>by rw[show p.fr=true from h]at hf;cases hf⟩,X.un⟩,?_⟩
 ·exact aj Y.mem fun k o f e=>dx hb X.oU.1.symm e
 ·exact aj Y.hrt fun k o f e=>dx hb X.oU.2.1.symm e
 ·refine⟨X.ok.m4,by show(p.hs++[h]).length<=4;rw[apo,apW];omega,fun k hk=>?_,X.ok.p3,X.ok.pk,fun h=>(by rw[show p.fr=true from h]at hf;cases hf),fun h=>by rw[show p.fr=true from h]at hf;cases hf⟩;rcases apR.1 hk with hk|hk
  ·exact X.ok.hok k hk
  ·rw[apE.1 hk];exact o
 ·exact aj (aj n3 fun k o f e=>kp (by decide) e) fun k o f e=>dx hb X.oU.2.2.symm e
 ·refine(Fx.grown q (fun k e=>.inr (.inr (.inl e))) (D':=Dm g M H' P) ?_).trans (Fx.set (.inl rfl));rintro k (h|h|h|h)
  ·exact .inl (.inl h)
  ·exact .inl (.inr (.inl h))
  ·rcases hat k h with h|h
   ·exact .inl (.inr (.inr (.inl h)))
   ·exact .inr h
  ·exact .inl (.inr (.inr (.inr h)))
theorem Pr.pkA {N:Nat}{s:Int×Int}(X:Pr ty B w g M H P U p)(n1:B<=N)(n2:N<=w.heap.size)(n3:w.ownsRow N 45 2 P p.ps.length (pC p.ps))(n4:p.fr=true->zV g N w U p.us)(hs:0<=s.1/\s.1<4294967296/\0<=s.2/\s.2<4294967296)(h4:p.ps.length+1<=300)(q:w.grownBy w2 P.ownBlock)(O:w2.ownsRow N 45 2 P' (p.ps.length+1) (pC p.ps++[.int .i64 s.1,.int .i64 s.2]))(hat:∀k,P'.ownBlock=some k->P.ownBlock=some k\/w.heap.size<=k):w2.heap[g]?=some (.cells #[M,H,P,U,.bool p.fr] ty (0,0))/\Pr ty B (w2.setCell ⟨g,2,none⟩ P') g M H P' U { p with ps:=p.ps++[s] }/\Fx (Dm g M H P) (Dm g M H P') w (w2.setCell ⟨g,2,none⟩ P'):=by
 have kp:∀{t:Nat},t≠45->∀{k:Nat} {o:Array Value} {f:Nat×Nat},w.heap[k]?=some (.cells o t f)->w2.heap[k]?=w.heap[k]?:=by intro t ht k o f e;exact eF n3 q ht e
 have hb:=(kp X.oU.2.2 X.blk).trans X.blk;have hz:=q.size;refine⟨hb,⟨X.oU,X.bg,by rw[hss hb];simp,X.mx.to fun k o t f ht e=>(dx hb (by rcases ht with rfl|rfl;exact X.oU.1.symm;exact X.oU.2.1.symm) ((kp (by rcases ht with rfl|rfl<;>decide) e).trans e)).trans (kp (by rcases ht with rfl|rfl<;>decide) e),?_,⟨N,n1,by simp;omega,?_,fun h=>(n4 h).step (by simp;omega) fun k hk hg=>(hso (by exact hg)).trans (q.block k (by omega) (fun e=>by have:=(n3.lt k e.symm).1;omega))⟩,X.un⟩,?_⟩
 ·refine⟨X.ok.m4,X.ok.h4,X.ok.hok,by show(p.ps++[s]).length<=300;rw[apo,apW];omega,fun r hr=>?_,X.ok.un,X.ok.ne⟩;rcases apR.1 hr with hr|hr
  ·exact X.ok.pk r hr
  ·rw[apE.1 hr];exact hs
 ·rw[apo,apW,U8];exact aj O fun k o f e=>dx hb X.oU.2.2.symm e
 ·refine(Fx.grown q (fun k e=>.inr (.inr (.inr e))) (D':=Dm g M H P') ?_).trans (Fx.set (.inl rfl));rintro k (h|h|h|h)
  ·exact .inl (.inl h)
  ·exact .inl (.inr (.inl h))
  ·exact .inl (.inr (.inr (.inl h)))
  ·rcases hat k h with h|h
   ·exact .inl (.inr (.inr (.inr h)))
   ·exact .inr h
theorem Pr.vM {k r x gh hc:Nat}(X:Pr ty B w g M (.slice (some ⟨gh,0,none⟩) p.hs.length hc) P U p)(hf:p.fr=false)(hk:k<p.hs.length)(h1:1<=r)(h2:r<=31)(hx:x<4294967296):Pr ty B (w.setCell ⟨gh,k*37+r,none⟩ (.int .u32 x)) g M (.slice (some ⟨gh,0,none⟩) p.hs.length hc) P U { p with hs:=p.hs.set k { hAt p k with regs:=(hAt p k).regs.set r x } }/\ Fx (Dm g M (.slice (some ⟨gh,0,none⟩) p.hs.length hc) P) (Dm g M (.slice (some ⟨gh,0,none⟩) p.hs.length hc) P) w (w.setCell ⟨gh,k*37+r,none⟩ (.int .u32 x)):=by
 obtain⟨N,n1,n2,n3,_⟩:=X.row;obtain⟨o1,o2⟩:=X.ok.hok _ (sP hk);have hg:p.hs[k]?=some (hAt p k):=by unfold hAt;rw[apV,api hk];rfl
 obtain⟨hb,Y⟩:=X.mx.set hg (show r<37 by omega) (yc o1 (show r<32 by omega) (x:Int)) (GH o1 o2 h1 h2 hx).1;have hh:∃o,w.heap[gh]?=some (.cells o 43 (0,0)):=by
  rcases X.mx.hrt.2 with⟨h0,_⟩|⟨k',cap,cur,hv,_,he,_⟩
  ·cases h0
  ·injection hv with hv;injection hv with hv;injection hv with hv;subst hv;exact⟨_,he⟩
 obtain⟨oh,he⟩:=hh;refine⟨⟨X.oU,X.bg,(dx he X.oU.2.1 X.blk).trans X.blk,Y,?_,⟨N,n1,by simpa using n2,aj n3 fun k o f e=>dx he (by decide) e,fun h=>by rw[show p.fr=true from h]at hf;cases hf⟩,X.un⟩,Fx.set (.inr (.inr (.inl rfl)))⟩;refine⟨X.ok.m4,by show(p.hs.set k _).length<=4;rw[ap6];exact X.ok.h4,fun h hm=>?_,X.ok.p3,X.ok.pk,fun h=>(by rw[show p.fr=true from h]at hf;cases hf),fun h=>by rw[show p.fr=true from h]at hf;cases hf⟩;rcases List.mem_or_eq_of_mem_set hm with hm|rfl
 ·exact X.ok.hok h hm
 ·exact GH o1 o2 h1 h2 hx
theorem Pr.Xw (X:Pr ty B w g M H P U p):∀i v,w.cell? ⟨g,i,none⟩=some v->∀z,v≠.int .u8 z/\v≠.int .u32 z:=by
 obtain⟨ma,mc,ha,hc,pa,pc,ua,un,uc,rfl,rfl,rfl,rfl,_⟩:=X.open;intro i v hv z;rw[cr X.blk]at hv
 match i,hv with
 |0,hv=>simp at hv;subst hv;simp
 |1,hv=>simp at hv;subst hv;simp
 |2,hv=>simp at hv;subst hv;simp
 |3,hv=>simp at hv;subst hv;simp
 |4,hv=>simp at hv;subst hv;simp
 |i+5,hv=>simp at hv
theorem Pr.ran {w1:World}{U':Value}{m':List UInt8}{hs':List Hv}{kF:List Uv}{fr':Bool}(X:Pr ty B w g M H P U p)(G:Gr w w1)(Q:Ch g w1 w2)(hb:w2.heap[g]?=some (.cells #[M',H',.slice none 0 0,U',.bool fr'] ty (0,0)))(Y:Mx w1 w.heap.size M' H' m' hs')(ok:lg ⟨m',hs',[],kF,fr'⟩)(hu:fr'=true->∃ua uc,U'=.slice ua kF.length uc/\kF.length<=uc/\Un w1 ua kF.length kF)(un:∃ua n uc,U'=.slice ua n uc):Pr ty B w2 g M' H' (.slice none 0 0) U' ⟨m',hs',[],kF,fr'⟩/\Fx (Dm g M H P) (Dm g M' H' (.slice none 0 0)) w w2:=by
 have X1:=X.gr G;have kp:∀{t:Nat},t≠ty->∀{k:Nat} {o:Array Value} {f:Nat×Nat},w1.heap[k]?=some (.cells o t f)->w2.heap[k]?=w1.heap[k]?:=by intro t ht k o f e;exact Q.block k (gs e).1 (fun h=>by injection h with h;exact aa e X1.blk ht h)
 have h1:=aj Y.mem fun k o f e=>kp X.oU.1.symm e
 have h2:=aj Y.hrt fun k o f e=>kp X.oU.2.1.symm e
 have up:∀{e sz n:Nat} {v:Value} {xs:List Value},w2.ownsRow w.heap.size e sz v n xs->w2.ownsRow B e sz v n xs:=fun h=>by
  rcases h with⟨a,b|⟨k,cap,cur,hv,hk,r⟩⟩
  ·exact⟨a,.inl b⟩
  ·exact⟨a,.inr ⟨k,cap,cur,hv,apr X.le hk,r⟩⟩
 refine⟨⟨X.oU,X.bg,hb,⟨up h1,up h2,Y.ok⟩,ok,⟨w1.heap.size,apr X.le G.size,Q.size,aur _ _ _ _,fun hf=>?_⟩,un⟩,?_⟩
 ·obtain⟨ua,uc,e,h3,h4⟩:=hu hf;exact⟨w1,ua,uc,e,h3,rfl,Q.size,h4,X1.Xw,fun k hk hg=>.inl (Q.block k hk (fun h=>by injection h with h;exact hg h))⟩
 ·refine⟨Q.os.trans G.os,Q.tape.trans G.tape,Q.output.trans G.output,apr G.size Q.size,fun k hk hd=>(Q.block k (apq hk G.size) (fun h=>by injection h with h;exact hd (.inl h))).trans (G.block k hk),?_⟩;rintro k (h|h|h|h)
  ·exact .inl (.inl h)
  ·exact .inr (Y.mem.lt k h).1
  ·exact .inr (Y.hrt.lt k h).1
  ·cases h
theorem Pr.aaY {w1:World}{m':List UInt8}{hs':List Hv}(X:Pr ty B w g M H P U p)(G:Gr w w1)(Q:Ch g w1 w2)(hb:w2.heap[g]?=some (.cells #[M',H',P,U,.bool false] ty (0,0)))(Y:Mx w1 w.heap.size M' H' m' hs')(ok:lg { p with m:=m',hs:=hs',fr:=false }):Pr ty B w2 g M' H' P U { p with m:=m',hs:=hs',fr:=false }/\Fx (Dm g M H P) (Dm g M' H' P) w w2:=by
 have X1:=X.gr G;obtain⟨N,n1,n2,n3,_⟩:=X1.row;have kp:∀{t:Nat},t≠ty->∀{k:Nat} {o:Array Value} {f:Nat×Nat},w1.heap[k]?=some (.cells o t f)->w2.heap[k]?=w1.heap[k]?:=by intro t ht k o f e;exact Q.block k (gs e).1 (fun h=>by injection h with h;exact aa e X1.blk ht h)
 have h1:=aj Y.mem fun k o f e=>kp X.oU.1.symm e
 have h2:=aj Y.hrt fun k o f e=>kp X.oU.2.1.symm e
 have up:∀{e sz n:Nat} {v:Value} {xs:List Value},w2.ownsRow w.heap.size e sz v n xs->w2.ownsRow B e sz v n xs:=fun h=>by
  rcases h with⟨a,b|⟨k,cap,cur,hv,hk,r⟩⟩
  ·exact⟨a,.inl b⟩
  ·exact⟨a,.inr ⟨k,cap,cur,hv,apr X.le hk,r⟩⟩
 refine⟨⟨X.oU,X.bg,hb,⟨up h1,up h2,Y.ok⟩,ok,⟨N,n1,apr n2 Q.size,aj n3 fun k o f e=>kp X.oU.2.2.symm e,fun hf=>by cases hf⟩,X.un⟩,?_⟩;refine⟨Q.os.trans G.os,Q.tape.trans G.tape,Q.output.trans G.output,apr G.size Q.size,fun k hk hd=>(Q.block k (apq hk G.size) (fun h=>by injection h with h;exact hd (.inl h))).trans (G.block k hk),?_⟩;rintro k (h|h|h|h)
 ·exact .inl (.inl h)
 ·exact .inr (Y.mem.lt k h).1
 ·exact .inr (Y.hrt.lt k h).1
 ·exact .inl (.inr (.inr (.inr h)))
end Vp
end Go.Proofs.YtiadhbmnfjfioaaGreatDoor
