/- ours -/
import Derived.Test.YtiadhbmnfjfioaaGreatDoorX12
set_option linter.unusedVariables false
set_option linter.unusedSimpArgs false
set_option maxHeartbeats 8000000
set_option maxRecDepth 100000
set_option linter.unusedSectionVars false
namespace Go.Proofs.YtiadhbmnfjfioaaGreatDoor
open Go.Proofs.Tryz hiding cs t1 t2 t3 t4 t5
open Go.ChangeShapes Go.WideShapes Go.ChangeAt Go.RowKit
variable{K:Act->World->Prop}{ops:Array Oper}{Y:Array Value}{fn:Func}{ls ps:List (Int×Int)}{rest:List Oper}{l m:List UInt8}{cs x xs rs:List Value}{j base e sz c n b ty k ub mn hn pn:Nat}{f:Nat×Nat}{o:Oper}{a ma ha pa:Option Addr}{P:Program}{E:Prop}{v:Value}{w:World}{p:World->Prop}
variable [Inhabited Hc.bN]
namespace Ud
open Mm Hh Hc Mc
variable{w w':World}{u:Uv}{b l:Value}{ao:Option Addr}{n:Nat}
def uL (u:Uv) (b l:Value):List Value:=.int .i64 u.k::(hL u.was++[.int .u32 u.fr,b,l])
theorem oN (o:u.was.Ok):(uL u b l).length=41:=by simp[uL,aD o]
theorem q9 (o:u.was.Ok)(hj:j<37):(uL u b l)[1+j]?=(hL u.was)[j]?:=by have:=aD o;unfold uL;rw[Nat.add_comm,apI,apA ab]
theorem eO (o:u.was.Ok)(j:Nat):(uL u b l)[38+j]?=[Value.int .u32 u.fr,b,l][j]?:=by have h:=aD o;unfold uL;rw[show 38+j=37+j+1 by omega,apI,apv ab,h,aqJ]
theorem aaD (h:Hv):∀v∈hL h,v.oneCell'=true:=fun v hv=>by simp only[hL,apR,apK,apx,apB,auw]at hv;rcases hv with⟨n,_,rfl⟩|rfl|rfl|rfl|rfl|rfl<;>rfl
theorem O9 (h1:b.oneCell'=true)(h2:l.oneCell'=true):∀v∈uL u b l,v.oneCell'=true:=fun v hv=>by
 simp only[uL,apx,apR,apB,auw]at hv;rcases hv with rfl|h|rfl|rfl|rfl
 ·rfl
 ·exact aaD _ v h
 ·rfl
 ·exact h1
 ·exact h2
theorem Pm (h1:b.oneCell'=true)(h2:l.oneCell'=true):(uL u b l).toArray.all (·.oneCell')=true:=auE (O9 h1 h2)
theorem iU:(prog.info? 121).map (·.size)=some 41:=al
def h00:Uv:=⟨0,h0,0,[],[]⟩
theorem zU:(prog.info? 121).bind (·.zero)=some (.agg (uL h00 ax ax).toArray):=al
theorem wz:(prog.info? 121).map (fun i=>(i.zero,i.size,i.bytes))=some (some (.agg (uL h00 ax ax).toArray),41,224):=al
theorem oO {b o:Nat}(h:w.rangeAt b o cs)(hb:b<w.heap.size)(G:Gr w w'):w'.rangeAt b o cs:=fun j v hv=>(G.cell _ (by exact hb)).trans (h j v hv)
def lsI (ls:List (Int×Int)):List Value:=ls.flatMap fun q=>[.int .i64 q.1,.int .u32 q.2]
theorem JV (ls:List (Nat×Int)):lsI (gF ls)=Bi ls:=by
 induction ls with
 |nil=>rfl
 |cons q r ih=>simp only[lsI,gF,Bi,aqo,apL]at ih ⊢;rw[ih]
theorem GQ:∀(ls:List (Int×Int)) (i:Nat) (q:Int×Int),ls[i]?=some q→(lsI ls)[i*2]?=some (.int .i64 q.1)∧(lsI ls)[i*2+1]?=some (.int .u32 q.2)
 | [],i,q,h=>by simp at h
 |p::r,0,q,h=>by simp at h;subst h;exact⟨rfl,rfl⟩
 |p::r,i+1,q,h=>by
  have ih:=GQ r i q (by simpa using h);have e:lsI (p::r)=[.int .i64 p.1,.int .u32 p.2]++lsI r:=rfl;rw[e,apv aE,apv aE];simp only[apH,ap8];rw[show(i+1)*2-(0+1+1)=i*2 by omega,show(i+1)*2+1-(0+1+1)=i*2+1 by omega];exact ih
structure Ls (w:World) (ao:Option Addr) (n:Nat) (ls:List (Int×Int)):Prop where
 len:ls.length=n
 spot:0<n->∃b o,ao=some ⟨b,o,none⟩/\b<w.heap.size/\∀i p,ls[i]?=some p->w.cell? ⟨b,o+i*2,none⟩=some (.int .i64 p.1)/\w.cell? ⟨b,o+i*2+1,none⟩=some (.int .u32 p.2)
theorem Ls.of (h:Ls w ao n ls)(g:Gr w w'):Ls w' ao n ls:=
 ⟨h.len,fun hn=>by
  obtain⟨b,o,e,hb,hc⟩:=h.spot hn;exact⟨b,o,e,apq hb g.size,fun i q hq=>⟨(g.cell _ (by exact hb)).trans (hc i q hq).1,(g.cell _ (by exact hb)).trans (hc i q hq).2⟩⟩⟩
def Uc (w:World) (u:Uv) (x:List Value):Prop:=∃ba bn bc la ln lc,x=uL u (.slice ba bn bc) (.slice la ln lc)/\u.Ok/\(-9223372036854775808<=u.k/\u.k<=9223372036854775807)/\(∀q∈u.lost, -9223372036854775808<=q.1/\q.1<=9223372036854775807)/\Mem w ba bn u.bs/\Ls w la ln u.lost/\bn<=140737488351232/\ln<=8796093022208
theorem Uc.of {x:List Value}(h:Uc w u x)(G:Gr w w'):Uc w' u x:=by obtain⟨ba,bn,bc,la,ln,lc,e,o,k1,k2,M,L,b1,b2⟩:=h;exact⟨ba,bn,bc,la,ln,lc,e,o,k1,k2,M.of G,L.of G,b1,b2⟩
theorem Uc.len (h:Uc w u x):x.length=41:=by obtain⟨ba,bn,bc,la,ln,lc,rfl,o,_⟩:=h;exact oN o.was
theorem Uc.one (h:Uc w u x):x.toArray.all (·.oneCell')=true:=by obtain⟨ba,bn,bc,la,ln,lc,rfl,o,_⟩:=h;exact Pm rfl rfl
structure Us (w:World) (ao:Option Addr) (n:Nat) (us:List Uv):Prop where
 len:us.length=n
 spot:0<n->∃b o,ao=some ⟨b,o,none⟩/\b<w.heap.size/\∀j u,us[j]?=some u->∃x,Uc w u x/\w.rangeAt b (o+j*41) x
theorem Us.of {us:List Uv}(h:Us w ao n us)(G:Gr w w'):Us w' ao n us:=
 ⟨h.len,fun hn=>by
  obtain⟨b,o,e,hb,hc⟩:=h.spot hn;refine⟨b,o,e,apq hb G.size,fun j u hj=>?_⟩;obtain⟨x,h1,h2⟩:=hc j u hj;exact⟨x,h1.of G,oO h2 hb G⟩⟩
def Uo (w:World) (u:Uv) (x:List Value):Prop:=∃M L,x=uL u M L/\Hc.Own w Hc.mb M u.bs/\w.ownsRow Hc.mb 159 2 L u.lost.length (lsI u.lost)
def Ky (w w':World):Prop:=∀(k:Nat) (o:Array Value) (t:Nat) (f:Nat×Nat),(t=5\/t=159)->w.heap[k]?=some (.cells o t f)->w'.heap[k]?=w.heap[k]?
theorem Ky.bD (G:Gr w w'):Ky w w':=fun k o t f _ h=>G.block _ (gs h).1
theorem Uo.to {x:List Value}(h:Uo w u x)(q:Ky w w'):Uo w' u x:=by obtain⟨M,L,e,h1,h2⟩:=h;exact⟨M,L,e,h1.to fun k o f hk=>q k o _ f (.inl rfl) hk,aj h2 fun k o f hk=>q k o _ f (.inr rfl) hk⟩
theorem Uo.one (h:Uo w u x):∀v∈x,v.oneCell'=true:=by obtain⟨M,L,rfl,h1,h2⟩:=h;obtain⟨a,c,rfl,_⟩:=h1.mem;exact O9 rfl (az h2).2.1
structure Ux (w:World) (us:List Uv) (xs:List Value):Prop where
 len:xs.length=us.length*41
 at_:∀(j:Nat) (u:Uv),us[j]?=some u->∃x,Uo w u x/\x.length=41/\∀i v,x[i]?=some v->xs[j*41+i]?=some v
theorem Ux.nil (w:World):Ux w [] []:=⟨rfl,fun j u h=>by simp at h⟩
theorem Ux.to {us:List Uv}{xs:List Value}(h:Ux w us xs)(q:Ky w w'):Ux w' us xs:=
 ⟨h.len,fun j u hj=>by
  obtain⟨x,h1,h2⟩:=h.at_ j u hj;exact⟨x,h1.to q,h2⟩⟩
theorem Ux.snoc {us:List Uv}(h:Ux w us xs)(k:Uo w u x)(hx:x.length=41):Ux w (us++[u]) (xs++x):=by
 have hl:=h.len;refine⟨by rw[apo,apo,hl,hx];simp;omega,fun j c hc=>?_⟩;by_cases hj:j<us.length
 ·rw[apA hj]at hc;obtain⟨y,h1,h2,h3⟩:=h.at_ j c hc;refine⟨y,h1,h2,fun i v hi=>?_⟩;have:i<41:=by have:=(apj.1 hi).1;omega
  rw[apA ab];exact h3 i v hi
 ·rw[apv ab]at hc;have hj2:j=us.length:=by
   have:=(apj.1 hc).1;simp at this;omega
  subst hj2;simp at hc;subst hc;refine⟨x,k,hx,fun i v hi=>?_⟩;rw[apv ab,hl,aqJ];exact hi
theorem nD (h:w.ownsRow base e sz (.slice a n c) n xs)(hn:0<n):∃g,a=some ⟨g,0,none⟩/\g<w.heap.size/\∀j v,xs[j]?=some v->w.cell? ⟨g,j,none⟩=some v:=by
 rcases h.2 with⟨e0,hz⟩|⟨g,cap,cur,e1,_,hg,_,_,_,ht⟩
 ·omega
 ·injection e1 with e1 _ _;refine⟨g,e1,(gs hg).1,fun j v hj=>?_⟩;rw[cr hg];rw[<-ht,apS]at hj;split at hj
  ·simpa using hj
  ·cases hj
theorem Uo.uc (h:Uo w u x)(o:u.Ok)(k1 : -9223372036854775808<=u.k/\u.k<=9223372036854775807)(k2:∀q∈u.lost, -9223372036854775808<=q.1/\q.1<=9223372036854775807)(b1:u.bs.length<=4096)(b2:u.lost.length<=4096):Uc w u x:=by obtain⟨M,L,rfl,h1,h2⟩:=h;obtain⟨ba,bc,rfl,M1⟩:=h1.mem;obtain⟨_,_,la,lc,rfl⟩:=az h2;refine⟨ba,_,bc,la,_,lc,rfl,o,k1,k2,M1,⟨rfl,fun hn=>?_⟩,ab,ab⟩;obtain⟨g,rfl,hg,hr⟩:=nD h2 hn;refine⟨g,0,rfl,hg,fun i p hp=>?_⟩;have:=GQ _ _ _ hp;rw[apu];exact⟨hr _ _ this.1,hr _ _ this.2⟩
theorem Ux.us {us:List Uv}{xs:List Value}{base c:Nat}{a:Option Addr}(h:Ux w us xs)(r:w.ownsRow base 121 41 (.slice a n c) n xs)(hl:us.length=n)(ok:∀u∈us,u.Ok/\(-9223372036854775808<=u.k/\u.k<=9223372036854775807)/\(∀q∈u.lost, -9223372036854775808<=q.1/\q.1<=9223372036854775807)/\u.bs.length<=4096/\u.lost.length<=4096):Us w a n us:=
 ⟨hl,fun hn=>by
  obtain⟨g,e,hg,hr⟩:=nD r hn;refine⟨g,0,e,hg,fun j u hj=>?_⟩;obtain⟨x,h1,h2,h3⟩:=h.at_ j u hj;obtain⟨o,k1,k2,b1,b2⟩:=ok u (aps hj);exact⟨x,h1.uc o k1 k2 b1 b2,fun i v hi=>by rw[apu];exact hr _ _ (h3 i v hi)⟩⟩
def UsL (w:World) (lo:Nat) (ao:Option Addr) (n:Nat):Prop:=∀b o,ao=some ⟨b,o,none⟩->∀j,j<n->lo<=b/\(∀ba bn bc,w.cell? ⟨b,o+j*41+39,none⟩=some (.slice ba bn bc)->∀ad,ba=some ad->lo<=ad.block)/\(∀la ln lc,w.cell? ⟨b,o+j*41+40,none⟩=some (.slice la ln lc)->∀ad,la=some ad->lo<=ad.block)
theorem GR {m lo:Nat}(h:w.ownsRow base e sz (.slice a n c) m xs)(hl:lo<=base):∀ad,a=some ad->lo<=ad.block:=by
 intro ad e;rcases h.2 with⟨q,_⟩|⟨g,cap,cur,q,hb,_⟩
 ·injection q with q;rw[e]at q;cases q
 ·injection q with q;rw[e]at q;injection q with q;subst q;exact apr hl hb
theorem Ux.usl {us:List Uv}(h:Ux w us xs)(r:w.ownsRow base 121 41 (.slice a n c) n xs)(hl:us.length=n)(ok:∀u∈us,u.was.Ok)(hb:Hc.mb<=base):UsL w Hc.mb a n:=by
 intro b o e j hj;obtain⟨g,e2,_,hr⟩:=nD r ab;have hlo:=GR r hb _ e;rw[e]at e2;injection e2 with e2;injection e2 with e3 e4;subst e3 e4;have hu:us[j]?=some us[j]:=api ab;obtain⟨x,⟨M,L,rfl,h1,hL⟩,h2,h3⟩:=h.at_ j _ hu;have h4:=hr _ _ (h3 39 M (by have:=eO (u:=us[j]) (b:=M) (l:=L) (ok _ (aps hu)) 1;simpa using this));have h5:=hr _ _ (h3 40 L (by have:=eO (u:=us[j]) (b:=M) (l:=L) (ok _ (aps hu)) 2;simpa using this));rw[apu];refine⟨hlo,fun ba bn bc hc ad hb=>?_,fun la ln lc hc ad hb=>?_⟩
 ·rw[h4]at hc;injection hc with hc;subst hc hb;rcases h1 with⟨h1,_⟩|⟨k,cap,h1,⟨h6,_⟩,_⟩
  ·injection h1 with h1;cases h1
  ·injection h1 with h1;injection h1 with h1;subst h1;exact h6
 ·rw[h5]at hc;injection hc with hc;subst hc;exact GR hL (apn _) ad hb
end Ud
namespace Ud
open Mm Hh Hc Mc
variable{a:Act}{u:Uv}
theorem EK {h:Hv}(o:h.Ok)(k:Int):prog.built 121 [(0,.int .i64 k),(1,.agg (hL h).toArray)]=some (uL ⟨k,h,0,[],[]⟩ ax ax).toArray:=by
 obtain⟨it,hi,hz⟩:=ko zU;have hp:∀fs,prog.underlying 121=some (.struct fs)->fs.toList.mapM (fun f=>(prog.info? f.type).map fun i=>(f.offset,i.size))=some [(0,1),(1,37),(38,1),(39,1),(40,1)]:=fun fs e=>by
  rw[underlying121]at e;injection e with e;injection e with e;subst e
  kernel_rfl
 have ls:=aD o;have z1:(uL h00 ax ax).toArray.size=41:=by simp[oN (u:=h00) iO]
 unfold Program.built;simp only[hi,underlying121,hz,hp _ underlying121];unfold Instr.fill;simp only[apm,apw];have e0:(Value.int .i64 k).cells=#[.int .i64 k]:=rfl;have e1:(Value.agg (hL h).toArray).cells=(hL h).toArray:=rfl;have e2:(Value.agg (uL h00 ax ax).toArray).cells=(uL h00 ax ax).toArray:=rfl;rw[e0,e2,at6 (by simp[oN (u:=h00) iO]),lX];unfold Instr.fill;simp only[apm,apI,apw];rw[e1,at6 (by simp[ls,oN (u:=h00) iO])];unfold Instr.fill;refine congrArg some ?_;apply aqC;intro i;have a1:=iA 1 (hL h).toArray ((uL h00 ax ax).toArray.setIfInBounds 0 (.int .i64 k));rw[a1.2 i];simp only[ap4,z1,ap2,ls];by_cases hi2:1<=i/\i<38
 ·rw[dU];obtain⟨j,rfl⟩:∃j,i=1+j:=⟨i-1,ab⟩;rw[apm,apm,q9 (u:=⟨k,h,0,[],[]⟩) o ab,aqJ]
 ·rw[ak,arf];by_cases h0':i=0
  ·subst h0';rw[at7 rfl,at7 (by rw[z1];omega)];rfl
  ·rw[at6 (fun e=>h0' e.symm)];obtain⟨j,rfl⟩:∃j,i=38+j:=⟨i-38,ab⟩;rw[apm,apm,eO (u:=h00) iO,eO (u:=⟨k,h,0,[],[]⟩) o];rfl
theorem Pn {A Z:Array Value}(hA:A.size=n)(hZ:Z.size=n):Instr.fill (fun i=>some (i*n,n)) Z [(0,.agg A)]=some A:=by
 unfold Instr.fill;simp only[aqI];have e1:(Value.agg A).cells=A:=rfl;rw[e1,at6 (by simp[hA,hZ])];unfold Instr.fill;refine congrArg some ?_;apply aqC;intro i;have a1:=iA 0 A Z;rw[a1.2 i];by_cases hi:i<n
 ·rw[dU];simp
 ·rw[ak,Array.getElem?_eq_none ab,Array.getElem?_eq_none ab]
theorem mH {ops:Array Oper}{Q:Exit→Act→World→Prop}{E:Prop}(hg:o.guard=none)(t e:TypeId)(x:Operand)(ho:o.op=.buildSlice t 1 #[(0,x)])(A:Array Value)(n:Nat)(hx:a.eval x=.agg A)(hA:A.size=n)(hu:P.underlying t=some (.slice e))(hi:(P.info? e).map (fun i=>(i.zero.isSome,i.size))=some (true,n))(h0:0<n)(hn:n<=1000)(h:K (a.put o.dst (.slice (some ⟨w.heap.size,0,none⟩) 1 1)) (w.alloc (.cells A e))):if Region.wanted o (yielded ops a.tmps)=true then Oper.wp P o a w K Q else E:=by
 rw[at7 (by simp[Region.wanted,hg])];cases hie:P.info? e with
 |none=>simp[hie]at hi
 |some ie=>
  simp only[hie,ap7,auj,auX]at hi;obtain⟨hz,hs⟩:=hi;obtain⟨z,hzz⟩:=Option.isSome_iff_exists.1 hz;refine wp_buildSlice t e 1 _ ho A ie z hu hie hzz (by rw[hs];omega) (by rw[hs];omega) ?_ h;simp only[List.map_toArray,aqo,aru,hx,hs,Nat.one_mul];exact Pn hA aq
theorem vS {Q:Exit→Act→World→Prop}(hg:o.guard=none)(t e:TypeId)(x:Operand)(ho:o.op=.buildSlice t 1 #[(0,x)])(A:Array Value)(n:Nat)(hx:a.eval x=.agg A)(hA:A.size=n)(hu:P.underlying t=some (.slice e))(hi:(P.info? e).map (fun i=>(i.zero.isSome,i.size))=some (true,n))(h0:0<n)(hn:n<=1000)(h:wpList P ops Q rest (a.put o.dst (.slice (some ⟨w.heap.size,0,none⟩) 1 1)) (w.alloc (.cells A e))):wpList P ops Q (o::rest) a w:=
 au5 hg fun K hK=>by
  have:=mH (ops:=#[]) (E:=True) (Q:=Q) hg t e x ho A n hx hA hu hi h0 hn (hK _ _ h);rwa[at7 (by simp[Region.wanted,hg])]at this
theorem iUz:(prog.info? 121).map (fun i=>(i.zero.isSome,i.size))=some (true,41):=al
theorem Po {u:Uv}{b l:Value}(o:u.was.Ok)(f:Int):(uL u b l).toArray.setIfInBounds 38 (.int .u32 f)=(uL { u with fr:=f } b l).toArray:=by have:=aD o;unfold uL;rw[apl,apy,apJ _ _ ab,this];rfl
theorem Pq {u:Uv}{b l b':Value}(o:u.was.Ok):(uL u b l).toArray.setIfInBounds 39 b'=(uL u b' l).toArray:=by have:=aD o;unfold uL;rw[apl,apy,apJ _ _ ab,this];rfl
theorem Pt {u:Uv}{b l l':Value}(o:u.was.Ok):(uL u b l).toArray.setIfInBounds 40 l'=(uL u b l').toArray:=by have:=aD o;unfold uL;rw[apl,apy,apJ _ _ ab,this];rfl
structure Rw (w:World) (base g:Nat) (M:Value) (gh hc:Nat) (O U:Value) (xs:List Value) (s:Sh) (us:List Uv):Prop where
 bw:Bw 88 [U] w base g M gh hc O s
 row:w.ownsRow base 121 41 U us.length xs
 ux:Ux w us xs
def Rc (w:World) (base g:Nat) (s:Sh) (us:List Uv):Prop:=∃M gh hc O U xs,Rw w base g M gh hc O U xs s us
structure Fk (base:Nat) (w w':World):Prop where
 below:Below base w w'
 keep:∀(k:Nat) (q:Array Value) (t:Nat) (f:Nat×Nat),w.heap[k]?=some (.cells q t f)->t≠88->t≠43->t≠37->t≠121->w'.heap[k]?=w.heap[k]?
section
variable{w w' a b c:World}{base g gh hc:Nat}{M O U:Value}{xs:List Value}{s:Sh}{us:List Uv}
theorem Fk.trans (h:Fk base a b)(k:Fk base b c):Fk base a c:=⟨h.below.trans k.below,fun i q t f e t1 t2 t3 t4=>(k.keep i q t f ((h.keep i q t f e t1 t2 t3 t4).trans e) t1 t2 t3 t4).trans (h.keep i q t f e t1 t2 t3 t4)⟩
theorem Fk.bD (G:Gr w w')(hb:base<=w.heap.size):Fk base w w':=⟨aun G hb,fun i q t f e _ _ _ _=>G.block i (gs e).1⟩
theorem Fk.ahK (F:Fe 88 base w w'):Fk base w w':=⟨F.below,fun i q t f e t1 t2 t3 _=>F.cells e t1 t2 t3⟩
theorem Fk.set (h:Fk base a w)(hy:w.heap[g]?=some (.cells Y ty f))(ht:ty=88\/ty=121)(hg:base<=g)(i:Nat)(v:Value):Fk base a (w.setCell ⟨g,i,none⟩ v):=⟨auS h.below (by exact hg) _,fun k q t f' e t1 t2 t3 t4=>by
 have e1:=h.keep k q t f' e t1 t2 t3 t4;rw[hso (by exact aa (e1.trans e) hy (by rcases ht with rfl|rfl<;>assumption))];exact e1⟩
theorem Fk.row {k:Nat}{q:Array Value}{t:Nat}{f:Nat×Nat}(h:Fk base w w')(e:w.heap[k]?=some (.cells q t f))(t1:t≠88)(t2:t≠43)(t3:t≠37)(t4:t≠121):w'.heap[k]?=some (.cells q t f):=(h.keep k q t f e t1 t2 t3 t4).trans e
theorem Fk.grown {n:Nat}(hO:w.ownsRow base 121 41 U n xs)(q:w.grownBy w' U.ownBlock)(hb:base<=w.heap.size):Fk base w w':=⟨(auC base w).grown q hb fun k e=>(hO.lt k e).1,fun k o t f e _ _ _ t4=>eF hO q t4 e⟩
theorem Rw.of (R:Rw w base g M gh hc O U xs s us)(G:Gr w w'):Rw w' base g M gh hc O U xs s us:=⟨R.bw.of G,aC R.row G,R.ux.to (Ky.bD G)⟩
theorem Rc.of (R:Rc w base g s us)(G:Gr w w'):Rc w' base g s us:=by obtain⟨M,gh,hc,O,U,xs,R⟩:=R;exact⟨M,gh,hc,O,U,xs,R.of G⟩
theorem aaF (B:Bw 88 rs w base g M gh hc O s)(q:∀(k:Nat) (o:Array Value) (t:Nat) (f:Nat×Nat),t≠121->w.heap[k]?=some (.cells o t f)->w'.heap[k]?=w.heap[k]?):Bw 88 rs w' base g M gh hc O s:=⟨B.t1,B.t2,B.t3,B.bg,(q _ _ _ _ an B.blk).trans B.blk,B.mem.to fun k o f e=>q k o _ f an e,B.bh,B.row.to fun k o f e=>q k o _ f an e,aj B.out fun k o f e=>q k o _ f an e,⟨B.hz.1.to fun k o f e=>q k o _ f an e,B.hz.2⟩⟩
theorem Rw.take (R:Rw w base g M gh hc O U xs s us){s':Sh}(B:Bd 88 [U] w' base g s')(F:Fe 88 base w w'):∃M' gh' hc' O',Rw w' base g M' gh' hc' O' U xs s' us:=by obtain⟨M',gh',hc',O',B⟩:=B;exact⟨M',gh',hc',O',B,aj R.row fun k o f e=>F.cells e an an an,R.ux.to fun k o t f ht e=>F.cells e (by rcases ht with rfl|rfl<;>decide) (by rcases ht with rfl|rfl<;>decide) (by rcases ht with rfl|rfl<;>decide)⟩
theorem Rw.put (R:Rw w base g M gh hc O U xs s us)(hu:Uo w u x)(hx:x.length=41)(hn:n=us.length+1)(hown:w'.ownsRow base 121 41 v n (xs++x))(q:w.grownBy w' U.ownBlock):w'.cell? ⟨g,4,none⟩=some U/\w'.frozen? ⟨g,4,none⟩=false/\Rc (w'.setCell ⟨g,4,none⟩ v) base g s (us++[u])/\Fk base w (w'.setCell ⟨g,4,none⟩ v):=by
 have st:∀(k:Nat) (o:Array Value) (t:Nat) (f:Nat×Nat),t≠121->w.heap[k]?=some (.cells o t f)->w'.heap[k]?=w.heap[k]?:=fun k o t f ht e=>eF R.row q ht e
 have B1:=aaF R.bw st;have B2:=B1.vM 0 v;have nx:∀(k:Nat) (o:Array Value) (t:Nat) (f:Nat×Nat),t≠88->w'.heap[k]?=some (.cells o t f)->(w'.setCell ⟨g,4,none⟩ v).heap[k]?=w'.heap[k]?:=fun k o t f ht e=>hso (by exact aa e B1.blk ht)
 have ky:Ky w (w'.setCell ⟨g,4,none⟩ v):=fun k o t f ht e=>by
  have e1:=st k o t f (by rcases ht with rfl|rfl<;>decide) e;exact(nx k o t f (by rcases ht with rfl|rfl<;>decide) (e1.trans e)).trans e1
 refine⟨B1.rest 0,B1.fz 4,⟨M,gh,hc,O,v,xs++x,B2,?_,(R.ux.to ky).snoc (hu.to ky) hx⟩,(Fk.grown R.row q R.bw.ay).set B1.blk (.inl rfl) R.bw.bg 4 v⟩;have:=aj hown fun k o f e=>nx k o _ f an e
 rw[apo,apW,<-hn];exact this
end
theorem JW {x:World}(F:World->Prop)(hF:F x)(h:∀y,F y->p y):p x:=h x hF
theorem szC (w:World)(p:Addr)(v:Value):(w.setCell p v).heap.size=w.heap.size:=aq
structure One (P:Prop):Prop where
 out:P
theorem Pv {P Q:Prop}(h:One P->Q)(p:P):Q:=h ⟨p⟩
theorem Xr (T:TT w b)(h:b<=n):TT w n:=⟨T.tab,⟨T.tb.sizes,T.tb.opers,apq T.tb.b1 h,apq T.tb.b2 h⟩,apq T.b1 h,apq T.b2 h⟩
theorem uX {w':World}(T:TT w b)(h:Below b w w'):TT w' b:=⟨⟨fun i n e=>(auJ h (by exact T.b1)).trans (T.tab.shapes i n e),fun i n e=>(auJ h (by exact T.b2)).trans (T.tab.uppers i n e)⟩,⟨fun i n e=>(auJ h (by exact T.tb.b1)).trans (T.tb.sizes i n e),fun i n e=>(auJ h (by exact T.tb.b2)).trans (T.tb.opers i n e),T.tb.b1,T.tb.b2⟩,T.b1,T.b2⟩
end Ud
namespace Ud
open Mm Hh Hc Mc
variable{s:Sh}
theorem aaG (h:(at' s k).state=0):wk (w0 s k) 1=FV (w0 s k):=uk (x:=w0 s k) h 0
theorem aaH (hk:k<s.hs.length)(h:(at' s k).state=0):tk s k (wk (w0 s k) 1)=bW s k:=by rw[<-pO hk 1];unfold runs;rw[at7 h];rfl
theorem aaI (h:(at' s k).state=0):(wk (w0 s k) 1).av=(dV (at' s k) s.m).av:=by rw[aaG h];rfl
def Done (w:World) (ub:Nat) (u:Uv):Prop:=∃x:List Value,x.length=41/\w.heap[ub]?=some (.cells x.toArray 121 (0,0))/\Uo w u x
def Nu (w w':World):Prop:=w.heap.size<=w'.heap.size/\∀(k:Nat) (o:Array Value) (t:Nat) (f:Nat×Nat),t≠121->w.heap[k]?=some (.cells o t f)->w'.heap[k]?=w.heap[k]?
theorem Nu.refl (w:World):Nu w w:=⟨apn _,fun _ _ _ _ _ _=>rfl⟩
theorem Nu.trans {a b c:World}(h:Nu a b)(k:Nu b c):Nu a c:=⟨apr h.1 k.1,fun i o t f ht e=>(k.2 i o t f ht ((h.2 i o t f ht e).trans e)).trans (h.2 i o t f ht e)⟩
theorem Nu.gr {a b:World}(G:Gr a b):Nu a b:=⟨G.size,fun k o t f _ e=>G.block _ (gs e).1⟩
theorem Nu.row {a b:World}(h:Nu a b){k:Nat}{o:Array Value}{t:Nat}{f:Nat×Nat}(e:a.heap[k]?=some (.cells o t f))(ht:t≠121):b.heap[k]?=some (.cells o t f):=(h.2 k o t f ht e).trans e
theorem Nu.set {a b:World}(h:Nu a b)(hy:b.heap[ub]?=some (.cells Y 121 f))(i:Nat)(v:Value):Nu a (b.setCell ⟨ub,i,none⟩ v):=⟨by simpa using h.1,fun k o t f' ht e=>by
 have e1:=h.2 k o t f' ht e;rw[hso (by exact aa (e1.trans e) hy ht)];exact e1⟩
theorem Dq.nu {a b:World}{d:Qv}{x:Wk}(D:Dq a n d x)(h:Nu a b):Dq b n d x:=⟨D.hh,D.n,D.mem.to fun k o f e=>h.2 k o _ f an e,aj D.out fun k o f e=>h.2 k o _ f an e,aj D.av fun k o f e=>h.2 k o _ f an e⟩
theorem UY {o f c:Nat}(M:Mem w (some ⟨b,o,none⟩) n l)(h:f+c<=n):Mem w (some ⟨b,o+f,none⟩) c ((l.drop f).take c):=by
 have hl:=M.len;refine Mem.at aE fun t ht=>?_
 have:=M.cell _ rfl (f+t) ab;rw[cz]at this;rw[aqU,this];unfold bv;simp only[List.getD,apS,ap3,ht,if_true]
theorem uD {b':Nat}(h:w.ownsRow b e sz v n xs)(hb:b'<=b):w.ownsRow b' e sz v n xs:=by
 obtain⟨h1,h2⟩:=h;refine⟨h1,?_⟩;rcases h2 with h2|⟨g,cp,cur,e1,e2,e3⟩
 ·exact .inl h2
 ·exact .inr ⟨g,cp,cur,e1,ab,e3⟩
theorem Pw {g:Nat}{us:List Uv}(R:Rc w base g s us)(T:TT w base)(F:Fit s c mn)(lU:mn<=4096)(hk:k<c)(hc4:c<=4)(hst:(at' s k).state=0)(hus:us.length<=200000)(hout:s.out.length<=200000)(hstp:s.steps<=200000):Calls prog 56 #[.pointer (some ⟨g,0,none⟩),.int .i64 k] w fun e w'=>e=.returned (.tuple #[])/\Rc w' base g (bW s k) (us++[eH s k])/\Fk base w w':=by
 obtain⟨M,gh,hc,O,U,xs,R⟩:=R;have hl:k<s.hs.length:=by rw[F.len];exact hk
 have eh:s.hs[k]?=some (at' s k):=by unfold at';rw[api hl];simp[List.getD,hl]
 have jM:=(F.ok _ (dH eh)).1;have hbb:=R.bw.ay;have HR:=kH R;have HTT:=kH (Xr T hbb);have RG:=kH (R.bw.row.range eh);have k1:w.cell? ⟨g,1,none⟩=some (.slice (some ⟨gh,0,none⟩) c hc):=by have:=R.bw.c1;rw[F.len]at this;exact this
 have rH:=kH (aD jM);have zR:Hid (at' s k).Ok:=jM;have Na:=kH (EK jM k);have aei:Hid ((uL ⟨k,at' s k,0,[],[]⟩ ax ax).length=41):=oN (u:=⟨k,at' s k,0,[],[]⟩) jM;have aej:Hid ((uL ⟨k,at' s k,0,[],[]⟩ ax ax).toArray.all (·.oneCell')=true):=Pm rfl rfl;have HWk:Hid (∀W:World,Gr w W->_):=fun W G=>Ny (R.bw.of G) F lU (HTT.grow G) hk hc4 (n:=1) ab
 have HF:=kH F;have HST:=kH hst;have hgl:=R.bw.lt;have hgh:gh<w.heap.size:=by obtain⟨_,e⟩:=R.bw.row.row;exact(gs e).1
 clear R T F eh jM hl hst;generalize hHh:at' s k=hv at *
 have HH:=kH hHh;clear hHh;generalize hX0:uL ⟨k,hv,0,[],[]⟩ ax ax=X0 at *
 have HX0:=kH hX0;clear hX0;go_enter func56,ntmps56;have sJ:Hid (X0.toArray.size=41):=by unfold Hid;simp[aei.out]
 go_wp2_with (first
  |(refine auA rfl 43 _ rfl gh (k*37) rfl (hL hv) _ ?r1 underlying43 rfl (by rw[rH.out];exact iH) ?_;(case r1=>exact RG))
  |(refine au9 rfl 121 _ rfl _ rfl X0.toArray (by have:=Na;simp[Act.eval,Act.put];exact this) ?_)
  |(refine auf rfl 121 _ _ rfl w.heap.size X0.toArray rfl rfl 121 _ (at5 w _) (by rw[sJ.out];exact iU) (by rw[sJ.out];rfl) aej ?_))
 refine(HWk _ (ag br (apn _) _)).mono ?_;rintro e w2 ⟨d,rfl,od,D,G2⟩;have HG2:=kH ((ag br (apn _) _).trans G2);have sD:=kH (Hr.ae G2 (aup _ _ _ _ _ (0,0) (at5 w _)));have HXs:=kH (aaI (by rw[HH.out];exact HST));have HXo:Hid (AU (wk (w0 s k) 1) mn/\(wk (w0 s k) 1).n<=1):=by have:=Gu 1 (pQ HF hk);have e:(w0 s k).n=0:=rfl;exact⟨this.1,ab⟩
 have HTk:=kH (aaH (by rw[HF.out.len];exact hk) (by rw[HH.out];exact HST));have HD:=kH D;have HOd:=kH od;obtain⟨sa,sc,uO⟩:=(az D.av).2.2;have g40:(qA d)[40]?=some (.slice sa (wk (w0 s k) 1).av.length sc):=by rw[jl od 3];simp[uO]
 have HSo:=kH uO;have qw:=kH (fG od);have CQ:=kH (lW D.mem.cells.2 (az D.out).2.1 (az D.av).2.1);clear G2 D uO od HWk Na aej RG k1;generalize hXX:wk (w0 s k) 1=X at *
 clear hXX;have hsl:X.av.length<=1:=by have:=HXo.1.av;have:=HXo.2;omega
 have HX3:Hid (∀Y:Array Value,Gr w2 ((w2.alloc (.cells Y 142)).setRow w2.heap.size (qA d))):=fun Y=>ag br (apn _) _
 have KS:Hid (∀Y:Array Value,((w2.alloc (.cells Y 142)).setRow w2.heap.size (qA d)).heap[w2.heap.size]?=some (.cells (qA d) 142 (0,0))):=fun Y=>aup _ _ _ _ _ (0,0) (at5 w2 _)
 have k40:∀Y:Array Value,((w2.alloc (.cells Y 142)).setRow w2.heap.size (qA d)).cell? ⟨w2.heap.size,40,none⟩=some (.slice sa X.av.length sc):=fun Y=>(cr (KS Y)).trans g40
 generalize hsn:X.av.length=sn at *
 have ZE:=kH hsn;clear hsn;go_wp2_with (refine auf rfl 142 _ _ rfl w2.heap.size (qA d) rfl rfl 142 _ (at5 w2 _) (by rw[qw.out];exact iQ) (by rw[qw.out];rfl) CQ ?_);refine JW (fun W=>W.heap[w2.heap.size]?=some (.cells (qA d) 142 (0,0))/\Gr w2 W) ⟨KS _,HX3 _⟩ ?_;rintro W3 ⟨KO,G3⟩;obtain⟨o,ho⟩:∃o:Nat,o=w2.heap.size:=⟨_,rfl⟩;obtain⟨ub,hub⟩:∃ub:Nat,ub=w.heap.size:=⟨_,rfl⟩;rw[<-ho]at KO ⊢;rw[<-hub]at sD ⊢;have yD:=kH KO;have HU3:=kH (Hr.ae G3 sD);have fQ:=kH (HG2.trans G3);have HD3:Hid (∃b,Dq W3 b d X):=⟨_,HD.gr G3⟩;have hol:w.heap.size<o:=by have:=(gs sD).1;omega
 have huo:ub<o:=by have:=(gs sD).1;omega
 have hbu:base<=ub:=ab;have HUB:=kH hub;have hgu:g<ub:=ab;clear KO G3 HX3 KS sD HG2 HD k40 g40 ho hub;clear w2;have HUN:Hid (∀W:World,Nu W3 W->X.av.length=0->W.heap[ub]?=some (.cells X0.toArray 121 (0,0))->Done W ub (eH s k)):=fun W N h0 hb=>by
  have e0:(dV (at' s k) s.m).av=[]:=by rw[<-HXs.out];exact apX h0
  refine⟨X0,aei,hb,ax,ax,?_,.inl ⟨rfl,?_⟩,?_⟩
  ·unfold eH;rw[e0,<-HX0.out];unfold oM;rw[HH.out]
  ·unfold eH;rw[e0];rfl
  ·unfold eH;rw[e0];exact aur _ _ _ _
 go_loopw [29] (fun i wr=>∃j:Nat,j<=sn/\i=.int .i64 j/\Gr w wr/\Nu W3 wr/\(j<sn->wr.heap[ub]?=some (.cells X0.toArray 121 (0,0)))/\(j=sn->Done wr ub (eH s k))) (fun i _=>sn-(intOf i).toNat)
 case atStart=>exact⟨0,apF _,rfl,fQ,Nu.refl _,fun _=>HU3,fun h=>HUN _ (Nu.refl _) (by rw[ZE.out,<-h]) HU3⟩
 case round=>
  obtain⟨j,hj,rfl,G,N,hA,hB⟩:=hrel;have HGr:=kH G;have HNr:=kH N;have HOr:=kH (N.row yD an);by_cases hlt:j<sn
  ·have Rl:=kH (hA hlt);clear hA hB G N;obtain rfl:j=0:=ab;have fO:Hid (sn=1):=by unfold Hid;omega
   obtain⟨p,hp⟩:∃p,X.av=[p]:=List.length_eq_one_iff.1 (ZE.trans fO);have amC:(0:Int)<(sn:Int):=ab;have HP:=kH hp;obtain⟨p0,p1,p2⟩:=HXo.1.bd p (by rw[hp];simp);have hlo:Wd.lo (p.1+p.2)=p.1+p.2:=by unfold Wd.lo;omega
   obtain⟨b3,D3⟩:=HD3;have aaK:=(Dq.nu D3 HNr).av;rw[HSo.out,ZE.out,hp]at aaK;obtain⟨gs',hgs',amD,hcs'⟩:=nD aaK hlt;subst hgs';have c0:=hcs' 0 _ rfl;have c1:wr.cell? ⟨gs',1,none⟩=some (.int .u32 (p.1+p.2)):=by rw[<-hlo];exact hcs' 1 _ rfl
   have x38:wr.cell? ⟨ub,38,none⟩=some (.int .u32 0):=(cr Rl).trans (by rw[<-HX0.out,apm];exact eO (u:=⟨k,hv,0,[],[]⟩) zR 0);have f38:wr.frozen? ⟨ub,38,none⟩=false:=lh Rl;have ahM:=(gs Rl).1;clear hcs' aaK D3 hp;obtain⟨pf,pn⟩:=p;simp only at *
   obtain⟨f,rfl⟩:=apt p0;obtain⟨q,rfl⟩:=apt (show 0<=pn by omega);have lY:=HF.mem;rcases HR.bw.mem with⟨_,h2⟩|⟨mk,mc,hMe,⟨ahN,hcap⟩,hrow⟩
   ·rw[h2]at lY;simp at lY;omega
   have WZ:Hid (M=.slice (some ⟨mk,0,none⟩) mn mc):=by rw[lY]at hMe;exact hMe
   have WY:Hid (Hc.mb<=w.heap.size):=by
    obtain⟨_,he⟩:=hrow.row;have:=(gs he).1;unfold Hid;omega
   have hcp:mn<=mc:=ab;have Xn:Hid (Mem w (some ⟨mk,f,none⟩) q ((s.m.drop f).take q)):=by
    have:=UY (f:=f) (c:=q) (Row.mem hrow.row) ab;rwa[apu]at this
   have Q7:Hid (∀W:World,Gr w W->Calls prog 84 #[.pointer (some ⟨g,0,none⟩),.int .i64 k,.agg #[.int .u32 f,.int .u32 ((f:Int)+(q:Int))]] W fun e w'=>∃v,e=.returned v/\w'.ownsRow W.heap.size 159 2 v (aR k (f,q) s.hs s.hs.length).length (Bi (aR k (f,q) s.hs s.hs.length))/\Gr W w'):=fun W G=>by
    have:=Bj (HR.bw.of G) (by rw[HF.out.len];exact hc4) k ((f:Int),(q:Int)) p0 p1 bl;simp only[hlo]at this;exact this
   clear hMe hcap hrow lY hlo ahN;have kL:Hid ((uL ⟨k,hv,0,[],[]⟩ ax ax).toArray.setIfInBounds 38 (.int .u32 f)=(uL ⟨k,hv,f,[],[]⟩ ax ax).toArray):=Po (u:=⟨k,hv,0,[],[]⟩) zR f;go_wp2_with fail;refine JW (fun W=>W.heap[ub]?=some (.cells (uL ⟨k,hv,f,[],[]⟩ ax ax).toArray 121 (0,0))/\W.heap[wr.heap.size]?=some (.cells #[.int .u32 f,.int .u32 ((f:Int)+(q:Int))] 175 (0,0))/\Gr w W/\Nu wr W) ⟨?fa,?fb,?fc,?fd⟩ ?_
   case fa=>refine Hr.ae br ?_;rw[hss Rl.out,<-HX0.out,kL.out]
   case fb=>have:=at5 (wr.setCell ⟨ub,38,none⟩ (.int .u32 f)) (.cells #[.int .u32 f,.int .u32 ((f:Int)+(q:Int))] 175);rwa[szC]at this
   case fc=>exact(HGr.setCell (by have:=HUB;exact aq6 this.symm) _).alloc _
   case fd=>exact((Nu.refl wr).set Rl 38 _).trans (Nu.gr br)
   rintro W5 ⟨KU,KR,G5,N5⟩;obtain⟨rb,hrb⟩:∃rb:Nat,rb=wr.heap.size:=⟨_,rfl⟩;rw[<-hrb]at KR ⊢;have hru:ub≠rb:=ab;have qx:Hid (W5.heap[ub]?=some (.cells (uL ⟨k,hv,f,[],[]⟩ ax ax).toArray 121 (0,0))):=KU;have xK:Hid (W5.heap[rb]?=some (.cells #[.int .u32 f,.int .u32 ((f:Int)+(q:Int))] 175 (0,0))):=KR;have lu:Hid (Gr w W5):=G5;have HN5:Hid (Nu W3 W5):=HNr.trans N5;have m0:W5.cell? ⟨g,0,none⟩=some (.slice (some ⟨mk,0,none⟩) mn mc):=by rw[<-WZ.out];exact(HR.bw.of G5).c0
   have r0:=iE KR;have r1:=iY KR;have u39:W5.cell? ⟨ub,39,none⟩=some ax:=(cr KU).trans (by rw[apm];exact eO (u:=⟨k,hv,f,[],[]⟩) zR 1);have g39:W5.frozen? ⟨ub,39,none⟩=false:=lh KU;have aaL:ub<W5.heap.size:=(gs KU).1;have HCl:Hid (∀W:World,Gr W5 W->Calls prog 36 #[.slice (some ⟨mk,f,none⟩) (((f:Int)+(q:Int)).toNat-f) (mc-f)] W fun e w'=>∃a c',e=.returned (.slice a q c')/\Hc.Own w' Hc.mb (.slice a q c') ((s.m.drop f).take q)/\Gr W w'):=fun W G=>by rw[show((f:Int)+(q:Int)).toNat-f=q by omega];exact wT (Xn.of (lu.trans G)) (fun e=>by cases e) ab (apr WY (lu.trans G).size)
   have q1:(0:Int)<=(f:Int)+(q:Int):=ab;have q2:(f:Int)+(q:Int)<=(mc:Int):=ab;have q3:(f:Int)<=(f:Int)+(q:Int):=ab;have q4:¬mc=f:=ab;clear KU KR G5 N5 hrb HGr HNr HOr Rl c0 c1 x38 f38 kL ahM;go_region_held3 (fun W=>W.cell? ⟨g,0,none⟩=some (.slice (some ⟨mk,0,none⟩) mn mc)/\W.cell? ⟨rb,0,none⟩=some (.int .u32 f)/\W.cell? ⟨rb,1,none⟩=some (.int .u32 ((f:Int)+(q:Int)))) (first|(refine⟨?_,?_,?_⟩<;>assumption)|(exact⟨(aui (hso (by exact Nat.ne_of_lt hgu))).trans y0,(aui (hso (by exact hru.symm))).trans y1,(aui (hso (by exact hru.symm))).trans y2⟩)|(go_keep;done)) (first|(go_at_call 36;refine(HCl W5.drew (Gr.refl W5).drew).mono ?_;rintro e w6 ⟨ba,bc',rfl,O6,G6⟩;have HO6:Hid (Hc.Own w6 Hc.mb (.slice ba q bc') ((s.m.drop f).take q)):=O6;have oL:Hid (Gr W5 w6):=(Gr.refl W5).drew.trans G6;have y0:w6.cell? ⟨g,0,none⟩=some (.slice (some ⟨mk,0,none⟩) mn mc):=(G6.cell _ (by exact Nat.lt_trans hgu aaL)).trans m0;have y1:w6.cell? ⟨rb,0,none⟩=some (.int .u32 f):=iE (Hr.ae G6 xK);have y2:w6.cell? ⟨rb,1,none⟩=some (.int .u32 ((f:Int)+(q:Int))):=iY (Hr.ae G6 xK);have y3:w6.cell? ⟨ub,39,none⟩=some ax:=(G6.cell _ (by exact aaL)).trans u39;have y4:w6.frozen? ⟨ub,39,none⟩=false:=lh (Hr.ae G6 qx);clear O6 G6));refine JW (fun W=>W.heap[ub]?=some (.cells (uL ⟨k,hv,f,[],[]⟩ (.slice ba q bc') ax).toArray 121 (0,0))/\W.heap[rb]?=some (.cells #[.int .u32 f,.int .u32 ((f:Int)+(q:Int))] 175 (0,0))/\Gr w W/\Nu W3 W/\Hc.Own W Hc.mb (.slice ba q bc') ((s.m.drop f).take q)) ⟨?ga,?gb,?gc,?gd,?ge⟩ ?_
   case ga=>rw[hss (Hr.ae oL.out qx.out),Pq (u:=⟨k,hv,f,[],[]⟩) zR.out]
   case gb=>rw[hso (by exact hru.symm)];exact Hr.ae oL xK
   case gc=>exact(lu.trans oL).setCell (by have:=HUB;exact aq6 this.symm) _
   case gd=>exact(HN5.trans (Nu.gr oL)).set (Hr.ae oL qx) 39 _
   case ge=>exact HO6.to fun z ob fz hz=>hso (by exact aa hz (Hr.ae oL qx) an)
   rintro W7 ⟨KU,KR,G7,N7,O7⟩;have HU7:Hid (W7.heap[ub]?=some (.cells (uL ⟨k,hv,f,[],[]⟩ (.slice ba q bc') ax).toArray 121 (0,0))):=KU;have HR7:Hid (W7.heap[rb]?=some (.cells #[.int .u32 f,.int .u32 ((f:Int)+(q:Int))] 175 (0,0))):=KR;have zB:Hid (Gr w W7):=G7;have HN7:Hid (Nu W3 W7):=N7;have Zi:Hid (Hc.Own W7 Hc.mb (.slice ba q bc') ((s.m.drop f).take q)):=O7;clear qx xK lu HN5 m0 r0 r1 u39 g39 HCl HO6 oL y0 y1 y2 y3 y4 aaL WZ q4;have r0:=iE KR;have r1:=iY KR;have u40:W7.cell? ⟨ub,40,none⟩=some ax:=(cr KU).trans (by rw[apm];exact eO (u:=⟨k,hv,f,[],[]⟩) zR 2);have g40:W7.frozen? ⟨ub,40,none⟩=false:=lh KU;have ahO:ub<W7.heap.size:=(gs KU).1;clear KU KR G7 N7 O7;go_wp2_with fail;go_region_held3 (fun W=>W.cell? ⟨rb,0,none⟩=some (.int .u32 f)/\W.cell? ⟨rb,1,none⟩=some (.int .u32 ((f:Int)+(q:Int)))) (first|(refine⟨?_,?_⟩<;>assumption)|(exact⟨(aui (hso (by exact hru.symm))).trans y1,(aui (hso (by exact hru.symm))).trans y2⟩)|(go_keep;done)) (first|(go_at_call 84;refine(Q7 W7.drew zB.drew).mono ?_;rintro e w8 ⟨lv,rfl,L8,G8⟩;obtain⟨_,_,la,lc,rfl⟩:=az L8;have HL8:Hid (w8.ownsRow W7.drew.heap.size 159 2 (.slice la (aR k (f,q) s.hs s.hs.length).length lc) (aR k (f,q) s.hs s.hs.length).length (Bi (aR k (f,q) s.hs s.hs.length))):=L8;have Rm:Hid (Gr W7 w8):=(Gr.refl W7).drew.trans G8;have y1:w8.cell? ⟨rb,0,none⟩=some (.int .u32 f):=iE (Hr.ae G8 HR7);have y2:w8.cell? ⟨rb,1,none⟩=some (.int .u32 ((f:Int)+(q:Int))):=iY (Hr.ae G8 HR7);have y3:w8.cell? ⟨ub,40,none⟩=some ax:=(G8.cell _ (by exact ahO)).trans u40;have y4:w8.frozen? ⟨ub,40,none⟩=false:=lh (Hr.ae G8 HU7);clear L8 G8));have HFin:Hid (Done (w8.setCell ⟨ub,40,none⟩ (.slice la (aR k (f,q) s.hs s.hs.length).length lc)) ub (eH s k)):=by
    have hb:=Hr.ae Rm HU7;have eu:eH s k=⟨k,hv,f,(s.m.drop f).take q,gF (aR k (f,q) s.hs s.hs.length)⟩:=by
     unfold eH;rw[<-HXs.out,HP.out];unfold oM;rw[HH.out];simp only[apG]
    have kp:∀(z:Nat) (ob:Array Value) (t:Nat) (fz:Nat×Nat),t≠121->w8.heap[z]?=some (.cells ob t fz)->(w8.setCell ⟨ub,40,none⟩ (.slice la (aR k (f,q) s.hs s.hs.length).length lc)).heap[z]?=w8.heap[z]?:=fun z ob t fz ht hz=>hso (by exact aa hz hb ht)
    rw[eu];refine⟨uL ⟨k,hv,f,[],[]⟩ (.slice ba q bc') (.slice la (aR k (f,q) s.hs s.hs.length).length lc),oN (u:=⟨k,hv,f,[],[]⟩) zR,?_,.slice ba q bc',.slice la (aR k (f,q) s.hs s.hs.length).length lc,rfl,?_,?_⟩
    ·rw[hss hb,Pt (u:=⟨k,hv,f,[],[]⟩) zR.out]
    ·exact(gT Zi Rm).to fun z ob fz hz=>kp z ob _ fz an hz
    ·have:=aj (uD HL8 (apr WY zB.size)) fun z ob fz hz=>kp z ob _ fz an hz
     simp only[JV];rw[show(gF (aR k (f,q) s.hs s.hs.length)).length=(aR k (f,q) s.hs s.hs.length).length by simp[gF]];exact this
   have HGf:Hid (Gr w (w8.setCell ⟨ub,40,none⟩ (.slice la (aR k (f,q) s.hs s.hs.length).length lc))):=(zB.trans Rm).setCell (by have:=HUB;exact aq6 this.symm) _;have HNf:Hid (Nu W3 (w8.setCell ⟨ub,40,none⟩ (.slice la (aR k (f,q) s.hs s.hs.length).length lc))):=(HN7.trans (Nu.gr Rm)).set (Hr.ae Rm HU7) 40 _;generalize(w8.setCell ⟨ub,40,none⟩ (.slice la (aR k (f,q) s.hs s.hs.length).length lc))=W9 at *
   go_wp2_with fail;go_roundw
   case rel=>exact⟨1,ab,by go_num,HGf,HNf,fun h=>absurd h (by have:=fO;omega),fun _=>HFin⟩
   case measure=>simp[intOf];omega
  ·obtain⟨XL,hXl,hXb,hUo⟩:=hB ab;have Rl:Hid (wr.heap[ub]?=some (.cells XL.toArray 121 (0,0))):=hXb;have HXl:Hid (XL.length=41):=hXl;have HUo:Hid (Uo wr (eH s k) XL):=hUo;have Br:Hid (Rw wr base g M gh hc O U xs s us):=HR.of HGr;obtain⟨QL,UH⟩:∃QL:List Value,Hid (qA d=QL.toArray):=⟨_,rfl⟩;have HQl:Hid (QL.length=41):=by have:=qw;rw[UH.out,ap2]at this;exact this
   have rT:Hid (∀V:World,V.heap[o]?=some (.cells (qA d) 142 (0,0))->V.rangeAt o 0 QL):=fun V e i v hv=>by rw[apu,cr e,UH.out,apm];exact hv
   have HTa:Hid (∀V:World,Gr wr V->Calls prog 58 #[.pointer (some ⟨g,0,none⟩),.int .i64 k,.agg QL.toArray] V fun e w'=>e=.returned (.tuple #[])/\Bd 88 [U] w' base g (bW s k)/\Fe 88 base V w'):=fun V G=>by
    rw[<-UH.out,<-HTk.out];obtain⟨b3,D3⟩:=HD3;have o1:=HXo.1.out;have o2:=HXo.1.av;have o3:=HXo.2;exact BM (Br.bw.of G) HF.len hc4 ((Dq.nu D3 HNr).gr G) HOd (fun p hp=>by have:=HXo.1.bd p hp;omega) ab ab ab hk
   have hul:w.heap.size<=ub:=by have:=HUB.out;omega
   clear hXl hXb hUo hA hB G N;go_wp2_with fail;refine aut (S:=fun W=>W.rangeAt o 0 QL) al (rT _ HOr) (fun hHeld=>?_);have aY:Hid _:=hHeld;clear hHeld;refine tK 0 (.pointer (some ⟨g,0,none⟩)) aY ?_;refine tK 1 (.pointer (some ⟨g,0,none⟩)) aY ?_;refine tK 2 (.pointer (some ⟨g,0,none⟩)) aY ?_;refine tK 3 (.int .i64 k) aY ?_;refine auF (i:=4) (v:=.agg QL.toArray) rfl al al al (fun _ _ _ h=>h) (auN (by rfl) 142 (.tmp 5) rfl o 0 aw QL _ (fun W hW=>hW) underlying142 rfl (by rw[HQl.out];exact iQ)) aY ?_;simp only[apN,apP,apQ,Act.put,apl,apC,apy];refine aue (rs:=[5]) al aq ?_;refine aua rfl (fun K hK=>?_) aud;go_simp;refine(HTa _ (Gr.refl _).drew).mono ?_;rintro e w5 ⟨rfl,B5,F5⟩;have KV:Hid (Fe 88 base wr w5):=⟨(Below.drew (auC base wr)).trans F5.below,F5.keep⟩;have HO5:Hid (w5.heap[o]?=some (.cells (qA d) 142 (0,0))):=(KV.cells HOr an an an).trans HOr;have qx:Hid (w5.heap[ub]?=some (.cells XL.toArray 121 (0,0))):=(KV.cells Rl an an an).trans Rl;have aem:Hid (Uo w5 (eH s k) XL):=HUo.to fun z ob t fz ht hz=>KV.cells hz (by rcases ht with rfl|rfl<;>decide) (by rcases ht with rfl|rfl<;>decide) (by rcases ht with rfl|rfl<;>decide)
   obtain⟨M5,gh5,hc5,O5,R5⟩:=Br.take B5 KV;have xK:Hid (Rw w5 base g M5 gh5 hc5 O5 U xs (bW s k) us):=R5;have HFk:Hid (Fk base w w5):=(Fk.bD HGr hbb).trans (Fk.ahK KV);clear B5 F5;refine hK.out _ _ (rT _ HO5) (fun hx=>?_);clear hK K hx;refine auy al ?_ _;have c4:w5.cell? ⟨g,4,none⟩=some U:=R5.bw.rest 0;have hg5:g<w5.heap.size:=R5.bw.lt;obtain⟨ua,uc,hU⟩:=(az R5.row).2.2;have HUe:Hid (U=.slice ua us.length uc):=hU;have HSu:Hid (∀V:World,V.heap[ub]?=some (.cells XL.toArray 121 (0,0))->V.rangeAt ub 0 XL):=fun V e i v hv=>by rw[apu,cr e,apm];exact hv
   clear R5 aY HTa rT HOr Rl Br HUo HO5 UH;rw[hU]at c4;clear hU;obtain⟨i0,hi,hz0,hz1,hz2⟩:=auz wz;go_wp2_with fail;refine aut (S:=fun W=>W.rangeAt ub 0 XL) al (HSu _ qx) (fun hHeld=>?_);have HT0:Hid _:=hHeld;clear hHeld;refine tK 0 (.pointer (some ⟨g,0,none⟩)) HT0 ?_;refine tK 1 (.pointer (some ⟨g,0,none⟩)) HT0 ?_;refine tK 2 (.pointer (some ⟨g,0,none⟩)) HT0 ?_;refine tK 3 (.pointer (some ⟨g,4,none⟩)) HT0 ?_;refine auF (i:=5) (v:=.agg XL.toArray) rfl al al al (fun _ _ _ h=>h) (auN (by rfl) 121 (.tmp 4) rfl ub 0 aw XL _ (fun W hW=>hW) underlying121 rfl (by rw[HXl.out];exact iU)) HT0 ?_;simp only[apN,apP,apQ,Act.put,apl,apC,apy];have kL:Hid (∀u∈XL,u.oneCell'=true):=aem.one;have oL:Hid (Gr w5 (w5.drew.alloc (.cells XL.toArray 121))):=Gr.alloc (Gr.drew (Gr.refl _)) _;have HSa:Hid (∀Z:Obj,(w5.drew.alloc Z).rangeAt ub 0 XL):=fun Z=>HSu _ (Hr.ae (Gr.alloc (Gr.drew (Gr.refl w5)) Z) qx)
   apply Pv
   ·intro jO;refine aue (rs:=[4,6]) al aq ?_;refine aua rfl (fun K hK=>?_) (aua rfl (fun K hK=>?_) aud)
    ·go_simp;refine hK.out _ _ HT0 (fun hx=>?_);clear hK K hx;refine aue (rs:=[6]) al aq ?_;refine aua rfl (fun K hK=>?_) aud;refine mH rfl 30 121 (.tmp 69) rfl XL.toArray 41 ar (by simp[HXl.out]) underlying30 iUz an an ?_;refine hK.out _ _ (HSa _) (fun hx=>?_);clear hK K hx;simp only[apN,apP,apQ,Act.put,apl,apC,apy];exact jO.out
    ·refine mH rfl 30 121 (.tmp 69) rfl XL.toArray 41 ar (by simp[HXl.out]) underlying30 iUz an an ?_;refine hK.out _ _ (HSa _) (fun hx=>?_);clear hK K hx;simp only[apN,apP,apQ,Act.put,apl,apC,apy];refine aue (rs:=[4]) al aq ?_;refine aua rfl (fun K hK=>?_) aud;go_simp;refine hK.out _ _ (HSa _) (fun hx=>?_);clear hK K hx;exact jO.out
   have HXc:Hid (∀j u,XL[j]?=some u->(w5.drew.alloc (.cells XL.toArray 121)).cell? ((⟨w5.drew.heap.size,0,none⟩:Addr).add j)=some u):=fun j u hj=>by
    rw[cz,apu,cr (at5 w5.drew (.cells XL.toArray 121)),apm];exact hj
   refine aue (rs:=[7]) al aq ?_;refine aua rfl (fun K hK=>?_) aud;refine aZ rfl (.tmp 68) (.tmp 70) 30 rfl base 121 i0 _ 41 224 underlying30 hi hz0 hz1 hz2 (by simp[Value.cells,oN (u:=h00) iO]) an (.slice ua us.length uc) us.length xs ar (by rw[<-HUe.out];exact aC xK.row oL) ⟨w5.drew.heap.size,0,none⟩ 1 1 XL ar (by rw[HXl.out]) HXc kL bj ab (by have:=oL.size;have:=xK.bw.ay;omega) ?_;intro v' w7 hown hgrow;rw[<-HUe.out]at hgrow;obtain⟨g',cp,rfl⟩:=dh hown ab;obtain⟨c7,f7,RN,FN⟩:=(xK.of oL).put (aem.to (Ky.bD oL)) HXl rfl hown hgrow;have HRN:Hid _:=RN;have HFN:Hid (Fk base w5 _):=(Fk.bD oL xK.bw.ay).trans FN;have HS7:Hid (w7.heap[ub]?=some (.cells XL.toArray 121 (0,0))):=by
    have hne:some ub≠U.ownBlock:=fun e=>by have:=(HR.row.lt ub e.symm).2;omega
    exact(hgrow.block ub (by have:=oL.size;have:=(gs qx).1;omega) hne).trans (Hr.ae oL qx)
   clear RN FN;refine hK.out _ _ (HSu _ HS7) (fun hx=>?_);clear hK K hx hown hgrow;have HT7:Hid (w7.rangeAt ub 0 XL):=HSu _ HS7;have HS8:Hid ((w7.setCell ⟨g,4,none⟩ (.slice (some ⟨g',0,none⟩) (us.length+1) cp)).rangeAt ub 0 XL):=HSu _ (by rw[hso (by exact Nat.ne_of_gt hgu)];exact HS7);refine tK 8 (.pointer (some ⟨g,0,none⟩)) HT7 ?_;refine tK 9 (.pointer (some ⟨g,4,none⟩)) HT7 ?_;refine aue (rs:=[10]) al aq ?_;refine aua rfl (fun K hK=>?_) aud;go_simp;refine hK.out _ _ HS8 (fun hx=>?_);clear hK K hx;refine auy al ?_ _;go_wp2_with fail;go_end0;exact⟨rfl,HRN,HFk.trans HFN⟩
end Ud
namespace Ud
open Mm Hh Hc Mc
variable{kF:List Uv}{s s':Sh}
theorem Px (h:¬(at' s k).state=0):∀n,vQ s k n=[]
 |0=>rfl
 |n+1=>at6 h
structure Tw (s:Sh) (us:List Uv) (k n j:Nat) (c mn:Nat) (s':Sh) (kF:List Uv):Prop where
 le:j<=n
 runs:runs s k n=runs s' k (n-j)
 gD:us++gD s (vQ s k n)=kF++gD s' (vQ s' k (n-j))
 fit:Fit s' c mn
 ul:kF.length<=us.length+j
 ol:s'.out.length<=s.out.length+j
 sl:s'.steps<=s.steps+j
theorem JX (F:Fit s c n)(hk:k<c)(h:(at' s k).state=0):(bW s k).out.length<=s.out.length+1:=by
 have hl:k<s.hs.length:=by rw[F.len];exact hk
 have eh:s.hs[k]?=some (at' s k):=by unfold at';rw[api hl];simp[List.getD,hl]
 have g:=lJ (Al (F.ok _ (dH eh)).2 h) s.m;have:=g.2.2.2.1;simp only[bW,apo];omega
theorem Tw.on {us:List Uv}(t:Tw s us k n j c mn s' kF)(hk:k<c)(hj:j<n)(h:(at' s' k).state=0):Tw s us k n (j+1) c mn (bW s' k) (kF++[eH s' k]):=by
 have e:n-j=(n-(j+1))+1:=ab;have o:=JX t.fit hk h;refine⟨ab,?_,?_,kg t.fit hk h,?_,?_,?_⟩
 ·rw[t.runs,e];show(if(at' s' k).state=0 then Mc.runs (bW s' k) k (n-(j+1))else s')=_
  rw[at7 h]
 ·rw[t.gD,e,aqa];show kF++Ud.gD s' (if(at' s' k).state=0 then k::vQ (bW s' k) k (n-(j+1))else[])=_
  rw[at7 h];rfl
 ·have:=t.ul;simp;omega
 ·have:=t.ol;omega
 ·have:=t.sl;show s'.steps+1<=_;omega
theorem Tw.stop {us:List Uv}(t:Tw s us k n j c mn s' kF)(h:¬(at' s' k).state=0\/j=n):Mc.runs s k n=s'/\us++Ud.gD s (vQ s k n)=kF:=by
 rw[t.runs,t.gD];rcases h with h|h
 ·rw[qO h,Px h];exact⟨rfl,by simp[Ud.gD]⟩
 ·rw[h,Nat.sub_self];exact⟨rfl,by simp[vQ,Ud.gD]⟩
theorem uP {g:Nat}{us:List Uv}(R:Rc w base g s us)(T:TT w base)(F:Fit s c mn)(lU:mn<=4096)(hk:k<c)(hc4:c<=4)(hn:n<=400)(hus:us.length+400<=200000)(hout:s.out.length+400<=200000)(hstp:s.steps+400<=200000):Calls prog 23 #[.pointer (some ⟨g,0,none⟩),.agg #[.int .i64 k,.int .i64 n]] w fun e w'=>e=.returned (.tuple #[])/\Rc w' base g (runs s k n) (us++gD s (vQ s k n))/\Fk base w w':=by
 have hbb:base<=w.heap.size:=by obtain⟨_,_,_,_,_,_,R⟩:=R;exact R.bw.ay
 have HR:=kH R;have HTT:=kH T;have HF:=kH F;go_enter func23,ntmps23;go_wp2_with fail;go_loopw [6] (fun i wr=>∃(j:Nat) (s':Sh) (kF:List Uv),i=.int .i64 j/\Tw s us k n j c mn s' kF/\Rc wr base g s' kF/\Fk base w wr/\wr.heap[w.heap.size]?=some (.cells #[.int .i64 k,.int .i64 n] 45 (0,0))) (fun i _=>n-(intOf i).toNat)
 case atStart=>exact⟨0,s,us,rfl,⟨apF _,rfl,rfl,HF,apn _,apn _,apn _⟩,HR.of br,Fk.bD br hbb,at5 w _⟩
 case round=>
  obtain⟨j,s',kF,rfl,t,R,FK,KP⟩:=hrel;have HT:=kH t;have Br:=kH R;have HFK:=kH FK;have HP:=kH KP;have p0:=iE KP;have p1:=iY KP;have hle:=t.le;obtain⟨M0,gh,hc,O0,U0,xs0,R0⟩:=R;have hl:k<s'.hs.length:=by rw[t.fit.len];exact hk
  have eh:s'.hs[k]?=some (at' s' k):=by unfold at';rw[api hl];simp[List.getD,hl]
  have jM:=(t.fit.ok _ (dH eh)).1;have g1:wr.cell? ⟨g,1,none⟩=some (.slice (some ⟨gh,0,none⟩) c hc):=by have:=R0.bw.c1;rw[t.fit.len]at this;exact this
  have c35:=(R0.bw.row.cell eh ab).trans (aW jM 3);have hbr:=R0.bw.ay;by_cases hlt:j<n
  ·by_cases hst:(at' s' k).state=0
   ·have QY:Hid (∀W:World,Gr wr W->Calls prog 56 #[.pointer (some ⟨g,0,none⟩),.int .i64 k] W fun e w'=>e=.returned (.tuple #[])/\Rc w' base g (bW s' k) (kF++[eH s' k])/\Fk base W w'):=fun W G=>by
     have t:=HT;have:=t.ul;have:=t.ol;have:=t.sl;exact Pw (Br.of G) (uX HTT (HFK.below.trans (aun G hbr))) t.fit lU hk hc4 hst ab ab ab
    have HTn:=kH (HT.on hk hlt hst);rw[hst]at c35;go_wp2_with fail;go_quiet (fail);go_wp2_with fail;refine(QY _ ((Gr.refl _).drewN _)).mono ?_;rintro e w2 ⟨rfl,R2,F2⟩;have HR2:=kH R2;have pX:=kH (HFK.trans ((Fk.bD ((Gr.refl wr).drewN _) hbr).trans F2));have ny:=kH (F2.row HP an an an an);go_wp2_with fail;go_roundw
    case rel=>exact⟨j+1,_,_,by go_num,HTn,HR2,pX,ny⟩
    case measure=>simp[intOf];omega
   ·have Xo:Hid (Rc wr base g (runs s k n) (us++gD s (vQ s k n))):=by
     obtain⟨e1,e2⟩:=HT.stop (.inl hst);rw[e1,e2];exact Br
    have hne:((at' s' k).state ==0)=false:=by simpa using hst
    have hne2:((at' s' k).state !=0)=true:=by simpa using hst
    generalize(at' s' k).state=st at *
    go_wp2_with fail;go_quiet (fail);go_wp2_with fail;refine auc (auV results23 _ _ _) rfl ?_;exact⟨rfl,Xo.of ((Gr.refl _).drewN _),HFK.trans (Fk.bD ((Gr.refl wr).drewN _) hbr)⟩
  ·have Xo:Hid (Rc wr base g (runs s k n) (us++gD s (vQ s k n))):=by
    obtain⟨e1,e2⟩:=HT.stop (.inr ab);rw[e1,e2];exact Br
   generalize(at' s' k).state=st at *
   go_wp2_with fail;go_end0;exact⟨rfl,Xo,HFK⟩
end Ud
namespace Ud
open Mm Hh Hc Mc
variable{hs:List Hv}
theorem rU {p t u:Tmp}{ty:TypeId}(h:fn.results=#[.cell p ty,.tmp t,.tmp u])(tmps:Array Value)(w:World)(g:Nat)(tt:TypeId)(cs:Array Value)(fr:Nat×Nat)(d:TypeDesc)
  (v v2:Value)(hp:tmps.getD p undef=.pointer (some ⟨g,0,none⟩))(hv:tmps.getD t undef=v)(hv2:tmps.getD u undef=v2)(hg:w.heap[g]?=some (.cells cs tt fr))
  (hu:P.underlying ty=some d)(hd:(match d with|.struct _|.array _ _=>true|_=>false)=true)(hi:(P.info? ty).map (·.size)=some cs.size):
  (results fn tmps).run P w=.ok (.tuple #[.agg cs,v,v2]) w:=by
 subst hv hv2;have hp':tmps[p]?.getD undef=.pointer (some ⟨g,0,none⟩):=by simpa using hp
 simp[results,h,hp',asAddr,au4 w g tt ty cs fr d hg hu hd hi]
theorem Py (s:Sh)(a:List (Nat×Nat))(k n:Nat):gD s (jS s (a++[(k,n)]))=gD s (jS s a)++gD (aL s a) (vQ (aL s a) k n):=by
 rw[Gy,zo,<-mr];congr 2;show vQ (aL s a) k n++[]=_
 rw[apz]
theorem JY (s:Sh)(a:List (Nat×Nat)):s.steps+(gD s (jS s a)).length=(aL s a).steps:=by rw[nA,mr,xE]
theorem UZ (mc hc pc:Nat)(mn:Nat)(lU:m.length=mn)(H:Hs w ha hn hs)(P:Ps w pa pn ps)(b1:mn<=140737488351232)(b2:hn<=140737488351232)(b3:pn<=140737488351232)(hno:¬wrong m hs ps=0):Calls prog 10 #[.agg #[.slice ma mn mc,.slice ha hn hc],.slice pa pn pc] w fun e w'=>e=.returned (.tuple #[.agg #[.slice none 0 0,.slice none 0 0,.slice none 0 0,.int .i64 0],.slice none 0 0,.int .i64 (wrong m hs ps)])/\Gr w w':=by
 have HM:Hid (∀W:World,Gr w W->Calls prog 22 #[.agg #[.slice ma mn mc,.slice ha hn hc],.slice pa pn pc] W fun e w'=>e=.returned (.tuple #[.agg #[.slice none 0 0,.slice none 0 0,.slice none 0 0,.int .i64 0],.int .i64 (wrong m hs ps)])/\Gr W w'):=fun W G=>rJ mc hc pc mn lU (H.of G) (P.of G) b1 b2 b3 hno
 clear H P lU;generalize wrong m hs ps=E at *
 have hE:(E !=0)=true:=by simpa using hno
 go_enter func10,ntmps10;go_wp2_with fail;refine(HM _ (br.alloc _)).mono ?_;rintro e w1 ⟨rfl,G1⟩;have aU:=kH ((br.alloc _).trans G1);have HB:=kH ((fA G1).2);have hlt:=(gs HB).1;have HI:=kH iS;have HB2:Hid (∀Y:Array Value,(w1.alloc (.cells Y 84)).heap[w.heap.size+1]?=some (.cells #[.slice none 0 0,.slice none 0 0,.slice none 0 0,.int .i64 0] 47 (0,0))):=fun Y=>Hr.ae br HB
 go_wp2_with (refine auf rfl 47 _ _ rfl (w.heap.size+1) #[.slice none 0 0,.slice none 0 0,.slice none 0 0,.int .i64 0] rfl rfl 47 _ ?hb HI rfl al ?_;(case hb=>exact HB2 _));refine auc (v:=.tuple #[.agg _,.slice none 0 0,.int .i64 E]) (rU results10 _ _ _ _ _ (0,0) _ _ _ rfl rfl rfl (aup _ _ _ _ _ (0,0) (HB2 _)) underlying47 rfl HI) rfl ⟨rfl,?_⟩;exact ag (aU.alloc _) (aqi _) _
theorem Pz (mc hc pc:Nat)(mn:Nat)(T:TT w w.heap.size)(M:Mem w ma mn m)(hcap:ma=none->mc=0)(H:Hs w ha hn hs)(P:Ps w pa pn ps)(hy:wrong m hs ps=0)(hmb:Hc.mb<=w.heap.size):Calls prog 10 #[.agg #[.slice ma mn mc,.slice ha hn hc],.slice pa pn pc] w fun e w'=>∃v ua un uc,e=.returned (.tuple #[v,.slice ua un uc,.int .i64 0])/\ShO w' v hn mn (aL ⟨hs,m,[],0⟩ (nums ps))/\(Us w' ua un (gD ⟨hs,m,[],0⟩ (jS ⟨hs,m,[],0⟩ (nums ps)))/\UsL w' Hc.mb ua un)/\un<=uc/\Gr w w':=by
 obtain⟨b1,b2,b4,ze,b3,hpk⟩:=kE hy;have lY:=M.len;have Xp:=H.len;have hpl:=P.len;have HN:Hid (∀W:World,Gr w W->Calls prog 22 #[.agg #[.slice ma mn mc,.slice ha hn hc],.slice pa pn pc] W fun e w'=>∃a c gh hc,e=.returned (.tuple #[.agg #[.slice a mn c,.slice (some ⟨gh,0,none⟩) hn hc,.slice none 0 0,.int .i64 0],.int .i64 0])/\Hc.Own w' Hc.mb (.slice a mn c) m/\W.heap.size<=gh/\(bQ w' gh hs/\Zh w' gh hc)/\Gr W w'):=fun W G=>kQ mc hc pc mn (M.of G) hcap (H.of G) (P.of G) ab hy ab ab ab (apr hmb G.size)
 have F0:Fit ⟨hs,m,[],0⟩ hn mn:=⟨Xp,lY,fun h hm=>⟨H.ok h hm,ze h hm⟩⟩;have HF0:=kH F0;have HT:=kH T;have HP:=kH P;have Gf:=kH hpl;have HPK:Hid (∀p∈ps,0<=p.1/\p.1<hn/\0<=p.2/\p.2<=400):=by rw[Xp]at hpk;exact hpk
 have xD:=kH Xp;have HLV:Hid (Live ⟨hs,m,[],0⟩ (jS ⟨hs,m,[],0⟩ (nums ps))):=uS _ _ (fun q hq=>by
  obtain⟨r,hr,rfl⟩:=apK.1 hq;have:=hpk r hr;show r.1.toNat<hs.length
  omega)
 have c4:hn<=4:=ab;have m4:mn<=4096:=ab;have p4:pn<=300:=ab;have CR:Hid (∀j,Fit (aL ⟨hs,m,[],0⟩ ((nums ps).take j)) hn mn):=fun j=>pM _ (fun q hq=>by
  obtain⟨r,hr,rfl⟩:=apK.1 (aq7 hq);have:=HPK r hr;show r.1.toNat<hn
  omega) F0
 have ahS:=kH hmb;go_enter func10,ntmps10;go_wp2_with fail;refine(HN _ (br.alloc _)).mono ?_;rintro e w1 ⟨a1,c1,gh,hc1,rfl,O1,hgh,R1,G1⟩;have aU:=kH ((br.alloc _).trans G1);have fO:=kH ((fA G1).2);have hlt:=(gs fO).1;have UM:w.heap.size+2<=gh:=by simpa using hgh
 have TM:=kH O1;have HR1:=kH R1.1;have HZ1:=kH R1.2;go_wp2_with fail;refine JW (fun W=>Rw W (w.heap.size+2) (w1.heap.size+1) (.slice a1 mn c1) gh hc1 (.slice none 0 0) (.slice none 0 0) [] ⟨hs,m,[],0⟩ []/\W.heap[w.heap.size+1]?=some (.cells #[.slice none 0 0,.slice none 0 0,.slice none 0 0,.int .i64 0] 47 (0,0))/\Gr w W) ?_ ?_
 ·have GA:∀o1 o2:Obj,Gr w1 ((w1.alloc o1).alloc o2):=fun o1 o2=>br.alloc _
  have e1:∀o1:Obj,(w1.alloc o1).heap.size=w1.heap.size+1:=fun o1=>aq
  have hblk:=at5 (w1.alloc (.cells #[.slice a1 mn c1,.slice (some ⟨gh,0,none⟩) hn hc1,.slice none 0 0,.int .i64 0] 84)) (.cells #[.slice a1 mn c1,.slice (some ⟨gh,0,none⟩) hn hc1,.slice none 0 0,.int .i64 0,.slice none 0 0] 88);rw[e1]at hblk;refine⟨⟨⟨an,an,an,ab,?_,gT TM (GA _ _),UM,HR1.of (GA _ _),aur _ _ _ _,⟨HZ1.of (GA _ _),ab⟩⟩,aur _ _ _ _,Ux.nil _⟩,Hr.ae (GA _ _) fO,aU.trans (GA _ _)⟩;show _=some (Obj.cells #[.slice a1 mn c1,.slice (some ⟨gh,0,none⟩) hs.length hc1,.slice none 0 0,.int .i64 ((0:Nat):Int),.slice none 0 0] 88 (0,0))
  rw[xD.out];exact hblk
 obtain⟨g,hg⟩:∃g:Nat,g=w1.heap.size+1:=⟨_,rfl⟩;rw[<-hg];rintro W3 ⟨R3,u1,G3⟩;have hwg:w.heap.size+2<=g:=ab;clear hg hlt;have HR3:Hid (Rc W3 (w.heap.size+2) g ⟨hs,m,[],0⟩ []):=⟨_,_,_,_,_,_,R3⟩;have rQ:=kH u1;have fQ:Hid (Gr w W3):=G3;have hb3:w.heap.size+2<=W3.heap.size:=R3.bw.ay;have HT3:Hid (TT W3 (w.heap.size+2)):=Xr (uX HT G3) ab;have Ze:Hid (∀V:World,Below (w.heap.size+2) W3 V->Gr w V/\V.heap[w.heap.size+1]?=some (.cells #[.slice none 0 0,.slice none 0 0,.slice none 0 0,.int .i64 0] 47 (0,0))):=fun V B=>⟨xC fQ B ab,(B.block _ ab).trans rQ⟩
 clear R3 u1 G3 rQ fQ HT;go_loopw [26] (fun i wr=>∃j:Nat,j<=pn/\i=.int .i64 j/\Rc wr (w.heap.size+2) g (aL ⟨hs,m,[],0⟩ ((nums ps).take j)) (gD ⟨hs,m,[],0⟩ (jS ⟨hs,m,[],0⟩ ((nums ps).take j)))/\Few (aL ⟨hs,m,[],0⟩ ((nums ps).take j)) (400*j)/\Below (w.heap.size+2) W3 wr) (fun i _=>pn-(intOf i).toNat)
 case atStart=>exact⟨0,apF _,rfl,HR3,⟨apn _,apn _⟩,auC _ _⟩
 case round=>
  obtain⟨j,hj,rfl,R4,fw,B4⟩:=hrel;have HR4:=kH R4;have HFW:=kH fw;have sj:=kH B4;have fC:=kH ((Ze _ B4).1);have hb4:=apr hb3 B4.size;by_cases hlt:j<pn
  ·obtain⟨p,hp⟩:∃p,ps[j]?=some p:=⟨_,api (by rw[Gf.out];exact hlt)⟩;obtain⟨z0,z1,z2,z3⟩:=HPK p (aps hp);obtain⟨b',o',rfl,hb',hcell'⟩:=HP.spot ab;have q0:=(fC.cell _ (by exact hb')).trans (hcell' j p hp).1;have q1:=(fC.cell _ (by exact hb')).trans (hcell' j p hp).2;have HTK:=kH (BU hp);clear hcell' hp;obtain⟨p1,p2⟩:=p;simp only at *
   obtain⟨k,rfl⟩:=apt z0;obtain⟨n,rfl⟩:=apt z2;simp only[apG]at HTK;have hk:k<hn:=ab;have hn4:n<=400:=ab;have HTu:Hid (∀V:World,Gr wr V->Calls prog 23 #[.pointer (some ⟨g,0,none⟩),.agg #[.int .i64 k,.int .i64 n]] V fun e w'=>e=.returned (.tuple #[])/\Rc w' (w.heap.size+2) g (aL ⟨hs,m,[],0⟩ ((nums ps).take (j+1))) (gD ⟨hs,m,[],0⟩ (jS ⟨hs,m,[],0⟩ ((nums ps).take (j+1))))/\Below (w.heap.size+2) V w'):=fun V G=>by
    have f1:=HFW.1;have f2:=HFW.2;have f3:=JY ⟨hs,m,[],0⟩ ((nums ps).take j);simp only[apu]at f3;have f4:(gD ⟨hs,m,[],0⟩ (jS ⟨hs,m,[],0⟩ ((nums ps).take j))).length=(aL ⟨hs,m,[],0⟩ ((nums ps).take j)).steps:=f3;refine(uP (HR4.of G) (uX HT3 (sj.trans (aun G hb4))) (CR j) m4 hk c4 hn4 ab ab ab).mono ?_;rintro e w' ⟨rfl,R',F'⟩;rw[HTK.out,Py,uj];exact⟨rfl,R',F'.below⟩
   have HFN:Hid (Few (aL ⟨hs,m,[],0⟩ ((nums ps).take (j+1))) (400*(j+1))):=by
    unfold Hid;rw[HTK.out,uj,jc];show Few (runs _ k n) _
    rw[pO (by rw[(CR.out j).len];exact hk) n,show 400*(j+1)=400*j+400 by omega];have:=Gu n (pQ (CR j) hk);have e0:(w0 (aL ⟨hs,m,[],0⟩ ((nums ps).take j)) k).n=0:=rfl;exact OC HFW this.1 ab
   clear z0 z1 z2 z3 HR4 HFW HTK;go_wp2_with fail;refine(HTu _ br).mono ?_;rintro e w5 ⟨rfl,R5,B5⟩;have xK:=kH R5;have KX:=kH (sj.trans ((aun ((Gr.refl wr).alloc _) hb4).trans B5));go_wp2_with fail;go_roundw
   case rel=>exact⟨j+1,ab,by go_num,xK,HFN,KX⟩
   case measure=>simp[intOf];omega
  ·have ej:ps.length<=j:=by rw[Gf.out];omega
   have HE:Hid ((nums ps).take j=nums ps):=by unfold Hid;rw[ap0 (by unfold nums;rw[apY];exact ej)]
   have HFs:Hid (Fit (aL ⟨hs,m,[],0⟩ (nums ps)) hn mn):=by have:=CR j;rw[HE.out]at this;exact this
   obtain⟨Mv,gh,hc1,Ov,Uv',xs,R5⟩:=HR4;rw[HE.out]at R5;have HUO:Hid (∀u∈gD ⟨hs,m,[],0⟩ (jS ⟨hs,m,[],0⟩ (nums ps)),u.Ok/\(-9223372036854775808<=u.k/\u.k<=9223372036854775807)/\(∀q∈u.lost, -9223372036854775808<=q.1/\q.1<=9223372036854775807)/\u.bs.length<=4096/\u.lost.length<=4096):=fun u hu=>by
    obtain⟨f1,f2,f3,f4⟩:=zt m4 _ _ HF0 HLV u hu;unfold fB at f1;simp only[apD,auk,apM]at f1;obtain⟨⟨a0,a1⟩,a2,a3,a4⟩:=f1;exact⟨f2,⟨ab,ab⟩,fun q hq=>by have:=a4 q hq;omega,f3,ab⟩
   generalize hS:aL ⟨hs,m,[],0⟩ (nums ps)=s at *
   generalize hUU:gD ⟨hs,m,[],0⟩ (jS ⟨hs,m,[],0⟩ (nums ps))=us at *
   have HSS:=kH hS;have HUU:=kH hUU;obtain⟨va,vc,rfl, -⟩:=R5.bw.mem.mem;obtain⟨oa,oc,rfl⟩:=(az R5.bw.out).2.2;obtain⟨ua,uc,rfl⟩:=(az R5.row).2.2;have xK:=kH R5;have UG:=kH HFs.mem;have HHs:=kH HFs.len;have HUC:Hid (us.length<=uc):=by
    rcases R5.row.2 with⟨e,e2⟩|⟨g',cp,cur,e,_,_,e3,_⟩
    ·show us.length<=uc;rw[e2];exact apF _
    ·injection e with _ _ e;rw[<-e]at e3;exact e3
   obtain⟨ol,hol⟩:∃ol:Nat,ol=s.out.length:=⟨_,rfl⟩;obtain⟨st,hst⟩:∃st:Int,st=s.steps:=⟨_,rfl⟩;obtain⟨un,hun⟩:∃un:Nat,un=us.length:=⟨_,rfl⟩;have HOS:Hid (ol=s.out.length/\st=s.steps/\un=us.length):=⟨hol,hst,hun⟩;have HS:Hid ((fun W=>W.cell? ⟨g,0,none⟩=some (.slice va mn vc)/\W.cell? ⟨g,1,none⟩=some (.slice (some ⟨gh,0,none⟩) hn hc1)/\W.cell? ⟨g,2,none⟩=some (.slice oa ol oc)/\W.cell? ⟨g,3,none⟩=some (.int .i64 st)/\W.cell? ⟨g,4,none⟩=some (.slice ua un uc)) wr):=by
    have x0:=R5.bw.c0;have x1:=R5.bw.c1;have x2:=R5.bw.c2;have x3:=R5.bw.c3;have x4:=R5.bw.rest 0;rw[UG.out]at x0;rw[HHs.out]at x1;rw[<-hol]at x2;rw[<-hst]at x3;rw[<-hun]at x4;exact⟨x0,x1,x2,x3,x4⟩
   obtain⟨GW,U1⟩:=Ze _ sj;have zT:=kH GW;have rQ:=kH U1;have fO:Hid (∀(V:World),(∀i:Nat,V.cell? ⟨g,i,none⟩=wr.cell? ⟨g,i,none⟩)->(fun W=>W.cell? ⟨g,0,none⟩=some (.slice va mn vc)/\W.cell? ⟨g,1,none⟩=some (.slice (some ⟨gh,0,none⟩) hn hc1)/\W.cell? ⟨g,2,none⟩=some (.slice oa ol oc)/\W.cell? ⟨g,3,none⟩=some (.int .i64 st)/\W.cell? ⟨g,4,none⟩=some (.slice ua un uc)) V):=fun V h=>by
    obtain⟨y0,y1,y2,y3,y4⟩:=HS;exact⟨(h 0).trans y0,(h 1).trans y1,(h 2).trans y2,(h 3).trans y3,(h 4).trans y4⟩
   go_wp2_with fail;refine aut (S:=fun W=>W.cell? ⟨g,0,none⟩=some (.slice va mn vc)/\W.cell? ⟨g,1,none⟩=some (.slice (some ⟨gh,0,none⟩) hn hc1)/\W.cell? ⟨g,2,none⟩=some (.slice oa ol oc)/\W.cell? ⟨g,3,none⟩=some (.int .i64 st)/\W.cell? ⟨g,4,none⟩=some (.slice ua un uc)) al ?_ (fun hHeld=>?_)
   ·exact fO _ (fun i=>rfl)
   have aY:=kH hHeld;refine tK 0 (.pointer (some ⟨g,0,none⟩)) aY ?_;refine tK 1 (.pointer (some ⟨g,0,none⟩)) aY ?_;refine tK 2 (.agg #[.slice va mn vc,.slice (some ⟨gh,0,none⟩) hn hc1,.slice oa ol oc,.int .i64 st]) aY ?_;refine tK 3 (.pointer (some ⟨g,4,none⟩)) aY ?_;refine tK 4 (.slice ua un uc) aY ?_;have oQ:Hid (∀i:Nat,(wr.drew.setRow (w.heap.size+1) #[.slice va mn vc,.slice (some ⟨gh,0,none⟩) hn hc1,.slice oa ol oc,.int .i64 st]).cell? ⟨g,i,none⟩=wr.cell? ⟨g,i,none⟩):=fun i=>aui (auo _ _ _ _ (by show g≠w.heap.size+1;omega))
   refine aue (rs:=[5]) al aq ?_;refine aua rfl (fun K hK=>?_) aud;refine gP rfl 47 (.tmp 4) (.tmp 35) rfl (w.heap.size+1) #[.slice va mn vc,.slice (some ⟨gh,0,none⟩) hn hc1,.slice oa ol oc,.int .i64 st] aw aw 47 #[.slice none 0 0,.slice none 0 0,.slice none 0 0,.int .i64 0] rQ iS rfl (DT _ _ _ _ _ _ _ _ _ _) ?_;refine hK.out _ _ (fO _ oQ) (fun hx=>?_);simp only[apN,apP,apQ,Act.put,apl,apC,apy];refine tK 6 (.slice ua un uc) (fO _ oQ) ?_;refine tK 7 (.int .i64 0) (fO _ oQ) ?_;refine auy al ?_ _;have ne:∀(t:Nat) (k:Nat) (q:Array Value) (f:Nat×Nat),t≠47->wr.heap[k]?=some (.cells q t f)->(wr.drew.setRow (w.heap.size+1) #[.slice va mn vc,.slice (some ⟨gh,0,none⟩) hn hc1,.slice oa ol oc,.int .i64 st]).heap[k]?=wr.heap[k]?:=fun t k q f ht hk=>auo _ _ _ _ (aa hk rQ ht)
   have HFin:Hid (ShO (wr.drew.setRow (w.heap.size+1) #[.slice va mn vc,.slice (some ⟨gh,0,none⟩) hn hc1,.slice oa ol oc,.int .i64 st]) (.agg #[.slice va mn vc,.slice (some ⟨gh,0,none⟩) hn hc1,.slice oa ol oc,.int .i64 st]) hn mn s/\(Us (wr.drew.setRow (w.heap.size+1) #[.slice va mn vc,.slice (some ⟨gh,0,none⟩) hn hc1,.slice oa ol oc,.int .i64 st]) ua un us/\UsL (wr.drew.setRow (w.heap.size+1) #[.slice va mn vc,.slice (some ⟨gh,0,none⟩) hn hc1,.slice oa ol oc,.int .i64 st]) Hc.mb ua un)/\un<=uc/\Gr w (wr.drew.setRow (w.heap.size+1) #[.slice va mn vc,.slice (some ⟨gh,0,none⟩) hn hc1,.slice oa ol oc,.int .i64 st])):=by
    obtain⟨e1,e2,e3⟩:=HOS;have hM:=xK.bw.mem.to (w':=wr.drew.setRow (w.heap.size+1) #[.slice va mn vc,.slice (some ⟨gh,0,none⟩) hn hc1,.slice oa ol oc,.int .i64 st]) fun k o f hk=>ne _ k o f an hk
    have hO:=aj (w':=wr.drew.setRow (w.heap.size+1) #[.slice va mn vc,.slice (some ⟨gh,0,none⟩) hn hc1,.slice oa ol oc,.int .i64 st]) xK.bw.out fun k o f hk=>ne _ k o f an hk
    have hU:=aj (w':=wr.drew.setRow (w.heap.size+1) #[.slice va mn vc,.slice (some ⟨gh,0,none⟩) hn hc1,.slice oa ol oc,.int .i64 st]) xK.row fun k o f hk=>ne _ k o f an hk
    have hX:=xK.ux.to (w':=wr.drew.setRow (w.heap.size+1) #[.slice va mn vc,.slice (some ⟨gh,0,none⟩) hn hc1,.slice oa ol oc,.int .i64 st]) fun k o t f ht hk=>ne _ k o f (by rcases ht with rfl|rfl<;>decide) hk
    rw[UG.out]at hM;refine⟨?_,?_,by rw[e3];exact HUC,ag (Gr.drew zT) (aqi _) _⟩
    ·have:=Gv (base:=w.heap.size+2) (va:=va) (vc:=vc) (oa:=oa) (oc:=oc) (gh:=gh) (hc:=hc1) (c:=hn) (mn:=mn) (S:=s) (w:=wr.drew.setRow (w.heap.size+1) #[.slice va mn vc,.slice (some ⟨gh,0,none⟩) hn hc1,.slice oa ol oc,.int .i64 st]) hM UG (xK.bw.row.to fun k o f hk=>ne _ k o f an hk) ⟨xK.bw.hz.1.to fun k o f hk=>ne _ k o f an hk,apr xK.bw.hz.2 xK.bw.bh⟩ HHs hO;rw[e1,e2]at this ⊢;exact this
    ·rw[e3];exact⟨hX.us hU rfl HUO,hX.usl hU rfl (fun u hu=>(HUO u hu).1.was) (apr ahS (Nat.le_add_right _ _))⟩
   have HB9:Hid ((wr.drew.setRow (w.heap.size+1) #[.slice va mn vc,.slice (some ⟨gh,0,none⟩) hn hc1,.slice oa ol oc,.int .i64 st]).heap[w.heap.size+1]?=some (.cells #[.slice va mn vc,.slice (some ⟨gh,0,none⟩) hn hc1,.slice oa ol oc,.int .i64 st] 47 (0,0))):=Ih rQ;generalize wr.drew.setRow (w.heap.size+1) #[.slice va mn vc,.slice (some ⟨gh,0,none⟩) hn hc1,.slice oa ol oc,.int .i64 st]=W9 at *
   go_wp2_with fail;refine auc (v:=.tuple #[.agg #[.slice va mn vc,.slice (some ⟨gh,0,none⟩) hn hc1,.slice oa ol oc,.int .i64 st],.slice ua un uc,.int .i64 0]) (rU results10 _ _ _ _ _ (0,0) _ _ _ rfl rfl rfl HB9 underlying47 rfl iS) rfl ⟨_,_,_,_,rfl,by rw[HSS.out];exact HFin.1,by rw[HUU.out];exact HFin.2.1,HFin.2.2.1,HFin.2.2.2⟩
end Ud
namespace Ud
open Mm Hh Hc Mc
variable{la:Option Addr}{mc hc ln lc:Nat}{us:List Uv}{u:Uv}
theorem l7 {a b:Bool}(h:a=b):Ending.returned (.bool a)=.returned (.bool b):=by rw[h]
theorem dE (mb:Nat)(k1:w.cell? ⟨mb,1,none⟩=some (.slice ha hn hc))(hb:hn<=140737488351232)(q:Int):Calls prog 70 #[.int .i64 q,.pointer (some ⟨mb,0,none⟩)] w fun e w'=>e=.returned (.bool (decide (0<=q/\q<hn)))/\Gr w w':=by
 by_cases h0:0<=q
 ·by_cases h1:q<hn
  ·go_enter func70,ntmps70;go_wp2;go_ret;exact⟨l7 (by simp[h0,h1]),Gr.refl _⟩
  ·go_enter func70,ntmps70;go_wp2;go_ret;exact⟨l7 (by simp[h1]),Gr.refl _⟩
 ·go_enter func70,ntmps70;go_wp2;go_ret;exact⟨l7 (by rw[auh (show¬0<=q by omega)];rfl),Gr.refl _⟩
theorem EL (U:Uc w u x)(hb:mn<=140737488351232):Calls prog 71 #[.slice ma mn mc,.agg x.toArray] w fun e w'=>e=.returned (.bool (decide (u.fr+u.bs.length<=mn)))/\Gr w w':=by
 obtain⟨ba,bn,bc,l1,l2,l3,rfl,o,_,_,M,_,b1,_⟩:=U;have hl:=M.len;have f0:=o.f0;have f1:=o.f1;have k38:(uL u (.slice ba bn bc) (.slice l1 l2 l3)).toArray[38]?=some (.int .u32 u.fr):=by rw[apm];exact eO o.was 0
 have KJ:(uL u (.slice ba bn bc) (.slice l1 l2 l3)).toArray[39]?=some (.slice ba bn bc):=by rw[apm];exact eO o.was 1
 have HR:Hid ((decide (u.fr+u.bs.length<=mn))=decide (u.fr+(bn:Int)<=mn)):=by unfold Hid;rw[hl]
 clear M o hl;generalize(uL u (.slice ba bn bc) (.slice l1 l2 l3)).toArray=X at *
 have q38:(w.alloc (.cells X 121)).cell? ⟨w.heap.size,38,none⟩=some (.int .u32 u.fr):=(cr (at5 w _)).trans k38;have q39:(w.alloc (.cells X 121)).cell? ⟨w.heap.size,39,none⟩=some (.slice ba bn bc):=(cr (at5 w _)).trans KJ;generalize u.fr=f at *
 have e1:IntKind.u64.wrap f=f:=by simp[IntKind.wrap,IntKind.bits,IntKind.signed];omega
 have e2:IntKind.u64.wrap (bn:Int)=bn:=by simp[IntKind.wrap,IntKind.bits,IntKind.signed];omega
 have e3:IntKind.u64.wrap (f+(bn:Int))=f+bn:=by simp[IntKind.wrap,IntKind.bits,IntKind.signed];omega
 have e4:IntKind.u64.wrap (mn:Int)=mn:=by simp[IntKind.wrap,IntKind.bits,IntKind.signed];omega
 go_enter func71,ntmps71;go_wp2;go_ret;exact⟨l7 HR.symm,(Gr.refl _).alloc _⟩
theorem yH {α:Type}{f:α->Bool}{l:List α}{y:α}(h:l[k]?=some y)(hx:f y=false):l.all f=false:=all_false h hx
theorem zC (U:Us w la ln us)(hb1:mn<=140737488351232)(hb2:hn<=140737488351232)(hb3:ln<=140737488351232):Calls prog 35 #[.agg #[.slice ma mn mc,.slice ha hn hc],.slice la ln lc] w fun e w'=>e=.returned (.bool (us.all (fB hn mn)))/\Gr w w':=by
 have HU:=kH U;have HL:=kH U.len;have HC:Hid (∀(q:Int) (W:World),Gr w W->W.heap[w.heap.size]?=some (.cells #[.slice ma mn mc,.slice ha hn hc] 28 (0,0))->_):=fun q W G e=>dE w.heap.size (iY e) hb2 q
 clear U;go_enter func35,ntmps35;go_wp2_with fail;go_loopw [13] (fun i wr=>∃j:Nat,j<=ln/\i=.int .i64 j/\(us.take j).all (fB hn mn)=true/\Gr w wr/\wr.heap[w.heap.size]?=some (.cells #[.slice ma mn mc,.slice ha hn hc] 28 (0,0))) (fun i _=>ln-(intOf i).toNat)
 case atStart=>exact⟨0,apF _,rfl,rfl,(Gr.refl _).alloc _,at5 w _⟩
 case round=>
  obtain⟨j,hj,rfl,hall,G,KM⟩:=hrel;have HA:=kH hall;have HG:Hid (Gr w wr):=G;have HM:=kH KM;have lY:=(gs KM).1;clear hall G KM;by_cases hlt:j<ln
  ·obtain⟨u,hu⟩:∃u,us[j]?=some u:=⟨_,api (by rw[HL.out];exact hlt)⟩;obtain⟨b,o,rfl,hb,hc'⟩:=HU.spot ab;obtain⟨x,Ux',hr⟩:=hc' j u hu;have RG:=kH (oO hr hb HG);have CS:=kH Ux'.len;have CU:Hid (x.toArray.size=41):=by unfold Hid;simp[CS.out]
   have kL:=kH Ux'.one;have Zc:Hid (∀W:World,Gr w W->Calls prog 71 #[.slice ma mn mc,.agg x.toArray] W fun e w'=>e=.returned (.bool (decide (u.fr+u.bs.length<=mn)))/\Gr W w'):=fun W G=>EL (Ux'.of G) hb1
   obtain⟨ba,bn,bc',l1,l2,l3,hx,ok,hk,hq,_,LS,_,b2⟩:=Ux';have Ju:Hid (x[0]?=some (.int .i64 u.k)/\∀i v,(hL u.was)[i]?=some v->x[1+i]?=some v):=by
    rw[hx];refine⟨rfl,fun i v hi=>?_⟩;have:i<37:=by have:=(apj.1 hi).1;rwa[aD ok.was]at this
    rw[q9 ok.was this];exact hi
   have ahU:Hid (x[40]?=some (.slice l1 l2 l3)):=by rw[hx];exact eO ok.was 2
   have HLS:=kH LS;have Ck:Hid (∀W:World,_):=fun W=>yj ok.was W
   have xD:=kH (aD ok.was);have fC:Hid (∀Y:Array Value,Gr wr ((wr.alloc (.cells Y 121)).setRow wr.heap.size x.toArray)):=fun Y=>ag br (apn _) _
   have CK:Hid (∀Y:Array Value,((wr.alloc (.cells Y 121)).setRow wr.heap.size x.toArray).heap[wr.heap.size]?=some (.cells x.toArray 121 (0,0))):=fun Y=>Ih (at5 wr _)
   have Xt:Hid (∀Y:Array Value,((wr.alloc (.cells Y 121)).setRow wr.heap.size x.toArray).heap[w.heap.size]?=some (.cells #[.slice ma mn mc,.slice ha hn hc] 28 (0,0))):=fun Y=>Hr.ae (fC Y) HM
   have u0:∀Y:Array Value,((wr.alloc (.cells Y 121)).setRow wr.heap.size x.toArray).cell? ⟨wr.heap.size,0,none⟩=some (.int .i64 u.k):=fun Y=>(cr (CK Y)).trans (by rw[apm];exact Ju.1)
   have PD:Hid (fB hn mn u=(decide (0<=u.k/\u.k<hn) && (may u.was && (decide (u.fr+u.bs.length<=mn) && u.lost.all fun q=>decide (0<=q.1/\q.1<hn))))):=rfl;have EE:Hid ((us.take (j+1)).all (fB hn mn)=((us.take j).all (fB hn mn) && fB hn mn u)):=pV _ _ _ _ hu;have Xu:Hid (fB hn mn u=false->_):=fun h=>yH hu h
   clear hc' hr hx ok LS HU hu;have oQ:Hid (∀W:World,Gr w W->W.heap[w.heap.size]?=some (.cells #[.slice ma mn mc,.slice ha hn hc] 28 (0,0))->Calls prog 70 #[.int .i64 u.k,.pointer (some ⟨w.heap.size,0,none⟩)] W fun e w'=>e=.returned (.bool (decide (0<=u.k/\u.k<hn)))/\Gr W w'):=HC u.k;generalize decide (0<=u.k/\u.k<(hn:Int))=t1 at oQ PD;generalize may u.was=t2 at Ck PD;generalize decide (u.fr+u.bs.length<=mn)=t3 at Zc PD;cases t1 with
   |false=>
    have nY:Hid (us.all (fB hn mn)=false):=Xu (by rw[PD.out];rfl);clear PD Xu EE
    go_wp2_with (first
     |(refine auA rfl 121 _ rfl b (o+j*41) rfl x _ ?r1 underlying121 rfl (by rw[CS.out];exact iU) ?_;(case r1=>exact RG))
     |(refine auf rfl 121 _ _ rfl wr.heap.size x.toArray rfl rfl 121 _ (at5 wr _) (by rw[CU.out];exact iU) (by rw[CU.out];rfl) kL ?_))
    refine(oQ _ (HG.trans (fC _)) (Xt _)).mono ?_;rintro e w5 ⟨rfl,G5⟩;have lu:=kH (HG.trans ((fC _).trans G5));have qx:=kH (Hr.ae G5 (CK _));have U3:=kH (Hr.ae ((fC _).trans G5) HM);have R5:Hid (w5.rangeAt (wr.heap.size) 1 (hL u.was)):=fun i v hv=>by rw[cr qx.out,apm];exact Ju.2 i v hv
    have hl5:=(gs qx).1;clear G5 CK fC Xt u0 oQ;go_wp2_with fail;go_ret;exact⟨l7 nY.symm,lu⟩
   |true=>
    cases t2 with
    |false=>
     have nY:=kH (Xu (by rw[PD.out];rfl));clear PD Xu EE
     go_wp2_with (first
      |(refine auA rfl 121 _ rfl b (o+j*41) rfl x _ ?r1 underlying121 rfl (by rw[CS.out];exact iU) ?_;(case r1=>exact RG))
      |(refine auf rfl 121 _ _ rfl wr.heap.size x.toArray rfl rfl 121 _ (at5 wr _) (by rw[CU.out];exact iU) (by rw[CU.out];rfl) kL ?_))
     refine(oQ _ (HG.trans (fC _)) (Xt _)).mono ?_;rintro e w5 ⟨rfl,G5⟩;have lu:=kH (HG.trans ((fC _).trans G5));have qx:=kH (Hr.ae G5 (CK _));have U3:=kH (Hr.ae ((fC _).trans G5) HM);have R5:Hid (w5.rangeAt (wr.heap.size) 1 (hL u.was)):=fun i v hv=>by rw[cr qx.out,apm];exact Ju.2 i v hv
     have hl5:=(gs qx).1;clear G5 CK fC Xt u0 oQ;go_wp2_with (refine gQ (by rfl) 43 _ rfl wr.heap.size 1 rfl (hL u.was) _ ?r2 underlying43 rfl (by rw[xD.out];exact iH) ?_;(case r2=>exact R5));refine(Ck _).mono ?_;rintro e w6 ⟨rfl,G6⟩;have oL:=kH (lu.trans G6);have Xv:=kH (Hr.ae G6 qx);have U4:=kH (Hr.ae G6 U3);have m0:=iE U4;clear G6 lu qx U3 R5 Ck;go_wp2_with fail;go_ret;exact⟨l7 nY.symm,oL⟩
    |true=>
     cases t3 with
     |false=>
      have nY:=kH (Xu (by rw[PD.out];rfl));clear PD Xu EE
      go_wp2_with (first
       |(refine auA rfl 121 _ rfl b (o+j*41) rfl x _ ?r1 underlying121 rfl (by rw[CS.out];exact iU) ?_;(case r1=>exact RG))
       |(refine auf rfl 121 _ _ rfl wr.heap.size x.toArray rfl rfl 121 _ (at5 wr _) (by rw[CU.out];exact iU) (by rw[CU.out];rfl) kL ?_))
      refine(oQ _ (HG.trans (fC _)) (Xt _)).mono ?_;rintro e w5 ⟨rfl,G5⟩;have lu:=kH (HG.trans ((fC _).trans G5));have qx:=kH (Hr.ae G5 (CK _));have U3:=kH (Hr.ae ((fC _).trans G5) HM);have R5:Hid (w5.rangeAt (wr.heap.size) 1 (hL u.was)):=fun i v hv=>by rw[cr qx.out,apm];exact Ju.2 i v hv
      have hl5:=(gs qx).1;clear G5 CK fC Xt u0 oQ;go_wp2_with (refine gQ (by rfl) 43 _ rfl wr.heap.size 1 rfl (hL u.was) _ ?r2 underlying43 rfl (by rw[xD.out];exact iH) ?_;(case r2=>exact R5));refine(Ck _).mono ?_;rintro e w6 ⟨rfl,G6⟩;have oL:=kH (lu.trans G6);have Xv:=kH (Hr.ae G6 qx);have U4:=kH (Hr.ae G6 U3);have m0:=iE U4;clear G6 lu qx U3 R5 Ck;go_wp2_with (refine ku (by rfl) 121 _ rfl wr.heap.size rfl 121 x.toArray (0,0) _ ?r3 underlying121 rfl (by rw[CU.out];exact iU) ?_;(case r3=>exact Xv));refine(Zc _ oL).mono ?_;rintro e w7 ⟨rfl,G7⟩;have zB:=kH (oL.trans G7);have HU7:=kH (Hr.ae G7 Xv);have HM7:=kH (Hr.ae G7 U4);clear G7 oL Xv U4 m0 Zc;go_wp2_with fail;go_ret;exact⟨l7 nY.symm,zB⟩
     |true=>
      have HF4:Hid (fB hn mn u=u.lost.all fun q=>decide (0<=q.1/\q.1<(hn:Int))):=by unfold Hid;rw[PD.out];simp only[arl]
      clear PD
      go_wp2_with (first
       |(refine auA rfl 121 _ rfl b (o+j*41) rfl x _ ?r1 underlying121 rfl (by rw[CS.out];exact iU) ?_;(case r1=>exact RG))
       |(refine auf rfl 121 _ _ rfl wr.heap.size x.toArray rfl rfl 121 _ (at5 wr _) (by rw[CU.out];exact iU) (by rw[CU.out];rfl) kL ?_))
      refine(oQ _ (HG.trans (fC _)) (Xt _)).mono ?_;rintro e w5 ⟨rfl,G5⟩;have lu:=kH (HG.trans ((fC _).trans G5));have qx:=kH (Hr.ae G5 (CK _));have U3:=kH (Hr.ae ((fC _).trans G5) HM);have R5:Hid (w5.rangeAt (wr.heap.size) 1 (hL u.was)):=fun i v hv=>by rw[cr qx.out,apm];exact Ju.2 i v hv
      have hl5:=(gs qx).1;clear G5 CK fC Xt u0 oQ;go_wp2_with (refine gQ (by rfl) 43 _ rfl wr.heap.size 1 rfl (hL u.was) _ ?r2 underlying43 rfl (by rw[xD.out];exact iH) ?_;(case r2=>exact R5));refine(Ck _).mono ?_;rintro e w6 ⟨rfl,G6⟩;have oL:=kH (lu.trans G6);have Xv:=kH (Hr.ae G6 qx);have U4:=kH (Hr.ae G6 U3);have m0:=iE U4;clear G6 lu qx U3 R5 Ck;go_wp2_with (refine ku (by rfl) 121 _ rfl wr.heap.size rfl 121 x.toArray (0,0) _ ?r3 underlying121 rfl (by rw[CU.out];exact iU) ?_;(case r3=>exact Xv));refine(Zc _ oL).mono ?_;rintro e w7 ⟨rfl,G7⟩;have zB:=kH (oL.trans G7);have HU7:=kH (Hr.ae G7 Xv);have HM7:=kH (Hr.ae G7 U4);clear G7 oL Xv U4 m0 Zc;have k40:w7.cell? ⟨wr.heap.size,40,none⟩=some (.slice l1 l2 l3):=(cr HU7).trans (by rw[apm];exact ahU);have rH:Hid (u.lost.length=l2):=HLS.len;go_wp2_with fail;go_loopw [38] (fun i ws=>∃q:Nat,q<=l2/\i=.int .i64 q/\(u.lost.take q).all (fun q=>decide (0<=q.1/\q.1<(hn:Int)))=true/\Gr w ws/\ws.heap[w.heap.size]?=some (.cells #[.slice ma mn mc,.slice ha hn hc] 28 (0,0))) (fun i _=>l2-(intOf i).toNat)
      case atStart=>exact⟨0,apF _,rfl,rfl,zB,HM7⟩
      case round=>
       obtain⟨q,hq',rfl,hall,G,KM⟩:=hrel;have HAq:Hid ((u.lost.take q).all (fun q=>decide (0<=q.1/\q.1<(hn:Int)))=true):=hall;have HGq:Hid (Gr w wr):=G;have HMq:Hid (wr.heap[w.heap.size]?=some (.cells #[.slice ma mn mc,.slice ha hn hc] 28 (0,0))):=KM;clear hall G KM k40 HU7;by_cases hlq:q<l2
       ·obtain⟨p,hp⟩:∃p,u.lost[q]?=some p:=⟨_,api (by rw[rH.out];exact hlq)⟩;obtain⟨b7,o7,rfl,hb7,hc7⟩:=HLS.spot ab;have z0:wr.cell? ⟨b7,o7+q*2,none⟩=some (.int .i64 p.1):=(HGq.cell _ (by exact hb7)).trans (hc7 q p hp).1;have z1:wr.cell? ⟨b7,o7+q*2+1,none⟩=some (.int .u32 p.2):=(HGq.cell _ (by exact hb7)).trans (hc7 q p hp).2;have HCq:Hid (∀W:World,Gr w W->W.heap[w.heap.size]?=some (.cells #[.slice ma mn mc,.slice ha hn hc] 28 (0,0))->Calls prog 70 #[.int .i64 p.1,.pointer (some ⟨w.heap.size,0,none⟩)] W fun e w'=>e=.returned (.bool (decide (0<=p.1/\p.1<hn)))/\Gr W w'):=HC p.1;have HTq:Hid ((u.lost.take (q+1)).all (fun q=>decide (0<=q.1/\q.1<(hn:Int)))=((u.lost.take q).all (fun q=>decide (0<=q.1/\q.1<(hn:Int))) && decide (0<=p.1/\p.1<(hn:Int)))):=pV _ _ _ _ hp;have HNq:Hid (decide (0<=p.1/\p.1<(hn:Int))=false->us.all (fB hn mn)=false):=fun h=>Xu (by rw[HF4.out];exact yH hp h)
        clear hc7 hp;obtain⟨p1,p2⟩:=p;simp only at *
        generalize decide (0<=p1/\p1<(hn:Int))=t5 at HCq HTq HNq;cases t5 with
        |false=>
         have nY:Hid (us.all (fB hn mn)=false):=HNq rfl;clear HNq HTq;go_wp2_with fail;refine(HCq _ (HGq.alloc _) (Hr.ae br HMq)).mono ?_;rintro e w8 ⟨rfl,G8⟩;have Rm:Hid (Gr w w8):=(HGq.alloc _).trans G8;clear G8 HCq z0 z1;go_wp2_with fail;go_ret;exact⟨l7 nY.symm,Rm⟩
        |true=>
         clear HNq;go_wp2_with fail;refine(HCq _ (HGq.alloc _) (Hr.ae br HMq)).mono ?_;rintro e w8 ⟨rfl,G8⟩;have Rm:Hid (Gr w w8):=(HGq.alloc _).trans G8;have HM8:Hid (w8.heap[w.heap.size]?=some (.cells #[.slice ma mn mc,.slice ha hn hc] 28 (0,0))):=Hr.ae (br.trans G8) HMq;clear G8 HCq z0 z1;go_wp2_with fail;go_roundw
         case rel=>exact⟨q+1,ab,by go_num,by rw[HTq.out,HAq.out];rfl,Rm,HM8⟩
         case measure=>simp[intOf];omega
       ·have HYe:Hid ((us.take (j+1)).all (fB hn mn)=true):=by
         unfold Hid;rw[EE.out,HA.out,HF4.out];have:=HAq;rwa[ap0 (by rw[rH.out];omega)]at this
        clear HAq EE Xu HF4;go_wp2_with fail;go_roundw
        case rel=>exact⟨j+1,ab,by go_num,HYe,HGq,HMq⟩
        case measure=>simp[intOf];omega
  ·have HYe:Hid (us.all (fB hn mn)=true):=by
    have:=HA;rwa[ap0 (by rw[HL.out];omega)]at this
   clear HA;go_wp2_with fail;go_ret;exact⟨l7 HYe.symm,HG⟩
end Ud
end Go.Proofs.YtiadhbmnfjfioaaGreatDoor
