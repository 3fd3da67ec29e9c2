/- ours -/
import Derived.Test.YtiadhbmnfjfioaaGreatDoorX30
set_option linter.unusedVariables false
set_option linter.unusedSimpArgs false
set_option maxHeartbeats 8000000
set_option maxRecDepth 100000
set_option linter.unusedSectionVars false
namespace Go.Proofs.YtiadhbmnfjfioaaGreatDoor
open Go.Proofs.Tryz hiding t1 t2 t3 t4
open Go.ChangeShapes Go.WideShapes Go.ChangeAt Go.RowKit
variable [Inhabited Hc.bN]
namespace Ud
open Mm Hh Hc Mc

variable {w w' :World} {u :Uv} {b l :Value} {ao :Option Addr} {n :Nat}
def uL (u:Uv) (b l:Value):List Value:=.int .i64 u.k::(hL u.was++[.int .u32 u.fr,b,l])
theorem oN (o:u.was.Ok):(uL u b l).length=41:=by simp[uL,aD o]
theorem q9 (o:u.was.Ok){j:Nat}(hj:j<37):(uL u b l)[1+j]?=(hL u.was)[j]?:=by have:=aD o;unfold uL;rw[Nat.add_comm,apI,apA (by omega)]
theorem eO (o:u.was.Ok)(j:Nat):(uL u b l)[38+j]?=[Value.int .u32 u.fr,b,l][j]?:=by have h:=aD o;unfold uL;rw[show 38+j=37+j+1 by omega,apI,apv (by omega),h,aqJ]
theorem aaB (h:Hv):∀v∈hL h,v.oneCell'=true:=fun v hv=>by simp only[hL,apR,apK,apx,apB,auw]at hv;rcases hv with⟨n,_,rfl⟩|rfl|rfl|rfl|rfl|rfl<;>rfl
theorem OZ (h1:b.oneCell'=true)(h2:l.oneCell'=true):∀v∈uL u b l,v.oneCell'=true:=fun v hv=>by
 simp only[uL,apx,apR,apB,auw]at hv;rcases hv with rfl|h|rfl|rfl|rfl
 ·rfl
 ·exact aaB _ v h
 ·rfl
 ·exact h1
 ·exact h2
theorem O9 (h1:b.oneCell'=true)(h2:l.oneCell'=true):(uL u b l).toArray.all (·.oneCell')=true:=auE (OZ h1 h2)
theorem iU:(prog.info? 121).map (·.size)=some 41:=by kernel_rfl
def h00:Uv:=⟨0,h0,0,[],[]⟩
theorem zU:(prog.info? 121).bind (·.zero)=some (.agg (uL h00 ax ax).toArray):=by kernel_rfl
theorem wC:(prog.info? 121).map (fun i=>(i.zero,i.size,i.bytes))=some (some (.agg (uL h00 ax ax).toArray),41,224):=by kernel_rfl
theorem oO {b o:Nat}{cs:List Value}(h:w.rangeAt b o cs)(hb:b<w.heap.size)(G:Gr w w'):w'.rangeAt b o cs:=fun j v hv=>(G.cell _ (by exact hb)).trans (h j v hv)
def lsI (ls:List (Int×Int)):List Value:=ls.flatMap fun q=>[.int .i64 q.1,.int .u32 q.2]
theorem JU (ls:List (Nat×Int)):lsI (gF ls)=Bh ls:=by
 induction ls with
 |nil=>rfl
 |cons q r ih=>simp only[lsI,gF,Bh,aqo,apL]at ih ⊢;rw[ih]
theorem GN:∀(ls:List (Int×Int)) (i:Nat) (q:Int×Int),ls[i]?=some q→(lsI ls)[i*2]?=some (.int .i64 q.1)∧(lsI ls)[i*2+1]?=some (.int .u32 q.2)
 | [],i,q,h=>by simp at h
 |p::r,0,q,h=>by simp at h;subst h;exact⟨rfl,rfl⟩
 |p::r,i+1,q,h=>by
  have ih:=GN r i q (by simpa using h);have e:lsI (p::r)=[.int .i64 p.1,.int .u32 p.2]++lsI r:=rfl;rw[e,apv (by simp;omega),apv (by simp;omega)];simp only[apH,ap8];rw[show(i+1)*2-(0+1+1)=i*2 by omega,show(i+1)*2+1-(0+1+1)=i*2+1 by omega];exact ih
structure Ls (w:World) (ao:Option Addr) (n:Nat) (ls:List (Int×Int)):Prop where
 len:ls.length=n
 spot:0<n->∃b o,ao=some ⟨b,o,none⟩/\b<w.heap.size/\∀i p,ls[i]?=some p->w.cell? ⟨b,o+i*2,none⟩=some (.int .i64 p.1)/\w.cell? ⟨b,o+i*2+1,none⟩=some (.int .u32 p.2)
theorem Ls.of {ls:List (Int×Int)}(h:Ls w ao n ls)(g:Gr w w'):Ls w' ao n ls:=
 ⟨h.len,fun hn=>by
  obtain⟨b,o,e,hb,hc⟩:=h.spot hn;exact⟨b,o,e,apq hb g.size,fun i q hq=>⟨(g.cell _ (by exact hb)).trans (hc i q hq).1,(g.cell _ (by exact hb)).trans (hc i q hq).2⟩⟩⟩
def Uc (w:World) (u:Uv) (x:List Value):Prop:=∃ba bn bc la ln lc,x=uL u (.slice ba bn bc) (.slice la ln lc)/\u.Ok/\(-9223372036854775808<=u.k/\u.k<=9223372036854775807)/\(∀q∈u.lost, -9223372036854775808<=q.1/\q.1<=9223372036854775807)/\Mem w ba bn u.bs/\Ls w la ln u.lost/\bn<=140737488351232/\ln<=8796093022208
theorem Uc.of {x:List Value}(h:Uc w u x)(G:Gr w w'):Uc w' u x:=by obtain⟨ba,bn,bc,la,ln,lc,e,o,k1,k2,M,L,b1,b2⟩:=h;exact⟨ba,bn,bc,la,ln,lc,e,o,k1,k2,M.of G,L.of G,b1,b2⟩
theorem Uc.len {x:List Value}(h:Uc w u x):x.length=41:=by obtain⟨ba,bn,bc,la,ln,lc,rfl,o,_⟩:=h;exact oN o.was
theorem Uc.one {x:List Value}(h:Uc w u x):x.toArray.all (·.oneCell')=true:=by obtain⟨ba,bn,bc,la,ln,lc,rfl,o,_⟩:=h;exact O9 rfl rfl
structure Us (w:World) (ao:Option Addr) (n:Nat) (us:List Uv):Prop where
 len:us.length=n
 spot:0<n->∃b o,ao=some ⟨b,o,none⟩/\b<w.heap.size/\∀j u,us[j]?=some u->∃x,Uc w u x/\w.rangeAt b (o+j*41) x
theorem Us.of {us:List Uv}(h:Us w ao n us)(G:Gr w w'):Us w' ao n us:=
 ⟨h.len,fun hn=>by
  obtain⟨b,o,e,hb,hc⟩:=h.spot hn;refine⟨b,o,e,apq hb G.size,fun j u hj=>?_⟩;obtain⟨x,h1,h2⟩:=hc j u hj;exact⟨x,h1.of G,oO h2 hb G⟩⟩
def Uo (w:World) (u:Uv) (x:List Value):Prop:=∃M L,x=uL u M L/\Hc.Own w Hc.mb M u.bs/\w.ownsRow Hc.mb 159 2 L u.lost.length (lsI u.lost)
def Ky (w w':World):Prop:=∀(k:Nat) (o:Array Value) (t:Nat) (f:Nat×Nat),(t=5\/t=159)->w.heap[k]?=some (.cells o t f)->w'.heap[k]?=w.heap[k]?
theorem Ky.bD (G:Gr w w'):Ky w w':=fun k o t f _ h=>G.block _ (gs h).1
theorem Uo.to {x:List Value}(h:Uo w u x)(q:Ky w w'):Uo w' u x:=by obtain⟨M,L,e,h1,h2⟩:=h;exact⟨M,L,e,h1.to fun k o f hk=>q k o _ f (.inl rfl) hk,aj h2 fun k o f hk=>q k o _ f (.inr rfl) hk⟩
theorem Uo.one {x:List Value}(h:Uo w u x):∀v∈x,v.oneCell'=true:=by obtain⟨M,L,rfl,h1,h2⟩:=h;obtain⟨a,c,rfl,_⟩:=h1.mem;exact OZ rfl (az h2).2.1
structure Ux (w:World) (us:List Uv) (xs:List Value):Prop where
 len:xs.length=us.length*41
 at_:∀(j:Nat) (u:Uv),us[j]?=some u->∃x,Uo w u x/\x.length=41/\∀i v,x[i]?=some v->xs[j*41+i]?=some v
theorem Ux.nil (w:World):Ux w [] []:=⟨rfl,fun j u h=>by simp at h⟩
theorem Ux.to {us:List Uv}{xs:List Value}(h:Ux w us xs)(q:Ky w w'):Ux w' us xs:=
 ⟨h.len,fun j u hj=>by
  obtain⟨x,h1,h2⟩:=h.at_ j u hj;exact⟨x,h1.to q,h2⟩⟩
theorem Ux.snoc {us:List Uv}{xs x:List Value}(h:Ux w us xs)(k:Uo w u x)(hx:x.length=41):Ux w (us++[u]) (xs++x):=by
 have hl:=h.len;refine⟨by rw[apo,apo,hl,hx];simp;omega,fun j c hc=>?_⟩;by_cases hj:j<us.length
 ·rw[apA hj]at hc;obtain⟨y,h1,h2,h3⟩:=h.at_ j c hc;refine⟨y,h1,h2,fun i v hi=>?_⟩;have:i<41:=by have:=(apj.1 hi).1;omega
  rw[apA (by omega)];exact h3 i v hi
 ·rw[apv (by omega)]at hc;have hj2:j=us.length:=by
   have:=(apj.1 hc).1;simp at this;omega
  subst hj2;simp at hc;subst hc;refine⟨x,k,hx,fun i v hi=>?_⟩;rw[apv (by omega),hl,aqJ];exact hi
theorem nD {base e sz c:Nat}{a:Option Addr}{xs:List Value}(h:w.ownsRow base e sz (.slice a n c) n xs)(hn:0<n):∃g,a=some ⟨g,0,none⟩/\g<w.heap.size/\∀j v,xs[j]?=some v->w.cell? ⟨g,j,none⟩=some v:=by
 rcases h.2 with⟨e0,hz⟩|⟨g,cap,cur,e1,_,hg,_,_,_,ht⟩
 ·omega
 ·injection e1 with e1 _ _;refine⟨g,e1,(gs hg).1,fun j v hj=>?_⟩;rw[cr hg];rw[<-ht,apS]at hj;split at hj
  ·simpa using hj
  ·cases hj
theorem Uo.uc {x:List Value}(h:Uo w u x)(o:u.Ok)(k1 : -9223372036854775808<=u.k/\u.k<=9223372036854775807)(k2:∀q∈u.lost, -9223372036854775808<=q.1/\q.1<=9223372036854775807)(b1:u.bs.length<=4096)(b2:u.lost.length<=4096):Uc w u x:=by obtain⟨M,L,rfl,h1,h2⟩:=h;obtain⟨ba,bc,rfl,M1⟩:=h1.mem;obtain⟨_,_,la,lc,rfl⟩:=az h2;refine⟨ba,_,bc,la,_,lc,rfl,o,k1,k2,M1,⟨rfl,fun hn=>?_⟩,by omega,by omega⟩;obtain⟨g,rfl,hg,hr⟩:=nD h2 hn;refine⟨g,0,rfl,hg,fun i p hp=>?_⟩;have:=GN _ _ _ hp;rw[apu];exact⟨hr _ _ this.1,hr _ _ this.2⟩
theorem Ux.us {us:List Uv}{xs:List Value}{base c:Nat}{a:Option Addr}(h:Ux w us xs)(r:w.ownsRow base 121 41 (.slice a n c) n xs)(hl:us.length=n)(ok:∀u∈us,u.Ok/\(-9223372036854775808<=u.k/\u.k<=9223372036854775807)/\(∀q∈u.lost, -9223372036854775808<=q.1/\q.1<=9223372036854775807)/\u.bs.length<=4096/\u.lost.length<=4096):Us w a n us:=
 ⟨hl,fun hn=>by
  obtain⟨g,e,hg,hr⟩:=nD r hn;refine⟨g,0,e,hg,fun j u hj=>?_⟩;obtain⟨x,h1,h2,h3⟩:=h.at_ j u hj;obtain⟨o,k1,k2,b1,b2⟩:=ok u (aps hj);exact⟨x,h1.uc o k1 k2 b1 b2,fun i v hi=>by rw[apu];exact hr _ _ (h3 i v hi)⟩⟩
def UsL (w:World) (lo:Nat) (ao:Option Addr) (n:Nat):Prop:=∀b o,ao=some ⟨b,o,none⟩->∀j,j<n->lo<=b/\(∀ba bn bc,w.cell? ⟨b,o+j*41+39,none⟩=some (.slice ba bn bc)->∀ad,ba=some ad->lo<=ad.block)/\(∀la ln lc,w.cell? ⟨b,o+j*41+40,none⟩=some (.slice la ln lc)->∀ad,la=some ad->lo<=ad.block)
theorem GQ {base e sz m n c lo:Nat}{a:Option Addr}{xs:List Value}(h:w.ownsRow base e sz (.slice a n c) m xs)(hl:lo<=base):∀ad,a=some ad->lo<=ad.block:=by
 intro ad e;rcases h.2 with⟨q,_⟩|⟨g,cap,cur,q,hb,_⟩
 ·injection q with q;rw[e]at q;cases q
 ·injection q with q;rw[e]at q;injection q with q;subst q;exact apr hl hb
theorem Ux.usl {us:List Uv}{xs:List Value}{base c:Nat}{a:Option Addr}(h:Ux w us xs)(r:w.ownsRow base 121 41 (.slice a n c) n xs)(hl:us.length=n)(ok:∀u∈us,u.was.Ok)(hb:Hc.mb<=base):UsL w Hc.mb a n:=by
 intro b o e j hj;obtain⟨g,e2,_,hr⟩:=nD r (by omega);have hlo:=GQ r hb _ e;rw[e]at e2;injection e2 with e2;injection e2 with e3 e4;subst e3 e4;have hu:us[j]?=some us[j]:=api (by omega);obtain⟨x,⟨M,L,rfl,h1,hL⟩,h2,h3⟩:=h.at_ j _ hu;have h4:=hr _ _ (h3 39 M (by have:=eO (u:=us[j]) (b:=M) (l:=L) (ok _ (aps hu)) 1;simpa using this));have h5:=hr _ _ (h3 40 L (by have:=eO (u:=us[j]) (b:=M) (l:=L) (ok _ (aps hu)) 2;simpa using this));rw[apu];refine⟨hlo,fun ba bn bc hc ad hb=>?_,fun la ln lc hc ad hb=>?_⟩
 ·rw[h4]at hc;injection hc with hc;subst hc hb;rcases h1 with⟨h1,_⟩|⟨k,cap,h1,⟨h6,_⟩,_⟩
  ·injection h1 with h1;cases h1
  ·injection h1 with h1;injection h1 with h1;subst h1;exact h6
 ·rw[h5]at hc;injection hc with hc;subst hc;exact GQ hL (apn _) ad hb
end Ud
namespace Ud
open Mm Hh Hc Mc

theorem EJ {h:Hv}(o:h.Ok)(k:Int):prog.built 121 [(0,.int .i64 k),(1,.agg (hL h).toArray)]=some (uL ⟨k,h,0,[],[]⟩ ax ax).toArray:=by
 obtain⟨it,hi,hz⟩:=ko zU;have hp:∀fs,prog.underlying 121=some (.struct fs)->fs.toList.mapM (fun f=>(prog.info? f.type).map fun i=>(f.offset,i.size))=some [(0,1),(1,37),(38,1),(39,1),(40,1)]:=fun fs e=>by
  rw[underlying121]at e;injection e with e;injection e with e;subst e
  kernel_rfl
 have ls:=aD o;have z1:(uL h00 ax ax).toArray.size=41:=by simp[oN (u:=h00) iO]
 unfold Program.built;simp only[hi,underlying121,hz,hp _ underlying121];unfold Instr.fill;simp only[apm,apw];have e0:(Value.int .i64 k).cells=#[.int .i64 k]:=rfl;have e1:(Value.agg (hL h).toArray).cells=(hL h).toArray:=rfl;have e2:(Value.agg (uL h00 ax ax).toArray).cells=(uL h00 ax ax).toArray:=rfl;rw[e0,e2,at6 (by simp[oN (u:=h00) iO]),lX];unfold Instr.fill;simp only[apm,apI,apw];rw[e1,at6 (by simp[ls,oN (u:=h00) iO])];unfold Instr.fill;refine congrArg some ?_;apply aqC;intro i;have a1:=iA 1 (hL h).toArray ((uL h00 ax ax).toArray.setIfInBounds 0 (.int .i64 k));rw[a1.2 i];simp only[ap4,z1,ap2,ls];by_cases hi2:1<=i/\i<38
 ·rw[dU];obtain⟨j,rfl⟩:∃j,i=1+j:=⟨i-1,by omega⟩;rw[apm,apm,q9 (u:=⟨k,h,0,[],[]⟩) o (by omega),aqJ]
 ·rw[ak,arf];by_cases h0':i=0
  ·subst h0';rw[at7 rfl,at7 (by rw[z1];omega)];rfl
  ·rw[at6 (fun e=>h0' e.symm)];obtain⟨j,rfl⟩:∃j,i=38+j:=⟨i-38,by omega⟩;rw[apm,apm,eO (u:=h00) iO,eO (u:=⟨k,h,0,[],[]⟩) o];rfl
theorem Pm {n:Nat}{A Z:Array Value}(hA:A.size=n)(hZ:Z.size=n):Instr.fill (fun i=>some (i*n,n)) Z [(0,.agg A)]=some A:=by
 unfold Instr.fill;simp only[aqI];have e1:(Value.agg A).cells=A:=rfl;rw[e1,at6 (by simp[hA,hZ])];unfold Instr.fill;refine congrArg some ?_;apply aqC;intro i;have a1:=iA 0 A Z;rw[a1.2 i];by_cases hi:i<n
 ·rw[dU];simp
 ·rw[ak,Array.getElem?_eq_none (by omega),Array.getElem?_eq_none (by omega)]
theorem mH {P:Program}{ops:Array Oper}{o:Oper}{a:Act}{w:World}{K:Act→World→Prop}{Q:Exit→Act→World→Prop}{E:Prop}(hg:o.guard=none)(t e:TypeId)(x:Operand)(ho:o.op=.buildSlice t 1 #[(0,x)])(A:Array Value)(n:Nat)(hx:a.eval x=.agg A)(hA:A.size=n)(hu:P.underlying t=some (.slice e))(hi:(P.info? e).map (fun i=>(i.zero.isSome,i.size))=some (true,n))(h0:0<n)(hn:n<=1000)(h:K (a.put o.dst (.slice (some ⟨w.heap.size,0,none⟩) 1 1)) (w.alloc (.cells A e))):if Region.wanted o (yielded ops a.tmps)=true then Oper.wp P o a w K Q else E:=by
 rw[at7 (by simp[Region.wanted,hg])];cases hie:P.info? e with
 |none=>simp[hie]at hi
 |some ie=>
  simp only[hie,ap7,auj,auX]at hi;obtain⟨hz,hs⟩:=hi;obtain⟨z,hzz⟩:=Option.isSome_iff_exists.1 hz;refine wp_buildSlice t e 1 _ ho A ie z hu hie hzz (by rw[hs];omega) (by rw[hs];omega) ?_ h;simp only[List.map_toArray,aqo,aru,hx,hs,Nat.one_mul];exact Pm hA (by simp)
theorem vT {P:Program}{ops:Array Oper}{rest:List Oper}{o:Oper}{a:Act}{w:World}{Q:Exit→Act→World→Prop}(hg:o.guard=none)(t e:TypeId)(x:Operand)(ho:o.op=.buildSlice t 1 #[(0,x)])(A:Array Value)(n:Nat)(hx:a.eval x=.agg A)(hA:A.size=n)(hu:P.underlying t=some (.slice e))(hi:(P.info? e).map (fun i=>(i.zero.isSome,i.size))=some (true,n))(h0:0<n)(hn:n<=1000)(h:wpList P ops Q rest (a.put o.dst (.slice (some ⟨w.heap.size,0,none⟩) 1 1)) (w.alloc (.cells A e))):wpList P ops Q (o::rest) a w:=
 au5 hg fun K hK=>by
  have:=mH (ops:=#[]) (E:=True) (Q:=Q) hg t e x ho A n hx hA hu hi h0 hn (hK _ _ h);rwa[at7 (by simp[Region.wanted,hg])]at this
theorem iUz:(prog.info? 121).map (fun i=>(i.zero.isSome,i.size))=some (true,41):=by kernel_rfl
theorem Pn {u:Uv}{b l:Value}(o:u.was.Ok)(f:Int):(uL u b l).toArray.setIfInBounds 38 (.int .u32 f)=(uL { u with fr:=f } b l).toArray:=by have:=aD o;unfold uL;rw[apl,apy,apJ _ _ (by omega),this];rfl
theorem Po {u:Uv}{b l b':Value}(o:u.was.Ok):(uL u b l).toArray.setIfInBounds 39 b'=(uL u b' l).toArray:=by have:=aD o;unfold uL;rw[apl,apy,apJ _ _ (by omega),this];rfl
theorem Pq {u:Uv}{b l l':Value}(o:u.was.Ok):(uL u b l).toArray.setIfInBounds 40 l'=(uL u b l').toArray:=by have:=aD o;unfold uL;rw[apl,apy,apJ _ _ (by omega),this];rfl
structure Rw (w:World) (base g:Nat) (M:Value) (gh hc:Nat) (O U:Value) (xs:List Value) (s:Sh) (us:List Uv):Prop where
 bw:Bw 88 [U] w base g M gh hc O s
 row:w.ownsRow base 121 41 U us.length xs
 ux:Ux w us xs
def Rc (w:World) (base g:Nat) (s:Sh) (us:List Uv):Prop:=∃M gh hc O U xs,Rw w base g M gh hc O U xs s us
structure Fk (base:Nat) (w w':World):Prop where
 below:Below base w w'
 keep:∀(k:Nat) (q:Array Value) (t:Nat) (f:Nat×Nat),w.heap[k]?=some (.cells q t f)->t≠88->t≠43->t≠37->t≠121->w'.heap[k]?=w.heap[k]?
section
variable {w w' a b c :World} {base g gh hc :Nat} {M O U :Value} {xs :List Value} {s :Sh} {us :List Uv}
theorem Fk.trans (h:Fk base a b)(k:Fk base b c):Fk base a c:=⟨h.below.trans k.below,fun i q t f e t1 t2 t3 t4=>(k.keep i q t f ((h.keep i q t f e t1 t2 t3 t4).trans e) t1 t2 t3 t4).trans (h.keep i q t f e t1 t2 t3 t4)⟩
theorem Fk.bD (G:Gr w w')(hb:base<=w.heap.size):Fk base w w':=⟨aun G hb,fun i q t f e _ _ _ _=>G.block i (gs e).1⟩
theorem Fk.ahG (F:Fe 88 base w w'):Fk base w w':=⟨F.below,fun i q t f e t1 t2 t3 _=>F.cells e t1 t2 t3⟩
theorem Fk.set {ty:Nat}{Y:Array Value}{f:Nat×Nat}(h:Fk base a w)(hy:w.heap[g]?=some (.cells Y ty f))(ht:ty=88\/ty=121)(hg:base<=g)(i:Nat)(v:Value):Fk base a (w.setCell ⟨g,i,none⟩ v):=⟨auS h.below (by exact hg) _,fun k q t f' e t1 t2 t3 t4=>by
 have e1:=h.keep k q t f' e t1 t2 t3 t4;rw[hso (by exact aa (e1.trans e) hy (by rcases ht with rfl|rfl<;>assumption))];exact e1⟩
theorem Fk.row {k:Nat}{q:Array Value}{t:Nat}{f:Nat×Nat}(h:Fk base w w')(e:w.heap[k]?=some (.cells q t f))(t1:t≠88)(t2:t≠43)(t3:t≠37)(t4:t≠121):w'.heap[k]?=some (.cells q t f):=(h.keep k q t f e t1 t2 t3 t4).trans e
theorem Fk.grown {n:Nat}(hO:w.ownsRow base 121 41 U n xs)(q:w.grownBy w' U.ownBlock)(hb:base<=w.heap.size):Fk base w w':=⟨(auC base w).grown q hb fun k e=>(hO.lt k e).1,fun k o t f e _ _ _ t4=>eF hO q t4 e⟩
theorem Rw.of (R:Rw w base g M gh hc O U xs s us)(G:Gr w w'):Rw w' base g M gh hc O U xs s us:=⟨R.bw.of G,aC R.row G,R.ux.to (Ky.bD G)⟩
theorem Rc.of (R:Rc w base g s us)(G:Gr w w'):Rc w' base g s us:=by obtain⟨M,gh,hc,O,U,xs,R⟩:=R;exact⟨M,gh,hc,O,U,xs,R.of G⟩
theorem aaD {rs:List Value}(B:Bw 88 rs w base g M gh hc O s)(q:∀(k:Nat) (o:Array Value) (t:Nat) (f:Nat×Nat),t≠121->w.heap[k]?=some (.cells o t f)->w'.heap[k]?=w.heap[k]?):Bw 88 rs w' base g M gh hc O s:=⟨B.t1,B.t2,B.t3,B.bg,(q _ _ _ _ (by decide) B.blk).trans B.blk,B.mem.to fun k o f e=>q k o _ f (by decide) e,B.bh,B.row.to fun k o f e=>q k o _ f (by decide) e,aj B.out fun k o f e=>q k o _ f (by decide) e,⟨B.hz.1.to fun k o f e=>q k o _ f (by decide) e,B.hz.2⟩⟩
theorem Rw.take (R:Rw w base g M gh hc O U xs s us){s':Sh}(B:Bd 88 [U] w' base g s')(F:Fe 88 base w w'):∃M' gh' hc' O',Rw w' base g M' gh' hc' O' U xs s' us:=by obtain⟨M',gh',hc',O',B⟩:=B;exact⟨M',gh',hc',O',B,aj R.row fun k o f e=>F.cells e (by decide) (by decide) (by decide),R.ux.to fun k o t f ht e=>F.cells e (by rcases ht with rfl|rfl<;>decide) (by rcases ht with rfl|rfl<;>decide) (by rcases ht with rfl|rfl<;>decide)⟩
theorem Rw.put (R:Rw w base g M gh hc O U xs s us){u:Uv}{x:List Value}(hu:Uo w u x)(hx:x.length=41){v:Value}{n:Nat}(hn:n=us.length+1)(hown:w'.ownsRow base 121 41 v n (xs++x))(q:w.grownBy w' U.ownBlock):w'.cell? ⟨g,4,none⟩=some U/\w'.frozen? ⟨g,4,none⟩=false/\Rc (w'.setCell ⟨g,4,none⟩ v) base g s (us++[u])/\Fk base w (w'.setCell ⟨g,4,none⟩ v):=by
 have st:∀(k:Nat) (o:Array Value) (t:Nat) (f:Nat×Nat),t≠121->w.heap[k]?=some (.cells o t f)->w'.heap[k]?=w.heap[k]?:=fun k o t f ht e=>eF R.row q ht e
 have B1:=aaD R.bw st;have B2:=B1.vM 0 v;have nx:∀(k:Nat) (o:Array Value) (t:Nat) (f:Nat×Nat),t≠88->w'.heap[k]?=some (.cells o t f)->(w'.setCell ⟨g,4,none⟩ v).heap[k]?=w'.heap[k]?:=fun k o t f ht e=>hso (by exact aa e B1.blk ht)
 have ky:Ky w (w'.setCell ⟨g,4,none⟩ v):=fun k o t f ht e=>by
  have e1:=st k o t f (by rcases ht with rfl|rfl<;>decide) e;exact(nx k o t f (by rcases ht with rfl|rfl<;>decide) (e1.trans e)).trans e1
 refine⟨B1.rest 0,B1.fz 4,⟨M,gh,hc,O,v,xs++x,B2,?_,(R.ux.to ky).snoc (hu.to ky) hx⟩,(Fk.grown R.row q R.bw.ay).set B1.blk (.inl rfl) R.bw.bg 4 v⟩;have:=aj hown fun k o f e=>nx k o _ f (by decide) e
 rw[apo,apW,<-hn];exact this
end
theorem JV {p:World->Prop}{x:World}(F:World->Prop)(hF:F x)(h:∀y,F y->p y):p x:=h x hF
theorem szC (w:World)(p:Addr)(v:Value):(w.setCell p v).heap.size=w.heap.size:=by simp
structure One (P:Prop):Prop where
 out:P
theorem Pt {P Q:Prop}(h:One P->Q)(p:P):Q:=h ⟨p⟩
theorem Xp {w:World}{b n:Nat}(T:TT w b)(h:b<=n):TT w n:=⟨T.tab,⟨T.tb.sizes,T.tb.opers,apq T.tb.b1 h,apq T.tb.b2 h⟩,apq T.b1 h,apq T.b2 h⟩
theorem uX {w w':World}{b:Nat}(T:TT w b)(h:Below b w w'):TT w' b:=⟨⟨fun i n e=>(auJ h (by exact T.b1)).trans (T.tab.shapes i n e),fun i n e=>(auJ h (by exact T.b2)).trans (T.tab.uppers i n e)⟩,⟨fun i n e=>(auJ h (by exact T.tb.b1)).trans (T.tb.sizes i n e),fun i n e=>(auJ h (by exact T.tb.b2)).trans (T.tb.opers i n e),T.tb.b1,T.tb.b2⟩,T.b1,T.b2⟩
end Ud
end Go.Proofs.YtiadhbmnfjfioaaGreatDoor
