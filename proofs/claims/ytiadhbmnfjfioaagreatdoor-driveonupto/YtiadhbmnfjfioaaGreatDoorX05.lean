/- ours -/
import Derived.Test.YtiadhbmnfjfioaaGreatDoorX04
set_option linter.unusedVariables false
set_option linter.unusedSimpArgs false
set_option maxHeartbeats 8000000
set_option maxRecDepth 100000
set_option linter.unusedSectionVars false
namespace Go.Proofs.YtiadhbmnfjfioaaGreatDoor
open Go.Proofs.Tryz hiding cs parts t1 t2 t3
open Go.ChangeShapes Go.WideShapes Go.ChangeAt Go.RowKit
variable{a:Act}{ad:Addr}{ops:Array Oper}{fn:Func}{x sl' pc:Int}{ps ss:List (Int×Int)}{os:List Int}{l m:List UInt8}{xs:List Value}{i k n cap hn t b pn g mc mn:Nat}{ao ma ha pa:Option Addr}{P:Program}{z v:Value}{w w':World}
namespace Kc
variable[Inhabited Hc.bN]
open Mm Ts
variable{room:Int}{bs:List Bv}{b:Bv}
def vJ (bs:List Bv):Prop:=bs.Pairwise fun a b=>¬a.pc=b.pc
theorem rG:∀{bs:List Bv} {k j:Nat},place pc bs k=((k+j:Nat):Int)→∃b,bs[j]?=some b∧b.pc=pc
 | [],k,j,h=>by unfold place at h;omega
 |b::r,k,j,h=>by
  unfold place at h;split at h
  ·rename_i e;have:j=0:=ab;subst this;exact⟨b,rfl,e⟩
  ·rcases fU pc r (k+1)with h2|⟨i,x,h2,hx⟩
   ·omega
   ·have e:j=i+1:=ab;subst e;obtain⟨y,hy,he⟩:=rG (bs:=r) (k:=k+1) (j:=i) h2;exact⟨y,by simpa using hy,he⟩
theorem pU {k:Int}(h:k<(i:Int)):o6 k bs i=bs:=by
 induction bs generalizing i with
 |nil=>rfl
 |cons b r ih=>
  unfold o6;rw[ak,ih ab]
theorem yA:∀(bs:List Bv) (k:Int) (i:Nat),(o6 k bs i).Sublist bs
 | [],k,i=>List.Sublist.refl _
 |b::r,k,i=>by
  unfold o6;split
  ·exact(yA r k (i+1)).trans (List.sublist_cons_self b r)
  ·exact(yA r k (i+1)).cons_cons b
theorem FY:∀{bs:List Bv} {i:Nat},vJ bs→∀b∈o6 (place pc bs i) bs i,¬b.pc=pc
 | [],i,_,b,h=>by cases h
 |c::r,i,hs,b,h=>by
  have hs2:vJ r:=(arj.1 hs).2;have hc:=(arj.1 hs).1;by_cases e:c.pc=pc
  ·have ep:place pc (c::r) i=(i:Int):=by unfold place;rw[at7 e]
   rw[ep]at h;unfold o6 at h;rw[at7 rfl,pU ab]at h;intro e2;exact hc b h (e.trans e2.symm)
  ·have ep:place pc (c::r) i=place pc r (i+1):=by rw[place,at6 e]
   rw[ep]at h;unfold o6 at h;have hne:¬(i:Int)=place pc r (i+1):=by
    rcases fU pc r (i+1)with h2|⟨j,x,h2,_⟩<;>omega
   rw[at6 hne]at h;rcases apx.1 h with rfl|h
   ·exact e
   ·exact FY hs2 b h
theorem MX {pc:Int}:∀{bs:List Bv} {i:Nat},0≤place pc bs i→(o6 (place pc bs i) bs i).length+1≤bs.length
 | [],i,h=>by unfold place at h;omega
 |c::r,i,h=>by
  by_cases e:c.pc=pc
  ·have ep:place pc (c::r) i=(i:Int):=by unfold place;rw[at7 e]
   rw[ep];unfold o6;rw[at7 rfl,pU ab];simp
  ·have ep:place pc (c::r) i=place pc r (i+1):=by rw[place,at6 e]
   rw[ep]at h ⊢;have:=MX (pc:=pc) (bs:=r) (i:=i+1) h;unfold o6;have hne:¬(i:Int)=place pc r (i+1):=by
    rcases fU pc r (i+1)with h2|⟨j,x,h2,_⟩<;>omega
   rw[at6 hne];simp;omega
theorem vJ.sub {a b:List Bv}(h:vJ b)(s:a.Sublist b):vJ a:=h.sublist s
theorem vJ.snoc (h:vJ bs)(hn:∀x∈bs,¬x.pc=b.pc):vJ (bs++[b]):=by unfold vJ;rw[List.pairwise_append];exact⟨h,List.pairwise_singleton _ _,fun x hx y hy=>by rw[apE]at hy;subst hy;exact hn x hx⟩
structure Cok (room:Int) (bs:List Bv):Prop where
 len:(bs.length:Int)<=room
 Y6:vJ bs
theorem Ty {f t:Int}:∀b∈bJ f t bs,hasB b f t=false:=fun b hb=>by have:=(arz.1 hb).2;simpa using this
theorem Cok.put (h:Cok room bs)(h0:0<=room)(b:Bv):Cok room (jy room bs b)/\(0<room->place b.pc (jy room bs b) 0=((jy room bs b).length:Int)-1/\(jy room bs b)[(jy room bs b).length-1]?=some b)/\(room=0->jy room bs b=[]):=by
 have hg:=FY (pc:=b.pc) (i:=0) h.Y6;have hsub:=yA bs (place b.pc bs 0) 0;have hlen:=LF (place b.pc bs 0) bs 0;have hl:=h.len;have hone:0<=place b.pc bs 0->(o6 (place b.pc bs 0) bs 0).length+1<=bs.length:=MX;have S:=(h.Y6.sub hsub).snoc hg;have fin:∀(l:List Bv),(∀x∈l,¬x.pc=b.pc)->place b.pc (l++[b]) 0=(((l++[b]).length:Nat):Int)-1/\(l++[b])[(l++[b]).length-1]?=some b:=fun l hn=>by
  refine⟨?_,aq⟩;have:=Ab (pc:=b.pc) (bs:=l++[b]) (j:=l.length) (k:=0) (x:=b) aq rfl (fun i y hi hy=>by
   rw[apA hi]at hy;exact hn y (aps hy))
  rw[this];simp
 unfold jy;generalize o6 (place b.pc bs 0) bs 0=r at *
 split
 ·rename_i hgt;rw[apo,apW]at hgt;cases r with
  |nil=>
   have e0:room=0:=by simp at hgt;omega
   refine⟨⟨aE,List.Pairwise.nil⟩,fun h=>absurd h ab,fun _=>rfl⟩
  |cons x r'=>
   have e:(x::r'++[b]).drop 1=r'++[b]:=rfl;rw[e];refine⟨⟨?_,(arj.1 S).2⟩,fun _=>fin r' (fun y hy=>hg y (by simp[hy])),fun e0=>?_⟩
   ·rw[apo,apW];simp at hlen hgt;omega
   ·simp at hlen;omega
 ·rename_i hle;refine⟨⟨ab,S⟩,fun _=>fin r hg,fun e0=>?_⟩;rw[apo,apW]at hle;omega
end Kc
namespace En
variable[Inhabited Hc.bN]
open Go.RowKit Mm Wd Mi Bk Ts Kc
open Mc hiding Fit
open Hh hiding Rn
variable{room pu sl:Int}{L:List Bv}{b:Bv}{l:List UInt8}{puts:Nat}
structure Ek (room:Int) (l:List UInt8) (L:List Bv) (pu sl:Int) (puts:Nat):Prop where
 cok:Cok room L
 fresh:∀b∈L,dS l b
 cnt:pu+sl+(L.length:Int)=puts
 p0:0<=pu
 s0:0<=sl
theorem Ek.nil (h:0<=room)(l:List UInt8):Ek room l [] 0 0 0:=⟨⟨by simpa using h,List.Pairwise.nil⟩,fun b hb=>(by cases hb),rfl,ab,ab⟩
theorem yB (h0:0<=x)(h1:x<=1000000000):wrap64 x=x:=by unfold wrap64;omega
theorem uo (hp:place b.pc L 0 = -1):jy room L b=(if room<((L++[b]).length:Int)then(L++[b]).drop 1 else L++[b])/\rX room pu L b=(if room<((L++[b]).length:Int)then wrap64 (pu+1)else pu):=by unfold jy rX;rw[hp,pU ab];exact⟨rfl,rfl⟩
theorem put_mem {x:Bv}(hp:place b.pc L 0 = -1)(hx:x∈jy room L b):x∈L\/x=b:=by
 rw[(uo (pu:=0) hp).1]at hx;have:x∈L++[b]:=by
  split at hx
  ·exact aqR hx
  ·exact hx
 simpa using this
theorem Ek.put (E:Ek room l L pu sl puts)(h0:0<=room)(hb:puts<=1000000)(F:dS l b)(hp:place b.pc L 0 = -1):Ek room l (jy room L b) (rX room pu L b) sl (puts+1):=by
 obtain⟨e1,e2⟩:=uo (room:=room) (pu:=pu) hp;have c:=E.cnt;have p0:=E.p0;have s0:=E.s0;refine⟨(E.cok.put h0 b).1,fun x hx=>?_,?_,?_,s0⟩
 ·rcases put_mem hp hx with h|rfl
  ·exact E.fresh x h
  ·exact F
 ·rw[e1,e2];split
  ·rw[yB ab ab,aqh,apo,apW];omega
  ·rw[apo,apW];omega
 ·rw[e2];split
  ·rw[yB ab ab];omega
  ·exact p0
def cK (ss:List (Int×Int)) (L:List Bv):List Bv:=ss.foldl (fun L p=>bJ p.1 (Wd.lo (p.1+p.2)) L) L
theorem DK (ss:List (Int×Int))(p:Int×Int)(L:List Bv):cK (ss++[p]) L=bJ p.1 (Wd.lo (p.1+p.2)) (cK ss L):=by unfold cK;rw[aqy];rfl
theorem mY:∀(ss:List (Int×Int)) (L:List Bv),(cK ss L).Sublist L
 | [],L=>List.Sublist.refl _
 |p::r,L=>(mY r _).trans List.filter_sublist
theorem A7:∀(ss:List (Int×Int)) (L:List Bv),∀b∈cK ss L,∀p∈ss,hasB b p.1 (Wd.lo (p.1+p.2))=false
 | [],L,b,hb,p,hp=>by cases hp
 |q::r,L,b,hb,p,hp=>by
  rcases apx.1 hp with rfl|hp
  ·exact Ty b ((mY r _).subset hb)
  ·exact A7 r _ b hb p hp
theorem wR (ss:List (Int×Int))(p:Int×Int)(L:List Bv):(bJ p.1 (Wd.lo (p.1+p.2)) (cK ss L)).length<=(cK ss L).length:=List.length_filter_le _ _
theorem Ek.work {s:Sh}{c:Nat}(E:Ek room s.m L pu sl puts)(hn:n<=4096)(w:AU (w0 s k) n)(hs:0<=sl')(hc:sl'+((cK (wk (w0 s k) c).av L).length:Int)=sl+(L.length:Int)):Ek room (wk (w0 s k) c).m (cK (wk (w0 s k) c).av L) pu sl' puts:=by
 have sub:=mY (wk (w0 s k) c).av L;have c0:=E.cnt;refine⟨⟨?_,E.cok.Y6.sub sub⟩,fun b hb=>?_,ab,E.p0,hs⟩
 ·have:=sub.length_le;have:=E.cok.len;omega
 ·exact DJ hn w (E.fresh b (sub.subset hb)) (A7 _ L b hb)
theorem Ek.same (E:Ek room l L pu sl puts)(hr:room<=64):L.length<=64:=by have:=E.cok.len;omega
theorem WX (h:L[i]?=some b):0<=place b.pc L 0:=by
 rcases fU b.pc L 0 with h2|⟨j,x,h2,_⟩
 ·exfalso;have:∀(l:List Bv) (k i:Nat),l[i]?=some b->0<=place b.pc l k:=by
   intro l;induction l with
   |nil=>intro k i h;simp at h
   |cons c r ih=>
    intro k i h;unfold place;split
    ·omega
    ·rename_i hc;cases i with
     |zero=>simp at h;subst h;exact absurd rfl hc
     |succ i=>exact ih (k+1) i (by simpa using h)
  have:=this L 0 i h;omega
 ·omega
theorem Ek.found (E:Ek room l L pu sl puts)(h:0<=place pc L 0):wG pc L∈L/\(wG pc L).pc=pc/\dS l (wG pc L):=by
 rcases fU pc L 0 with h2|⟨j,x,h2,hx⟩
 ·omega
 ·obtain⟨b,hb,hpc⟩:=rG (k:=0) h2;have e:wG pc L=b:=by
   unfold wG;rw[at7 h,h2,show(((0+j:Nat):Int)).toNat=j by omega,List.getD,hb];rfl
  have hm:=aps hb;rw[e];exact⟨hm,hpc,E.fresh b hm⟩
structure Kept (room:Int) (l:List UInt8) (D:Prop) (L:List Bv) (pu sl:Int):Prop where
 cok:Cok room L
 fresh:∀b∈L,dS l b
 some:room=64->D->L≠[]\/¬pu=0\/¬sl=0
def TA (m:List UInt8) (hs:List Hv) (ps:List (Int×Int)):Prop:=∃(p:Int×Int) (h:Hv),ps[0]?=some p/\0<p.2/\hs[p.1.toNat]?=some h/\h.state=0/\0<(blk m h.pc 16 0).length
end En
namespace Mc
open Mm Hh
variable{α:Type}
structure Hs (w:World) (ao:Option Addr) (n:Nat) (hs:List Hv):Prop where
 len:hs.length=n
 ok:∀h∈hs,h.Ok
 spot:0<n->∃b o,ao=some ⟨b,o,none⟩/\b<w.heap.size/\∀i h,hs[i]?=some h->w.rangeAt b (o+i*37) (hL h)
structure Ps (w:World) (ao:Option Addr) (n:Nat) (ps:List (Int×Int)):Prop where
 len:ps.length=n
 spot:0<n->∃b o,ao=some ⟨b,o,none⟩/\b<w.heap.size/\∀i p,ps[i]?=some p->w.cell? ⟨b,o+i*2,none⟩=some (.int .i64 p.1)/\w.cell? ⟨b,o+i*2+1,none⟩=some (.int .i64 p.2)
theorem Hs.of {hs:List Hv}(h:Hs w ao n hs)(g:Gr w w'):Hs w' ao n hs:=
 ⟨h.len,h.ok,fun hn=>by
  obtain⟨b,o,e,hb,hc⟩:=h.spot hn;exact⟨b,o,e,apq hb g.size,fun i q hq j v hv=>(g.cell _ (by exact hb)).trans (hc i q hq j v hv)⟩⟩
theorem Ps.of (h:Ps w ao n ps)(g:Gr w w'):Ps w' ao n ps:=
 ⟨h.len,fun hn=>by
  obtain⟨b,o,e,hb,hc⟩:=h.spot hn;exact⟨b,o,e,apq hb g.size,fun i q hq=>⟨(g.cell _ (by exact hb)).trans (hc i q hq).1,(g.cell _ (by exact hb)).trans (hc i q hq).2⟩⟩⟩
def jk (c:Nat) (p:Int×Int):Bool:=decide (0<=p.1/\p.1<c/\0<=p.2/\p.2<=400)
def wrong (m:List UInt8) (hs:List Hv) (ps:List (Int×Int)):Int:=if 4096<m.length\/hs.length<1\/4<hs.length then 2 else if hs.all may=false then 2 else if 300<ps.length then 1 else if ps.all (jk hs.length)=false then 3 else 0
theorem pV (f:α->Bool)(l:List α)(k:Nat)(x:α)(h:l[k]?=some x):(l.take (k+1)).all f=((l.take k).all f && f x):=by rw[apU,h];simp
theorem all_false {f:α->Bool}{l:List α}{x:α}(h:l[k]?=some x)(hx:f x=false):l.all f=false:=by rw[List.all_eq_false];exact⟨x,aps h,by simp[hx]⟩
end Mc
namespace Mc
open Mm Hh
variable{w:World}{g i j n:Nat}{hs:List Hv}{h h':Hv}
def hC (hs:List Hv):List Value:=hs.flatMap hL
theorem oG:∀{hs:List Hv},(∀h∈hs,h.Ok)→(hC hs).length=hs.length*37
 | [],_=>rfl
 |h::r,o=>by
  have ih:=oG (hs:=r) (fun q hq=>o q (by simp[hq]));unfold hC at ih ⊢;simp only[apL,apo,apH,aD (o h aq),ih];omega
theorem DL:∀{hs:List Hv},(∀h∈hs,h.Ok)→∀{i j:Nat} {h:Hv},hs[i]?=some h→j<37→(hC hs)[i*37+j]?=(hL h)[j]?
 | [],_,i,j,h,hi,_=>by simp at hi
 |q::r,o,0,j,h,hi,hj=>by
  simp at hi;subst hi;unfold hC;rw[apL,aqI,apu,apA (by rw[aD (o q aq)];exact hj)]
 |q::r,o,i+1,j,h,hi,hj=>by
  have ih:=DL (hs:=r) (fun q hq=>o q (by simp[hq])) (i:=i) (j:=j) (h:=h) (by simpa using hi) hj;have lq:=aD (o q aq);unfold hC at ih ⊢;rw[apL,apv ab,lq,<-ih];congr 1;omega
theorem MZ:∀{hs:List Hv},(∀h∈hs,h.Ok)→∀{i j:Nat} {h h':Hv} {v:Value},hs[i]?=some h→j<37→(hL h).set j v=hL h'→(hC hs).set (i*37+j) v=hC (hs.set i h')
 | [],_,i,j,h,h',v,hi,_,_=>by simp at hi
 |q::r,o,0,j,h,h',v,hi,hj,e=>by
  simp at hi;subst hi;unfold hC;rw[apL,aqI,apu,aqn _ _ (by rw[aD (o q aq)];exact hj),e];rfl
 |q::r,o,i+1,j,h,h',v,hi,hj,e=>by
  have ih:=MZ (hs:=r) (fun q hq=>o q (by simp[hq])) (i:=i) (j:=j) (h:=h) (h':=h') (v:=v) (by simpa using hi) hj e;have lq:=aD (o q aq);unfold hC at ih ⊢;rw[apL,apJ _ _ ab,lq,show(i+1)*37+j-37=i*37+j by omega,ih];rfl
structure bQ (w:World) (g:Nat) (hs:List Hv):Prop where
 ok:∀h∈hs,h.Ok
 row:∃rest:List Value,w.heap[g]?=some (.cells (hC hs++rest).toArray 43 (0,0))
theorem bQ.cell (r:bQ w g hs)(hi:hs[i]?=some h)(hj:j<37):w.cell? ⟨g,i*37+j,none⟩=(hL h)[j]?:=by obtain⟨rest,e⟩:=r.row;have li:=(apj.1 hi).1;rw[cr e,apm,apA (by rw[oG r.ok];omega),DL r.ok hi hj]
theorem bQ.range (r:bQ w g hs)(hi:hs[i]?=some h):w.rangeAt g (i*37) (hL h):=fun j v hv=>by
 have hj:j<37:=by have:=(apj.1 hv).1;rwa[aD (r.ok h (aps hi))]at this
 rw[r.cell hi hj];exact hv
theorem bQ.fz (r:bQ w g hs)(j:Nat):w.frozen? ⟨g,j,none⟩=false:=by obtain⟨rest,e⟩:=r.row;exact aus _ _ j _ _ e
theorem bQ.there (r:bQ w g hs)(hi:hs[i]?=some h):w.there g (i*37) 37:=fun j hj=>by refine⟨?_,r.fz _⟩;rw[r.cell hi hj,api (by rw[aD (r.ok h (aps hi))];exact hj)];rfl
theorem M3 (o:∀h∈hs,h.Ok)(i:Nat)(o':h'.Ok):∀h∈hs.set i h',h.Ok:=fun h hm=>by
 rcases List.mem_or_eq_of_mem_set hm with h1|rfl
 ·exact o h h1
 ·exact o'
theorem bQ.set (r:bQ w g hs){v:Value}(hi:hs[i]?=some h)(hj:j<37)(e:(hL h).set j v=hL h')(o':h'.Ok):bQ (w.setCell ⟨g,i*37+j,none⟩ v) g (hs.set i h'):=by obtain⟨rest,q⟩:=r.row;have li:=(apj.1 hi).1;refine⟨M3 r.ok i o',rest,?_⟩;rw[hss q];simp only[apl];rw[aqn _ _ (by rw[oG r.ok];omega),MZ r.ok hi hj e]
theorem nM {t:Nat}(g:Nat):∀(vs:List Value) (o:Nat) (w:World) (cs:List Value),w.heap[g]?=some (.cells cs.toArray t (0,0))→o+vs.length≤cs.length→(w.setCells g o vs).heap[g]?=some (.cells (cs.take o++vs++cs.drop (o+vs.length)).toArray t (0,0))
 | [],o,w,cs,h,_=>by simp[World.setCells,h]
 |v::r,o,w,cs,h,hl=>by
  rw[World.setCells];have h1:=aul w g o _ _ v h;simp only[apl]at h1;simp only[apH]at hl;rw[nM g r (o+1) _ (cs.set o v) h1 aE];have e1:(cs.set o v).take (o+1)=cs.take o++[v]:=by
   rw[apU,List.take_set,List.set_eq_of_length_le aE];simp[show o<cs.length by omega]
  have e2:(cs.set o v).drop (o+1+r.length)=cs.drop (o+(r.length+1)):=by
   rw[List.drop_set_of_lt ab];congr 1;omega
  rw[e1,e2];simp only[apH,aqa,apZ,apO]
theorem M6:∀{hs:List Hv},(∀h∈hs,h.Ok)→∀{i:Nat} {h':Hv},i<hs.length→h'.Ok→(hC hs).take (i*37)++hL h'++(hC hs).drop (i*37+37)=hC (hs.set i h')
 | [],_,i,h',hi,_=>by simp at hi
 |q::r,o,0,h',hi,o'=>by
  have lq:=aD (o q aq);unfold hC;rw[apL,aqI,aqF,apO,apu,List.drop_append,lq,List.drop_eq_nil_of_le ab];simp[apC]
 |q::r,o,i+1,h',hi,o'=>by
  have ih:=M6 (hs:=r) (fun q hq=>o q (by simp[hq])) (i:=i) (h':=h') (by simpa using hi) o';have lq:=aD (o q aq);unfold hC at ih ⊢;rw[apL,List.take_append,List.drop_append,lq,ap0 ab,List.drop_eq_nil_of_le ab,apO,show(i+1)*37-37=i*37 by omega,show(i+1)*37+37-37=i*37+37 by omega,apy,apL,<-ih];simp only[aqa]
theorem bQ.put (r:bQ w g hs)(hi:i<hs.length)(o':h'.Ok):bQ (w.setCells g (i*37) (hL h')) g (hs.set i h'):=by obtain⟨rest,q⟩:=r.row;have lc:=oG r.ok;have l':=aD o';refine⟨M3 r.ok i o',rest,?_⟩;rw[nM g (hL h') (i*37) w _ q (by rw[apo,lc,l'];omega),l',aqB (by rw[lc];omega),aqO (by rw[lc];omega),<-M6 r.ok hi o'];simp only[aqa]
theorem bQ.own {base:Nat}(o:∀h∈hs,h.Ok)(h:w.ownsRow base 43 37 (.slice (some ⟨g,0,none⟩) n cap) n (hC hs)):bQ w g hs:=by
 obtain⟨_,hc⟩:=h;rcases hc with⟨h0,_⟩|⟨g',cap',cur,hv,hb,hg,hn,hm,hs',htake⟩
 ·cases h0
 ·simp only[avg,auj,Addr.mk.injEq,au7,and_true]at hv;obtain⟨rfl,rfl⟩:=hv;refine⟨o,cur.toList.drop (n*37),?_⟩;rw[<-htake,aqd];exact hg
theorem DN (hs:List Hv):∀u∈hC hs,u.oneCell'=true:=by intro u hu;obtain⟨h,_,hm⟩:=arp.1 hu;have:=aq3.1 (qC h) u (by simpa[hA]using hm);exact this
theorem Hs.src (h:Hs w (some ad) n hs):∀j u,(hC hs)[j]?=some u->w.cell? (ad.add j)=some u:=by
 intro j u hj;have hl:=oG h.ok;have hjl:j<hs.length*37:=by rw[<-hl];exact(apj.1 hj).1
 have hlen:=h.len;obtain⟨b,o,e,_,hc⟩:=h.spot ab;obtain rfl:=aum e;have hi:j/37<hs.length:=ab;have e1:=api hi;have g:=DL h.ok (j:=j%37) e1 ab;rw[show j/37*37+j%37=j by omega,hj]at g;have:=hc _ _ e1 (j%37) u g.symm;rw[cz];rwa[show o+j/37*37+j%37=o+j by omega]at this
end Mc
namespace Mc
open Mm Hh
theorem iH:(prog.info? 43).map (·.size)=some 37:=al
end Mc
namespace Hc
variable[Inhabited Hc.bN]
open Mm Hh
variable{t:TypeId}{h:Hv}{o:Oper}{K:Act->World->Prop}{Q:Exit->Act->World->Prop}{E:Prop}
theorem iA (off:Nat)(v cs:Array Value):(v.zipIdx.foldl (fun cs (x:Value×Nat)=>cs.setIfInBounds (off+x.2) x.1) cs).size=cs.size/\ ∀k,(v.zipIdx.foldl (fun cs (x:Value×Nat)=>cs.setIfInBounds (off+x.2) x.1) cs)[k]?=if off<=k/\k<off+v.size/\k<cs.size then v[k-off]? else cs[k]?:=by have h:=Great.foldl_set off v.toList 0 cs;rw[<-Array.foldl_toList,Array.toList_zipIdx];refine⟨h.1,fun k=>?_⟩;rw[h.2 k];simp
theorem Je {it:TypeInfo}{fs:Array Field}{ps:List (Nat×Nat)}(hi:P.info? t=some it)(hu:P.underlying t=some (.struct fs))(hz:it.zero=some z)(hp:fs.toList.mapM (fun f=>(P.info? f.type).map fun i=>(f.offset,i.size))=some ps){n:Nat}(p0:ps.toArray[0]?=some (0,n))(p1:ps.toArray[1]?=some (n,1))(A:Array Value)(hA:A.size=n)(v:Value)(hv:v.cells=#[v])(hs:n+1<=z.cells.size)(R:Array Value)(hR:R.size=z.cells.size)(h1:∀k,k<n->R[k]?=A[k]?)(h2:R[n]?=some v)(h3:∀k,n<k->R[k]?=z.cells[k]?):P.built t [(0,.agg A),(1,v)]=some R:=by
 unfold Program.built;simp only[hi,hu,hz,hp];have a1:=iA 0 A z.cells;have a2:=iA n #[v] (A.zipIdx.foldl (fun cs (x:Value×Nat)=>cs.setIfInBounds (0+x.2) x.1) z.cells);unfold Instr.fill;simp only[p0];have e:(Value.agg A).cells=A:=rfl;rw[e,at6 (by simp[hA];omega)];unfold Instr.fill;simp only[p1];rw[hv,at6 (by rw[a1.1];simp;omega)];unfold Instr.fill;congr 1;apply aqC;intro k;rw[a2.2 k,a1.2 k,a1.1];by_cases hk:k<n
 ·rw[ak,dU,h1 k hk];simp
 ·by_cases hk2:k=n
  ·subst hk2;rw[at7 aE,h2];simp
  ·rw[at6 aE,ak,h3 k ab]
theorem ko (h:(P.info? t).bind (·.zero)=some v):∃it,P.info? t=some it/\it.zero=some v:=by
 cases hi:P.info? t with
 |none=>simp[hi]at h
 |some it=>exact⟨it,rfl,by simpa[hi]using h⟩
def h0:Hv:=⟨List.replicate 32 0,0,false,0,0,0⟩
theorem iO:h0.Ok:=⟨rfl,fun i=>by unfold rg h0;simp only[List.getD,aqK];split<;>simp,an,an,an,an⟩
def ax:Value:=.slice none 0 0
theorem yC (c:Cv)(h1:c.m.oneCell'=true)(h2:c.out.oneCell'=true)(h3:c.av.oneCell'=true):(cA c).all (·.oneCell')=true:=by refine auE ?_;intro v hv;simp only[hL,apR,apK,apx,apB,auw]at hv;rcases hv with(⟨n,_,rfl⟩|rfl|rfl|rfl|rfl|rfl)|rfl|rfl|rfl<;>first|rfl|assumption
theorem ade:(prog.info? 197).bind (·.zero)=some (.agg (cA ⟨h0,ax,ax,ax⟩)):=al
theorem uq (o:h.Ok)(v:Value)(hv:v.cells=#[v]):prog.built 197 [(0,.agg (hA h)),(1,v)]=some (cA ⟨h,v,ax,ax⟩):=by
 obtain⟨it,hi,hz⟩:=ko ade;have hl:=aD o;have z:=aD iO;refine Je (n:=37) hi underlying197 hz (ps:=[(0,37),(37,1),(38,1),(39,1)]) al rfl rfl (hA h) (jC o) v hv (by show 38<=(cA _).size;rw[jD iO];omega) _ ?_ ?_ ?_ ?_
 ·show(cA _).size=(cA _).size;rw[jD (c:=⟨h,v,ax,ax⟩) o,jD iO]
 ·intro k hk;rw[Lt (c:=⟨h,v,ax,ax⟩) o hk];simp[hA]
 ·exact qE (c:=⟨h,v,ax,ax⟩) o 0
 ·intro k hk;obtain⟨j,rfl⟩:∃j,k=37+(j+1):=⟨k-38,ab⟩;show(cA _)[_]?=(cA _)[_]?
  rw[qE (c:=⟨h,v,ax,ax⟩) o,qE (c:=⟨h0,ax,ax,ax⟩) iO];rfl
theorem wS (hg:o.guard=none)(ty:TypeId)(x:Operand)(ho:o.op=.load ty x)(b:Nat)(hx:a.eval x=.pointer (some ⟨b,0,none⟩))(cs:List Value)(d:TypeDesc)(hc:w.rangeAt b 0 cs)(hu:P.underlying ty=some d)(hd:d.isRow=true)(hi:(P.info? ty).map (·.size)=some cs.length)(h:K (a.put o.dst (.agg cs.toArray)) w):if Region.wanted o (yielded ops a.tmps)=true then Oper.wp P o a w K Q else E:=by rw[at7 (by simp[Region.wanted,hg])];exact wp_load_mid ty x ho b 0 hx cs d hc hu hd hi h
theorem uu (hg:o.guard=none)(t:TypeId)(parts:Array (Nat×Operand))(ho:o.op=.build t parts)(cells:Array Value)(hf:P.built t (parts.map fun(i,x)=>(i,a.eval x)).toList=some cells)(h:K (a.put o.dst (.agg cells)) w):if Region.wanted o (yielded ops a.tmps)=true then Oper.wp P o a w K Q else E:=by rw[at7 (by simp[Region.wanted,hg])];unfold Oper.wp execOp;simp only[ho,au3,run_build w t _ _ hf,auM];exact h
theorem gP (hg:o.guard=none)(ty:TypeId)(x y:Operand)(ho:o.op=.store ty x y)(g:Nat)(cells:Array Value)(hx:a.eval x=.pointer (some ⟨g,0,none⟩))(hy:a.eval y=.agg cells)(t:TypeId)(old:Array Value)(hb:w.heap[g]?=some (.cells old t (0,0)))(hi:(P.info? ty).map (·.size)=some cells.size)(hold:old.size=cells.size)(h1:cells.all (·.oneCell')=true)(h:K (a.put o.dst undef) (w.setRow g cells)):if Region.wanted o (yielded ops a.tmps)=true then Oper.wp P o a w K Q else E:=by rw[at7 (by simp[Region.wanted,hg])];unfold Oper.wp execOp;simp only[ho,hx,hy,Instr.storeAt,Instr.sureAddr,au3,avd,auM,run_storeVar_row w g t ty old cells hb hi hold h1];exact h
end Hc
namespace Hc
variable[Inhabited Hc.bN]
open Mm Hh
end Hc
namespace Hc
variable[Inhabited Hc.bN]
open Mm Hh
structure Wm (w:World) (ao:Option Addr) (n:Nat) (os:List Int):Prop where
 len:os.length=n
 nil:ao=none->n=0
 cell:∀ad,ao=some ad->∀t,t<n->w.cell? (ad.add t)=some (.int .u32 (os.getD t 0))
theorem Wm.of (h:Wm w ao n os)(g:Gr w w'):Wm w' ao n os:=⟨h.len,h.nil,fun ad e t ht=>(g.cell _ (aug w _ (h.cell ad e t ht))).trans (h.cell ad e t ht)⟩
theorem Wm.spot (h:Wm w ao n os)(hn:0<n):∃b o,ao=some ⟨b,o,none⟩/\b<w.heap.size/\∀t,t<n->w.cell? ⟨b,o+t,none⟩=some (.int .u32 (os.getD t 0)):=by
 cases ao with
 |none=>exact absurd (h.nil rfl) ab
 |some ad=>
  obtain⟨b,o,s⟩:=ad;have hs:s=none:=by simpa[Addr.add]using avb (h.cell _ rfl 0 hn)
  subst hs;have hb:b<w.heap.size:=by simpa[Addr.add]using aug w _ (h.cell _ rfl 0 hn)
  exact⟨b,o,rfl,hb,fun t ht=>by rw[<-cz];exact h.cell _ rfl t ht⟩
theorem M7 {base:Nat}(hl:os.length=n)(h:w.ownsRow base 37 1 v n (os.map (Value.int .u32))):∃ao cap,v=.slice ao n cap/\Wm w ao n os:=by
 obtain⟨_,h⟩:=h;rcases h with⟨rfl,h0⟩|⟨g,cap,cur,rfl,hb,hg,hn,hm,hs,ht⟩
 ·subst h0;exact⟨none,0,rfl,hl,fun _=>rfl,fun ad e=>(by cases e)⟩
 ·refine⟨_,cap,rfl,hl,fun e=>(by cases e),fun ad e t htn=>?_⟩;obtain rfl:=aum e;rw[cz,apu,cr hg];have h1:(cur.toList.take (n*1))[t]?=some (.int .u32 (os.getD t 0)):=by
   rw[ht,apT];simp[List.getD,api (show t<os.length by omega)]
  rw[List.getElem?_take_of_lt ab]at h1;simpa using h1
section
variable{rest:List Oper}{op:Oper}{Q:Exit->Act->World->Prop}
theorem wpList_want (hw:Region.wanted op (yielded ops a.tmps)=true)(h:∀K:Act->World->Prop,(∀a w,wpList P ops Q rest a w->K a w)->op.wp P a w K Q):wpList P ops Q (op::rest) a w:=wpList_step fun K hK=>by rw[at7 hw];exact h K hK
theorem ku (hw:Region.wanted op (yielded ops a.tmps)=true)(ty:TypeId)(x:Operand)(ho:op.op=.load ty x)
  (g:Nat)(hx:a.eval x=.pointer (some ⟨g,0,none⟩))(t:TypeId)(cs:Array Value)(fr:Nat×Nat)(d:TypeDesc)(hg:w.heap[g]?=some (.cells cs t fr))
  (hu:P.underlying ty=some d)(hd:(match d with|.struct _|.array _ _=>true|_=>false)=true)(hi:(P.info? ty).map (·.size)=some cs.size)
  (h:wpList P ops Q rest (a.put op.dst (.agg cs)) w):wpList P ops Q (op::rest) a w:=
 wpList_want hw fun _ hK=>wp_load_row ty x ho g hx t cs fr d hg hu hd hi (hK _ _ h)
theorem gQ (hw:Region.wanted op (yielded ops a.tmps)=true)(ty:TypeId)(x:Operand)(ho:op.op=.load ty x)(b o:Nat)(hx:a.eval x=.pointer (some ⟨b,o,none⟩))(cs:List Value)(d:TypeDesc)(hc:w.rangeAt b o cs)(hu:P.underlying ty=some d)(hd:d.isRow=true)(hi:(P.info? ty).map (·.size)=some cs.length)(h:wpList P ops Q rest (a.put op.dst (.agg cs.toArray)) w):wpList P ops Q (op::rest) a w:=wpList_want hw fun _ hK=>wp_load_mid ty x ho b o hx cs d hc hu hd hi (hK _ _ h)
end
end Hc
namespace Mc
variable[Inhabited Hc.bN]
open Mm Hh Hc
theorem aM {a b:Bool}(h:a=b):Ending.returned (.bool a)=.returned (.bool b):=by rw[h]
theorem Jf {f t:Int}(hx0:0<=x)(hx:x<4294967296)(hf0:0<=f)(hf:f<4294967296)(w:World):Calls prog 108 #[.int .u32 x,.agg #[.int .u32 f,.int .u32 t]] w fun e w'=>e=.returned (.bool (decide (x<t) && decide (f<x+4)))/\Gr w w':=by
 by_cases h1:x<t
 ·have HE:Hid ((decide (x<t) && decide (f<x+4))=decide (f<x+4)):=by unfold Hid;simp[h1]
  rw[HE.out];go_enter func108,ntmps108;go_wp2;go_ret;exact⟨rfl,(Gr.refl _).alloc _⟩
 ·have HE:Hid ((decide (x<t) && decide (f<x+4))=false):=by unfold Hid;simp[h1]
  rw[HE.out];go_enter func108,ntmps108;go_wp2;go_ret;exact⟨rfl,(Gr.refl _).alloc _⟩
def jL (mn:Nat) (hs:List Hv):Bool:=decide (mn<=4096/\1<=hs.length/\hs.length<=4) && hs.all may
theorem Jg (m:List UInt8)(hs:List Hv)(ps:List (Int×Int)):wrong m hs ps=if jL m.length hs=false then 2 else if 300<ps.length then 1 else if ps.all (jk hs.length)=false then 3 else 0:=by
 unfold wrong jL;by_cases h:4096<m.length\/hs.length<1\/4<hs.length
 ·rw[at7 h,at7];rw[auh ab];rfl
 ·rw[at6 h,auq (show m.length<=4096/\1<=hs.length/\hs.length<=4 by omega)];simp only[arl]
theorem lT (mc hc:Nat){hs:List Hv}(mn:Nat)(H:Hs w ha hn hs)(b1:mn<=140737488351232)(b2:hn<=140737488351232):Calls prog 34 #[.agg #[.slice ma mn mc,.slice ha hn hc]] w fun e w'=>e=.returned (.bool (jL mn hs))/\Gr w w':=by
 have hl:=H.len;by_cases c1:4096<mn\/hn<1\/4<hn
 ·have HE:Hid (jL mn hs=false):=by unfold Hid jL;rw[auh ab];rfl
  have c2:4096<mn\/(¬4096<mn/\hn<1)\/(¬4096<mn/\¬hn<1/\4<hn):=ab;rcases c2 with c|⟨c,d⟩|⟨c,d,e⟩
  all_goals
   go_enter func34,ntmps34;go_wp2;go_ret;exact⟨aM HE.symm,(Gr.refl _).alloc _⟩
 ·have n1:¬4096<mn:=ab;have n2:¬hn<1:=ab;have n3:¬4<hn:=ab;obtain⟨b,o,rfl,hb,hcell⟩:=H.spot ab;have HW:Hid (jL mn hs=hs.all may):=by unfold Hid jL;rw[auq ab];rfl
  have HK:=kH hcell;have HO:=kH H.ok;have HL:=kH hl;go_enter func34,ntmps34;go_wp2;go_loopw [24] (fun i wr=>∃k:Nat,k<=hn/\i=.int .i64 k/\(hs.take k).all may=true/\Gr w wr) (fun i _=>hn-(intOf i).toNat)
  case atStart=>exact⟨0,apF _,rfl,rfl,(Gr.refl _).alloc _⟩
  case round=>
   obtain⟨k,hk,rfl,hall,G⟩:=hrel;have HG:=kH G;have HA:=kH hall;by_cases hlt:k<hn
   ·obtain⟨h,hh⟩:∃h,hs[k]?=some h:=⟨_,api (by rw[HL.out];exact hlt)⟩;have HH:=kH hh;have jM:=HO h (aps hh);have RG:Hid (wr.rangeAt b (o+k*37) (hL h)):=fun j v hv=>(HG.cell _ (by exact hb)).trans (HK k h hh j v hv)
    have rH:=kH (aD jM);have sJ:Hid ((hL h).toArray.size=37):=by unfold Hid;simp[rH.out]
    have DR:=kH (qC h);have M1:Hid (∀W:World,_):=fun W=>yj jM W
    have M8:Hid (∀Y:Array Value,Gr wr ((wr.alloc (.cells Y 43)).setRow wr.heap.size (hL h).toArray)):=fun Y=>ag br (apn _) _
    have KS:Hid (∀Y:Array Value,((wr.alloc (.cells Y 43)).setRow wr.heap.size (hL h).toArray).heap[wr.heap.size]?=some (.cells (hL h).toArray 43 (0,0))):=fun Y=>aup _ _ _ _ _ (0,0) (at5 wr _)
    cases hmb:may h with
    |true=>
     have M2:Hid (∀W:World,Calls prog 69 #[.agg (hL h).toArray] W fun e w'=>e=.returned (.bool true)/\Gr W w'):=fun W=>by have:=M1 W;rwa[hmb]at this
     have HN:Hid ((hs.take (k+1)).all may=true):=by unfold Hid;rw[pV may hs k h HH.out,HA.out,hmb];rfl
     go_wp2_with (first
      |(refine auA rfl 43 _ rfl b (o+k*37) rfl (hL h) _ ?r1 underlying43 rfl (by rw[rH.out];exact iH) ?_;(case r1=>exact RG))
      |(refine auf rfl 43 _ _ rfl wr.heap.size (hL h).toArray rfl rfl 43 _ (at5 wr _) (by rw[sJ.out];exact iH) (by rw[sJ.out];rfl) DR ?_)
      |(refine auL rfl 43 _ rfl wr.heap.size rfl 43 (hL h).toArray (0,0) _ ?r2 underlying43 rfl (by rw[sJ.out];exact iH) ?_;(case r2=>exact KS _)))
     refine(M2 _).mono ?_;rintro e w1 ⟨rfl,G1⟩;have aU:=kH (HG.trans ((M8 _).trans G1));go_wp2_with fail;go_roundw
     case rel=>exact⟨k+1,ab,by go_num,HN,aU⟩
     case measure=>simp[intOf];omega
    |false=>
     have M2:Hid (∀W:World,Calls prog 69 #[.agg (hL h).toArray] W fun e w'=>e=.returned (.bool false)/\Gr W w'):=fun W=>by have:=M1 W;rwa[hmb]at this
     have HE:Hid (jL mn hs=false):=by unfold Hid;rw[HW.out];exact all_false HH hmb
     go_wp2_with (first
      |(refine auA rfl 43 _ rfl b (o+k*37) rfl (hL h) _ ?r1 underlying43 rfl (by rw[rH.out];exact iH) ?_;(case r1=>exact RG))
      |(refine auf rfl 43 _ _ rfl wr.heap.size (hL h).toArray rfl rfl 43 _ (at5 wr _) (by rw[sJ.out];exact iH) (by rw[sJ.out];rfl) DR ?_)
      |(refine auL rfl 43 _ rfl wr.heap.size rfl 43 (hL h).toArray (0,0) _ ?r2 underlying43 rfl (by rw[sJ.out];exact iH) ?_;(case r2=>exact KS _)))
     refine(M2 _).mono ?_;rintro e w1 ⟨rfl,G1⟩;have aU:=kH (HG.trans ((M8 _).trans G1));go_wp2_with fail;go_ret;exact⟨aM HE.symm,aU⟩
   ·have HE:Hid (jL mn hs=true):=by have:=HA;rw[show k=hn by omega,<-HL.out,ap9]at this;unfold Hid;rw[HW.out];exact this
    go_wp2_with fail;go_ret;exact⟨aM HE.symm,HG⟩
end Mc
namespace Rw
end Rw
namespace Rw
end Rw
namespace Hr
open Mm Hh
theorem iH:(prog.info? 43).map (·.size)=some 37:=al
end Hr
namespace Mr
open Mm
variable{op a:Int}
end Mr
namespace Hr
open Mm Hh
theorem aI {p t:Tmp}{ty:TypeId}(h:fn.results=#[.cell p ty,.tmp t])(tmps:Array Value)(w:World)(g:Nat)(tt:TypeId)(cs:Array Value)(fr:Nat×Nat)(d:TypeDesc)
  (v:Value)(hp:tmps.getD p undef=.pointer (some ⟨g,0,none⟩))(hv:tmps.getD t undef=v)(hg:w.heap[g]?=some (.cells cs tt fr))
  (hu:P.underlying ty=some d)(hd:(match d with|.struct _|.array _ _=>true|_=>false)=true)(hi:(P.info? ty).map (·.size)=some cs.size):
  (results fn tmps).run P w=.ok (.tuple #[.agg cs,v]) w:=by
 subst hv;have hp':tmps[p]?.getD undef=.pointer (some ⟨g,0,none⟩):=by simpa using hp
 simp[results,h,hp',asAddr,au4 w g tt ty cs fr d hg hu hd hi]
theorem ae (g:Gr w w'){x:Obj}(h:w.heap[k]?=some x):w'.heap[k]?=some x:=by rw[au1 g k (gs h).1];exact h
end Hr
namespace Hc
variable[Inhabited Hc.bN]
open Mm Hh
theorem Y7 (M:Mem w (some ad) n l)(G:Gr w w'):∀j u,(bc l)[j]?=some u->w'.cell? (ad.add j)=some u:=by intro j u hj;obtain⟨h1,rfl⟩:=xW hj;have hl:=M.len;exact(M.of G).cell ad rfl j ab
theorem M9 {base:Nat}(hl:l.length=n)(h:w.ownsRow base 5 1 v n (bc l)):Own w base v l:=by
 subst hl;obtain⟨_,h⟩:=h;rcases h with⟨rfl,h0⟩|⟨g,cap,cur,rfl,hb,hg,hn,hm,hs,ht⟩
 ·exact .inl ⟨rfl,apX h0⟩
 ·refine .inr ⟨g,cap,rfl,⟨hb,hn⟩,cur.toList.drop (l.length*1),?_⟩;rw[<-ht,aqd];exact⟨hg,by simpa using hs,hm⟩
theorem qQ (M:Mem w ao n l)(hcap:ao=none->cap=0)(hn:n<=140737488351232):Calls prog 36 #[.slice ao n cap] w fun e w'=>∃v,e=.returned v/\Own w' w.heap.size v l/\Gr w w':=by
 have hl:=M.len;cases ao with
 |none=>
  obtain rfl:=M.nil rfl;obtain rfl:=hcap rfl;obtain rfl:l=[]:=apX hl;have he:∀w:World,(binOp .eql 25 (.slice none 0 0) (.slice none 0 0)).run prog w=.ok (.bool true) w:=fun _=>al
  go_enter func36,ntmps36;go_wp2;go_ret;exact⟨_,rfl,.inl ⟨rfl,rfl⟩,Gr.refl _⟩
 |some ad=>
  obtain⟨i0,hi,hz0,hz1,hz2⟩:=auz info5;have HM:=kH M;have he:∀w:World,(binOp .eql 25 (.slice (some ad) n cap) (.slice none 0 0)).run prog w=.ok (.bool false) w:=fun _=>al
  go_enter func36,ntmps36;go_wp2_with (at_builtin;refine auK _ rfl (.tmp 5) (.tmp 6) 25 rfl w.heap.size 5 i0 (.int .u8 0) 1 1 underlying25 hi hz0 hz1 hz2 rfl an _ 0 [] rfl (avf w #[] 0 (apn _) an rfl) ad n cap (bc l) rfl (by rw[gH,hl];simp) (Y7 HM br) (xX l) bj ab aq ?_;intro v' w1 hown hgrow _;have HO:Hid (Own w1 w.heap.size v' l):=M9 hl (by simpa using hown);have HG:Hid (Gr w w1):=br.grown hgrow (fun k e=>aq6 (aum e));clear hown hgrow);go_ret;exact⟨_,rfl,HO,HG⟩
theorem iC:(prog.info? 197).map (·.size)=some 40:=al
theorem fA {A Z:Array Value}{u:Nat}(g:Gr ((w.alloc (.cells A t)).alloc (.cells Z u)) w'):w'.heap[w.heap.size]?=some (.cells A t (0,0))/\w'.heap[w.heap.size+1]?=some (.cells Z u (0,0)):=⟨Hr.ae g (auR w _ _),Hr.ae g (au8 w _ _)⟩
theorem Own.cells {w:World}{base:Nat}{v:Value}{l:List UInt8}(h:Own w base v l):v.cells=#[v]/\v.oneCell'=true:=by rcases h with⟨rfl,_⟩|⟨k,cap,rfl,_⟩<;>exact⟨rfl,rfl⟩
theorem Own.base {w':World}{b':Nat}(h:Own w b v l)(hb:b'<=b):Own w b' v l:=by
 rcases h with h|⟨k,cap,e,q,R⟩
 ·exact .inl h
 ·exact .inr ⟨k,cap,e,⟨apr hb q.1,q.2⟩,R⟩
theorem A8 {h:Hv}(e:w.heap[b]?=some (.cells (hA h) t (0,0))):w.rangeAt b 0 (hL h):=fun j v hv=>by rw[apu,atZ _ _ _ _ _ _ e];simpa[hA]using hv
theorem A9 {h:Hv}(o:h.Ok)(M:Mem w ao n l)(hcap:ao=none->cap=0)(hn:n<=4096)(hm:may h=true)(hs:h.state=0):Calls prog 143 #[.agg (hA h),.slice ao n cap] w fun e w'=>∃v,e=.returned (.tuple #[.agg (cA ⟨h,v,ax,ax⟩),.bool true])/\Own w' w.heap.size v l/\Gr w w':=by
 have HM:Hid (∀W:World,Calls prog 69 #[.agg (hA h)] W fun e w'=>e=.returned (.bool true)/\Gr W w'):=fun W=>by rw[<-hm];exact yj o W
 have g35:(hA h)[35]?=some (.int .i64 0):=by rw[<-hs];exact(Fw h o).2.2.2.1
 have HS:=kH (jC o);have HL:=kH (aD o);have HC:Hid (∀W:World,Gr w W->Calls prog 36 #[.slice ao n cap] W fun e w'=>∃v,e=.returned v/\Own w' w.heap.size v l/\Gr W w'):=fun W G=>
  (qQ (M.of G) hcap ab).mono fun e w' ⟨v,e1,e2,e3⟩=>⟨v,e1,e2.base (w':=w') G.size,e3⟩
 have Na:Hid (∀v:Value,v.cells=#[v]->_):=fun v hv=>uq o v hv
 have HZ:Hid (∀v,(cA ⟨h,v,ax,ax⟩).size=40):=fun v=>jD o
 go_enter func143,ntmps143;go_wp2_with (refine auL rfl 43 _ rfl w.heap.size rfl 43 (hA h) (0,0) _ ?hb1 underlying43 rfl (by rw[HS.out];exact Hr.iH) ?_;(case hb1=>exact auR w _ _));refine(HM _).mono ?_;rintro e w1 ⟨rfl,G1⟩;obtain⟨hB,hR⟩:=fA G1;have HG:=kH ((br.alloc _).trans G1);have QU:=(atZ _ _ _ _ _ _ hB).trans g35;have HB:=kH hB;have HR:Hid (∃Z:Array Value,Z.size=40/\w1.heap[w.heap.size+1]?=some (.cells Z 197 (0,0))):=⟨_,rfl,hR⟩;obtain⟨Z,hz,hR⟩:=HR;have HR2:=kH hR;go_wp2_with fail;refine wp_region_any al ?_;change wpAny _ _ _ _ _ _ _ (World.drew _);refine wpAny_take (i:=1) (v:=.slice ao n cap) rfl al al al (fun _ _ _ h=>h) (Or.inl ⟨by rfl,fun w=>by go_simp⟩) ?_;refine au2 (rs:=[0,2]) al aq ?_;refine auP rfl (fun K hK=>?_) (auP rfl (fun K hK=>?_) auW)
 ·refine wS rfl 43 (.tmp 2) rfl w.heap.size ar (hL h) _ (A8 (by exact HB)) underlying43 rfl (by rw[HL.out];exact Hr.iH) ?_;refine hK _ _ ?_;refine au2 (rs:=[2]) al aq ?_;refine auP rfl (fun K hK=>?_) auW;go_simp;refine(HC _ (by repeat (first|exact HG|refine Gr.drew ?_))).mono ?_;rintro e w2 ⟨v,rfl,O2,G2⟩;simp only[];refine hK _ _ ?_;have kY:=kH O2;have HG2:=kH ((Gr.refl w1).drew.trans G2);refine au2 (rs:=[3]) al aq ?_;refine auP rfl (fun K hK=>?_) auW;refine uu rfl 197 _ rfl (cA ⟨h,v,ax,ax⟩) (by have:=Na v kY.cells.1;simp[Act.eval,Act.put];exact this) ?_;refine hK _ _ ?_;refine au2 (rs:=[4]) al aq ?_;refine auP rfl (fun K hK=>?_) auW;refine gP rfl 197 (.tmp 4) (.tmp 23) rfl (w.heap.size+1) (cA ⟨h,v,ax,ax⟩) ar ar 197 Z (Hr.ae HG2 HR2) (by rw[HZ.out];exact iC) (by rw[HZ.out,hz]) (yC _ kY.cells.2 rfl rfl) ?_;refine hK _ _ ?_;refine au2 (rs:=[5]) al aq ?_;refine auP rfl (fun K hK=>?_) auW;go_simp;refine hK _ _ ?_;refine wpAny_done al ?_ _;go_wp2_with fail;refine auc (v:=.tuple #[.agg (cA ⟨h,v,ax,ax⟩),.bool true]) (Hr.aI results143 _ _ _ _ _ (0,0) _ _ (by simp[Act.put]) (by simp[Act.put]) (aup _ _ _ _ _ (0,0) (Hr.ae HG2 HR2)) underlying197 rfl (by rw[HZ.out];exact iC)) rfl ⟨v,rfl,?_,?_⟩
  ·refine kY.to fun k q f hk=>auo _ _ _ _ ?_
   exact aa hk (Hr.ae HG2 HR2) an
  ·exact ag (HG.trans HG2) (aqi _) _
 ·go_simp;refine(HC _ (by repeat (first|exact HG|refine Gr.drew ?_))).mono ?_;rintro e w2 ⟨v,rfl,O2,G2⟩;simp only[];refine hK _ _ ?_;have kY:=kH O2;have HG2:=kH ((Gr.refl w1).drew.trans G2);refine au2 (rs:=[0]) al aq ?_;refine auP rfl (fun K hK=>?_) auW;refine wS rfl 43 (.tmp 2) rfl w.heap.size ar (hL h) _ (A8 (Hr.ae HG2 HB)) underlying43 rfl (by rw[HL.out];exact Hr.iH) ?_;refine hK _ _ ?_;refine au2 (rs:=[3]) al aq ?_;refine auP rfl (fun K hK=>?_) auW;refine uu rfl 197 _ rfl (cA ⟨h,v,ax,ax⟩) (by have:=Na v kY.cells.1;simp[Act.eval,Act.put];exact this) ?_;refine hK _ _ ?_;refine au2 (rs:=[4]) al aq ?_;refine auP rfl (fun K hK=>?_) auW;refine gP rfl 197 (.tmp 4) (.tmp 23) rfl (w.heap.size+1) (cA ⟨h,v,ax,ax⟩) ar ar 197 Z (Hr.ae HG2 HR2) (by rw[HZ.out];exact iC) (by rw[HZ.out,hz]) (yC _ kY.cells.2 rfl rfl) ?_;refine hK _ _ ?_;refine au2 (rs:=[5]) al aq ?_;refine auP rfl (fun K hK=>?_) auW;go_simp;refine hK _ _ ?_;refine wpAny_done al ?_ _;go_wp2_with fail;refine auc (v:=.tuple #[.agg (cA ⟨h,v,ax,ax⟩),.bool true]) (Hr.aI results143 _ _ _ _ _ (0,0) _ _ (by simp[Act.put]) (by simp[Act.put]) (aup _ _ _ _ _ (0,0) (Hr.ae HG2 HR2)) underlying197 rfl (by rw[HZ.out];exact iC)) rfl ⟨v,rfl,?_,?_⟩
  ·refine kY.to fun k q f hk=>auo _ _ _ _ ?_
   exact aa hk (Hr.ae HG2 HR2) an
  ·exact ag (HG.trans HG2) (aqi _) _
end Hc
namespace Mc
variable[Inhabited Hc.bN]
open Mm Hh Hc
variable{hs:List Hv}{w:World}{n:Nat}
theorem uw (mc hc pc:Nat)(mn:Nat)(lU:m.length=mn)(H:Hs w ha hn hs)(P:Ps w pa pn ps)(b1:mn<=140737488351232)(b2:hn<=140737488351232)(b3:pn<=140737488351232):Calls prog 55 #[.agg #[.slice ma mn mc,.slice ha hn hc],.slice pa pn pc] w fun e w'=>e=.returned (.int .i64 (wrong m hs ps))/\Gr w w':=by
 have HM:Hid (∀W:World,Gr w W->Calls prog 34 #[.agg #[.slice ma mn mc,.slice ha hn hc]] W fun e w'=>e=.returned (.bool (jL mn hs))/\Gr W w'):=fun W G=>lT mc hc mn (H.of G) b1 b2
 have HWr:Hid (wrong m hs ps=if jL mn hs=false then 2 else if 300<ps.length then 1 else if ps.all (jk hs.length)=false then 3 else 0):=by have:=Jg m hs ps;rw[lU]at this;exact this
 have HL:=kH H.len;have PL:=kH P.len;have HP:=kH P;generalize jL mn hs=B at *
 cases B with
 |false=>
  have HE:Hid (wrong m hs ps=2):=by unfold Hid;rw[HWr.out,at7 rfl]
  go_enter func55,ntmps55;go_wp2_with fail;refine(HM _ br).mono ?_;rintro e w1 ⟨rfl,G1⟩;have aU:=kH (br.trans G1);go_wp2_with fail;go_ret;exact⟨au HE.symm,aU⟩
 |true=>
  have HW2:Hid (wrong m hs ps=if 300<pn then 1 else if ps.all (jk hn)=false then 3 else 0):=by unfold Hid;rw[HWr.out,at6 aq,PL.out,HL.out]
  go_enter func55,ntmps55;go_wp2_with fail;refine(HM _ br).mono ?_;rintro e w1 ⟨rfl,G1⟩;have aU:=kH (br.trans G1);have HB:=kH ((G1.block _ aq).trans (at5 w _));have hlt1:=(apk.1 HB).1;by_cases c3:300<pn
  ·have HE:Hid (wrong m hs ps=1):=by unfold Hid;rw[HW2.out,at7 c3]
   go_wp2_with fail;go_ret;exact⟨au HE.symm,aU⟩
  ·have HW3:Hid (wrong m hs ps=if ps.all (jk hn)=false then 3 else 0):=by unfold Hid;rw[HW2.out,at6 c3]
   by_cases p0:pn=0
   ·subst p0;have HE:Hid (wrong m hs ps=0):=by
     have:ps=[]:=apX PL;unfold Hid;rw[HW3.out,this];rfl
    go_wp2_with fail;go_loopw [15] (fun i wq=>i=.int .i64 0/\wq=w1) (fun _ _=>0)
    case atStart=>exact⟨rfl,rfl⟩
    case round=>
     obtain⟨rfl,rfl⟩:=hrel;go_wp2;go_ret;exact⟨au HE.symm,aU⟩
   ·obtain⟨b',o',rfl,hb',hcell'⟩:=HP.spot ab;have HC:Hid (∀i p,ps[i]?=some p->w1.cell? ⟨b',o'+i*2,none⟩=some (.int .i64 p.1)/\w1.cell? ⟨b',o'+i*2+1,none⟩=some (.int .i64 p.2)):=fun i p hp=>⟨(aU.cell _ (by exact hb')).trans (hcell' i p hp).1,(aU.cell _ (by exact hb')).trans (hcell' i p hp).2⟩
    have hb1:=apq hb' aU.size;go_wp2_with fail;go_loopw [15] (fun i wq=>∃j:Nat,j<=pn/\i=.int .i64 j/\(ps.take j).all (jk hn)=true/\Gr w1 wq) (fun i _=>pn-(intOf i).toNat)
    case atStart=>exact⟨0,apF _,rfl,rfl,Gr.refl _⟩
    case round=>
     obtain⟨j,hj,rfl,hall,G⟩:=hrel;have HA:=kH hall;have HG:=kH G;have hbr:=apq hb1 G.size;have hwr:=apq hlt1 G.size;have k1:wr.cell? ⟨w.heap.size,1,none⟩=some (.slice ha hn hc):=(G.cell _ (by exact hlt1)).trans (atZ _ _ _ _ _ _ HB);by_cases hlt2:j<pn
     ·obtain⟨p,hp⟩:∃p,ps[j]?=some p:=⟨_,api (by rw[PL.out];exact hlt2)⟩;have q0:=(HG.cell _ (by exact hb1)).trans (HC j p hp).1;have q1:=(HG.cell _ (by exact hb1)).trans (HC j p hp).2;have HE:Hid (¬(0<=p.1/\p.1<hn/\0<=p.2/\p.2<=400)->wrong m hs ps=3):=fun hno=>by rw[HW3.out,at7 (all_false hp (by unfold jk;exact auh hno))]
      have HN:Hid ((0<=p.1/\p.1<hn/\0<=p.2/\p.2<=400)->(ps.take (j+1)).all (jk hn)=true):=fun hy=>by
       rw[pV _ ps j p hp,HA.out,show jk hn p=true by unfold jk;exact auq hy];rfl
      obtain⟨x,y⟩:=p;simp only at *
      have hc:x<0\/(¬x<0/\(hn:Int)<=x)\/(¬x<0/\¬(hn:Int)<=x/\y<0)\/(¬x<0/\¬(hn:Int)<=x/\¬y<0/\400<y)\/(¬x<0/\¬(hn:Int)<=x/\¬y<0/\¬400<y):=ab;rcases hc with h1|⟨h1,h2⟩|⟨h1,h2,h3⟩|⟨h1,h2,h3,h4⟩|⟨h1,h2,h3,h4⟩
      ·go_wp2;go_ret;exact⟨au (HE ab).symm,aU.trans (HG.alloc _)⟩
      ·go_wp2;go_ret;exact⟨au (HE ab).symm,aU.trans (HG.alloc _)⟩
      ·go_wp2;go_ret;exact⟨au (HE ab).symm,aU.trans (HG.alloc _)⟩
      ·go_wp2;go_ret;exact⟨au (HE ab).symm,aU.trans (HG.alloc _)⟩
      ·go_wp2;go_roundw
       case rel=>exact⟨j+1,ab,by go_num,HN ab,HG.alloc _⟩
       case measure=>simp[intOf];omega
     ·have HE:Hid (wrong m hs ps=0):=by
       have e:=HA;rw[show j=pn by omega,<-PL.out,ap9]at e;unfold Hid;rw[HW3.out,e];rfl
      go_wp2;go_ret;exact⟨au HE.symm,aU.trans HG⟩
theorem sK {base e sz:Nat}(h:w.ownsRow base e sz v n xs)(hn:1<=n):∃g cap,v=.slice (some ⟨g,0,none⟩) n cap/\base<=g:=by
 obtain⟨_,h⟩:=h;rcases h with⟨_,h0⟩|⟨g,cap,cur,hv,hb,_⟩
 ·omega
 ·exact⟨g,cap,hv,hb⟩
theorem adf:(prog.info? 43).map (fun i=>(i.zero,i.size,i.bytes))=some (some (.agg (hA h0)),37,160):=al
def Zh (w:World) (g n:Nat):Prop:=∃cur,w.heap[g]?=some (.cells cur 43 (0,0))/\cur.size=n*37/\n<=maxLen
theorem Nc {base c:Nat}(h:w.ownsRow base 43 37 (.slice (some ⟨g,0,none⟩) n c) n xs):Zh w g c:=by
 rcases h.2 with⟨h0,_⟩|⟨g',cap',cur,hv,hb,hg,hn,hm,hs',htake⟩
 ·cases h0
 ·simp only[avg,auj,Addr.mk.injEq,au7,and_true]at hv;obtain⟨rfl,rfl⟩:=hv;exact⟨cur,hg,hs',hm⟩
theorem Zh.to {w':World}(h:Zh w g n)(q:∀(k:Nat) (o:Array Value) (f:Nat×Nat),w.heap[k]?=some (.cells o 43 f)->w'.heap[k]?=w.heap[k]?):Zh w' g n:=by obtain⟨cur,e,z⟩:=h;exact⟨cur,(q _ _ _ e).trans e,z⟩
theorem Zh.of (h:Zh w g n)(G:Gr w w'):Zh w' g n:=h.to fun k o f e=>G.block _ (gs e).1
theorem Zh.setCell {w:World}{g n:Nat}(h:Zh w g n)(i:Nat)(v:Value):Zh (w.setCell ⟨g,i,none⟩ v) g n:=by obtain⟨cur,e,z⟩:=h;exact⟨_,hss e,by rw[ap4];exact z.1,z.2⟩
theorem Zh.setCells {w:World}{g n:Nat}(h:Zh w g n):∀(vs:List Value) (o:Nat),Zh (w.setCells g o vs) g n
 | [],o=>h
 |v::r,o=>by rw[World.setCells];exact Zh.setCells (h.setCell o v) r (o+1)
theorem uy (cap:Nat)(H:Hs w (some ad) n hs)(hn1:1<=n)(hn:n<=4):Calls prog 37 #[.slice (some ad) n cap] w fun e w'=>∃g c,e=.returned (.slice (some ⟨g,0,none⟩) n c)/\w.heap.size<=g/\(bQ w' g hs/\Zh w' g c)/\Gr w w':=by
 obtain⟨i0,hi,hz0,hz1,hz2⟩:=auz adf;have HH:=kH H;have HL:=kH H.len;have HO:=kH H.ok;have he:∀w:World,(binOp .eql 26 (.slice (some ad) n cap) (.slice none 0 0)).run prog w=.ok (.bool false) w:=fun _=>al
 go_enter func37,ntmps37;go_wp2_with (at_builtin;refine auK _ rfl (.tmp 5) (.tmp 6) 26 rfl w.heap.size 43 i0 (.agg (hA h0)) 37 160 underlying26 hi hz0 hz1 hz2 rfl an _ 0 [] rfl (avf w #[] 0 (apn _) an rfl) ad n cap (hC hs) rfl (by rw[oG HO.out,HL.out]) (HH.of br).src (DN hs) bj ab aq ?_;intro v' w1 hown hgrow _;have HOw:Hid (w1.ownsRow w.heap.size 43 37 v' n (hC hs)):=(by unfold Hid;simpa using hown);have HG:Hid (Gr w w1):=br.grown hgrow (fun k e=>aq6 (aum e));clear hown hgrow);obtain⟨g,c,rfl,hg⟩:=sK HOw hn1;have HR:Hid (bQ w1 g hs/\Zh w1 g c):=⟨bQ.own HO HOw,Nc HOw⟩;go_ret;exact⟨g,c,rfl,hg,HR,HG⟩
end Mc
namespace Mc
variable[Inhabited Hc.bN]
open Mm Hh Hc
variable{ty:Nat}{rs:List Value}
variable{hs:List Hv}
theorem bQ.of (r:bQ w g hs)(G:Gr w w'):bQ w' g hs:=by obtain⟨rest,e⟩:=r.row;exact⟨r.ok,rest,(G.block _ (gs e).1).trans e⟩
theorem gT {base:Nat}(h:Own w base v l)(G:Gr w w'):Own w' base v l:=h.to fun k o f e=>G.block _ (gs e).1
structure Bw (ty:Nat) (rs:List Value) (w:World) (base g:Nat) (M:Value) (gh hc:Nat) (O:Value) (s:Sh):Prop where
 t1:ty≠5
 t2:ty≠37
 t3:ty≠43
 bg:base<=g
 blk:w.heap[g]?=some (.cells (M::.slice (some ⟨gh,0,none⟩) s.hs.length hc::O::.int .i64 s.steps::rs).toArray ty (0,0))
 mem:Own w Hc.mb M s.m
 bh:base<=gh
 row:bQ w gh s.hs
 out:w.ownsRow base 37 1 O s.out.length (s.out.map (Value.int .u32))
 hz:Zh w gh hc/\Hc.mb<=base
def Bd (ty:Nat) (rs:List Value) (w:World) (base g:Nat) (s:Sh):Prop:=∃M gh hc O,Bw ty rs w base g M gh hc O s
theorem Bw.of {w w':World}{base g:Nat}{M:Value}{gh hc:Nat}{O:Value}{s:Sh}(B:Bw ty rs w base g M gh hc O s)(G:Gr w w'):Bw ty rs w' base g M gh hc O s:=⟨B.t1,B.t2,B.t3,B.bg,(G.block _ (gs B.blk).1).trans B.blk,gT B.mem G,B.bh,B.row.of G,aj B.out fun k o f e=>G.block _ (gs e).1,⟨B.hz.1.of G,B.hz.2⟩⟩
section
variable{base gh hc:Nat}{M O:Value}{s:Sh}
theorem Bw.lt (B:Bw ty rs w base g M gh hc O s):g<w.heap.size:=(gs B.blk).1
theorem Bw.c0 (B:Bw ty rs w base g M gh hc O s):w.cell? ⟨g,0,none⟩=some M:=(cr B.blk).trans aq
theorem Bw.c1 (B:Bw ty rs w base g M gh hc O s):w.cell? ⟨g,1,none⟩=some (.slice (some ⟨gh,0,none⟩) s.hs.length hc):=(cr B.blk).trans aq
theorem Bw.c2 (B:Bw ty rs w base g M gh hc O s):w.cell? ⟨g,2,none⟩=some O:=(cr B.blk).trans aq
theorem Bw.c3 (B:Bw ty rs w base g M gh hc O s):w.cell? ⟨g,3,none⟩=some (.int .i64 s.steps):=(cr B.blk).trans aq
theorem Bw.rest (B:Bw ty rs w base g M gh hc O s)(i:Nat):w.cell? ⟨g,4+i,none⟩=rs[i]?:=(cr B.blk).trans (by rw[apm,Nat.add_comm];rfl)
end
theorem DT (a b c:Option Addr)(n1 n2 n3 c1 c2 c3:Nat)(x:Int):(#[.slice a n1 c1,.slice b n2 c2,.slice c n3 c3,.int .i64 x]:Array Value).all (·.oneCell')=true:=by refine auE ?_;intro v hv;simp only[apx,apB,auw]at hv;rcases hv with rfl|rfl|rfl|rfl<;>rfl
theorem iB:(prog.info? 84).map (·.size)=some 4:=al
theorem rJ (mc hc pc:Nat)(mn:Nat)(lU:m.length=mn)(H:Hs w ha hn hs)(P:Ps w pa pn ps)(b1:mn<=140737488351232)(b2:hn<=140737488351232)(b3:pn<=140737488351232)(hno:¬wrong m hs ps=0):Calls prog 22 #[.agg #[.slice ma mn mc,.slice ha hn hc],.slice pa pn pc] w fun e w'=>e=.returned (.tuple #[.agg #[.slice none 0 0,.slice none 0 0,.slice none 0 0,.int .i64 0],.int .i64 (wrong m hs ps)])/\Gr w w':=by
 have HM:Hid (∀W:World,Gr w W->Calls prog 55 #[.agg #[.slice ma mn mc,.slice ha hn hc],.slice pa pn pc] W fun e w'=>e=.returned (.int .i64 (wrong m hs ps))/\Gr W w'):=fun W G=>uw mc hc pc mn lU (H.of G) (P.of G) b1 b2 b3
 generalize wrong m hs ps=E at *
 have hE:(E !=0)=true:=by simpa using hno
 go_enter func22,ntmps22;go_wp2_with fail;refine(HM _ (br.alloc _)).mono ?_;rintro e w1 ⟨rfl,G1⟩;have aU:=kH ((br.alloc _).trans G1);have HB:=kH ((fA G1).2);have HI:=kH iB;go_wp2_with (refine auf rfl 84 _ _ rfl (w.heap.size+1) #[.slice none 0 0,.slice none 0 0,.slice none 0 0,.int .i64 0] rfl rfl 84 _ ?hb HI rfl al ?_;(case hb=>exact HB));refine auc (v:=.tuple #[.agg _,.int .i64 E]) (Hr.aI results22 _ _ _ _ _ (0,0) _ _ rfl rfl (aup _ _ _ _ _ (0,0) HB) underlying84 rfl HI) rfl ⟨rfl,?_⟩;exact ag aU (aqi _) _
theorem wT (M:Mem w ma mn m)(hcap:ma=none->mc=0)(hn:mn<=4096)(hmb:Hc.mb<=w.heap.size):Calls prog 36 #[.slice ma mn mc] w fun e w'=>∃a c,e=.returned (.slice a mn c)/\Own w' Hc.mb (.slice a mn c) m/\Gr w w':=
 (qQ M hcap ab).mono fun e w' ⟨v,e1,e2,e3⟩=>by
  obtain⟨a,c,rfl,_⟩:=e2.mem;have:=M.len;rw[this]at e1 e2;exact⟨a,c,e1,e2.base (w':=w') hmb,e3⟩
theorem kQ (mc hc pc:Nat)(mn:Nat)(M:Mem w ma mn m)(hcap:ma=none->mc=0)(H:Hs w ha hn hs)(P:Ps w pa pn ps)(b3:pn<=140737488351232)(hy:wrong m hs ps=0)(b1:mn<=4096)(b2:1<=hn)(b4:hn<=4)(hmb:Hc.mb<=w.heap.size):Calls prog 22 #[.agg #[.slice ma mn mc,.slice ha hn hc],.slice pa pn pc] w fun e w'=>∃a c gh hc,e=.returned (.tuple #[.agg #[.slice a mn c,.slice (some ⟨gh,0,none⟩) hn hc,.slice none 0 0,.int .i64 0],.int .i64 0])/\Own w' Hc.mb (.slice a mn c) m/\w.heap.size<=gh/\(bQ w' gh hs/\Zh w' gh hc)/\Gr w w':=by
 have HM:Hid (∀W:World,Gr w W->Calls prog 55 #[.agg #[.slice ma mn mc,.slice ha hn hc],.slice pa pn pc] W fun e w'=>e=.returned (.int .i64 0)/\Gr W w'):=fun W G=>by rw[<-hy];exact uw mc hc pc mn M.len (H.of G) (P.of G) ab ab b3
 obtain⟨b,o,rfl,_,_⟩:=H.spot ab;have C1:Hid (∀W:World,Gr w W->_):=fun W G=>wT (M.of G) hcap b1 (apr hmb G.size)
 have C2:Hid (∀W:World,Gr w W->Calls prog 37 #[.slice (some ⟨b,o,none⟩) hn hc] W fun e w'=>∃g c,e=.returned (.slice (some ⟨g,0,none⟩) hn c)/\w.heap.size<=g/\(bQ w' g hs/\Zh w' g c)/\Gr W w'):=fun W G=>(uy hc (H.of G) b2 b4).mono fun e w' ⟨g,c,e1,e2,e3⟩=>⟨g,c,e1,apr G.size e2,e3⟩
 go_enter func22,ntmps22;go_wp2_with fail;refine(HM _ (br.alloc _)).mono ?_;rintro e w1 ⟨rfl,G1⟩;have aU:=kH ((br.alloc _).trans G1);have HA:=kH ((fA G1).1);have HB:=kH ((fA G1).2);have k0:=iE HA;have k1:=iY HA;go_wp2_with fail;have hlt:=(gs HA).1;have hne:w1.heap.size≠w.heap.size:=ab
 go_region_held3 (fun W=>W.cell? ⟨w.heap.size,0,none⟩=some (.slice ma mn mc)∧W.cell? ⟨w.heap.size,1,none⟩=some (.slice (some ⟨b,o,none⟩) hn hc)) (first|go_keep|(constructor<;>assumption)) (first
  |(go_at_call 36;refine(C1 _ (by repeat (first|exact aU|refine Gr.drew ?_|refine Gr.alloc ?_ _))).mono ?_;rintro e w2 ⟨a2,c2,rfl,O2,G2⟩;have kY:Hid (Own w2 Hc.mb (.slice a2 mn c2) m):=O2;have HG2:Hid (Gr w1 w2):=Gr.trans (by repeat (first|exact Gr.refl w1|refine Gr.drew ?_|refine Gr.alloc ?_ _)) G2;have ll:Hid (w2.heap[w1.heap.size]?=some (.cells #[.slice none 0 0,.slice none 0 0,.slice none 0 0,.int .i64 0] 84 (0,0))):=Hr.ae ((Gr.refl (w1.alloc _)).drew.trans G2) (at5 w1 _);have q0:w2.cell? ⟨w.heap.size,0,none⟩=some (.slice ma mn mc):=cr (Hr.ae HG2 HA);have q1:w2.cell? ⟨w.heap.size,1,none⟩=some (.slice (some ⟨b,o,none⟩) hn hc):=cr (Hr.ae HG2 HA);clear G2 O2 k0 k1 C1)
  |(go_at_call 37;refine(C2 _ (by repeat (first|exact aU.trans HG2|refine Gr.drew ?_|refine Gr.alloc ?_ _))).mono ?_;rintro e w3 ⟨g3,c3,rfl,hg3,R3,G3⟩;have HR3:Hid (bQ w3 g3 hs):=R3.1;have HZ3:Hid (Zh w3 g3 c3):=R3.2;have yD:Hid (Own w3 Hc.mb (.slice a2 mn c2) m):=gT kY G3;have fQ:Hid (Gr w1 w3):=HG2.trans G3;have zP:Hid (w3.heap[w1.heap.size]?=some (.cells #[.slice none 0 0,.slice none 0 0,.slice none 0 0,.int .i64 0] 84 (0,0))):=Hr.ae G3 ll;have q3:w3.cell? ⟨w.heap.size,0,none⟩=some (.slice ma mn mc):=cr (Hr.ae fQ HA);have q4:w3.cell? ⟨w.heap.size,1,none⟩=some (.slice (some ⟨b,o,none⟩) hn hc):=cr (Hr.ae fQ HA);have z0:w3.cell? ⟨w1.heap.size,0,none⟩=some (.slice none 0 0):=cr zP;have z1:w3.cell? ⟨w1.heap.size,1,none⟩=some (.slice none 0 0):=cr zP;have z2:w3.cell? ⟨w1.heap.size,2,none⟩=some (.slice none 0 0):=cr zP;have z3:w3.cell? ⟨w1.heap.size,3,none⟩=some (.int .i64 0):=cr zP;have f0:w3.frozen? ⟨w1.heap.size,0,none⟩=false:=lh zP;have f1:w3.frozen? ⟨w1.heap.size,1,none⟩=false:=lh zP;clear G3 R3 C2 q0 q1 kY HG2 ll))
 have hlt2:=(gs HB).1;have HB3:=kH (Hr.ae fQ HB);have hne2:w1.heap.size≠w.heap.size+1:=ab;have HI:=kH iB;go_wp2_with (refine auf rfl 84 _ _ rfl (w.heap.size+1) #[.slice a2 mn c2,.slice (some ⟨g3,0,none⟩) hn c3,.slice none 0 0,.int .i64 0] rfl rfl 84 #[.slice none 0 0,.slice none 0 0,.slice none 0 0,.int .i64 0] ?hb HI rfl (DT _ _ _ _ _ _ _ _ _ _) ?_;(case hb=>(rw[hso (by exact hne2.symm),hso (by exact hne2.symm)];exact HB3)));refine auc (v:=.tuple #[.agg _,.int .i64 0]) (Hr.aI results22 _ _ _ _ _ (0,0) _ _ rfl rfl (Ih (by rw[hso (by exact hne2.symm),hso (by exact hne2.symm)];exact HB3)) underlying84 rfl HI) rfl ?_;have ne:∀(t:Nat) (k:Nat) (q:Array Value) (f:Nat×Nat),t≠84->w3.heap[k]?=some (.cells q t f)->(((w3.setCell ⟨w1.heap.size,0,none⟩ (.slice a2 mn c2)).setCell ⟨w1.heap.size,1,none⟩ (.slice (some ⟨g3,0,none⟩) hn c3)).setRow (w.heap.size+1) #[.slice a2 mn c2,.slice (some ⟨g3,0,none⟩) hn c3,.slice none 0 0,.int .i64 0]).heap[k]?=w3.heap[k]?:=fun t k q f ht hk=>by
  have n1:=aa hk zP ht;have n2:=aa hk HB3 ht;rw[sV n2,hso (by exact n1),hso (by exact n1)]
 refine⟨a2,c2,g3,c3,rfl,yD.to fun k q f hk=>ne _ k q f an hk,hg3,?_,?_⟩
 ·obtain⟨rest,hr⟩:=HR3.row;exact⟨⟨HR3.ok,rest,(ne _ _ _ _ an hr).trans hr⟩,HZ3.to fun k q f hk=>ne _ k q f an hk⟩
 ·exact ag (((aU.trans fQ).setCell (aqP hlt) _).setCell (aqP hlt) _) (aqi _) _
end Mc
namespace Hc
variable[Inhabited Hc.bN]
open Mm Hh
variable{h:Hv}
abbrev Ptr (g:Nat):Value:=.pointer (some ⟨g,0,none⟩)
def bP (r:Option Int):Value:=.tuple #[.int .u32 (r.getD 0),.bool r.isSome]
theorem lV {base:Nat}(I:In w base g h l os ss)(hl:l.length<=140737488351232)(a:Int)(h0:0<=a)(h1:a<4294967296):Calls prog 197 #[.pointer (some ⟨g,0,none⟩),.int .u32 a] w fun e w'=>e=.returned (bP (gB h l a).res)/\In w' base g (gB h l a).h l os ss/\Fr base w w':=by
 have L:=dY I hl 13 a h0 h1;unfold gB;have HI:=kH I;clear I;cases hB:bM l 13 a with
 |false=>
  have hX:aN l 13 a=0:=by unfold aN;rw[hB];rfl
  rw[hB,hX]at L;have HL:=kH L;clear L hX hB;go_enter func197,ntmps197;go_wp2_with fail;refine HL.mono ?_;rintro e w' ⟨rfl,I2,C2⟩;have HI2:=kH I2;have ll:=kH C2;clear I2 C2 HL;go_wp2_with fail;go_ret2;exact⟨rfl,HI2,HI.below ll⟩
 |true=>
  rw[hB]at L;have HL:Hid (Calls prog 177 #[.pointer (some ⟨g,0,none⟩),.int .i64 13,.int .u32 a] w fun e w'=>e=.returned (.tuple #[.int .u32 (aN l 13 a),.bool true])/\In w' base g h l os ss/\Ch g w w'):=L;clear L hB;generalize aN l 13 a=X at *
  go_enter func197,ntmps197;go_wp2_with fail;refine HL.mono ?_;rintro e w' ⟨rfl,I2,C2⟩;have ll:Hid (Ch g w w'):=C2;obtain⟨c0,rfl,I⟩:=I2;have k1:=(I.hcell ab).trans (aW I.ok 1);have k2:=(I.hcell ab).trans (aW I.ok 2);have fz:=I.fz;have o1:Hv.Ok { c0.h with held:=true }:=⟨I.ok.len,I.ok.reg,I.ok.nH,I.ok.jV,I.ok.x9,I.ok.zO⟩;have HJ:Hid (Inv ((w'.setCell ⟨g,33,none⟩ (.bool true)).setCell ⟨g,34,none⟩ (.int .u32 a)) base g { c0 with h:=c0.h.hold true a } l os ss):=
   (I.set ab (jW I.ok true) o1).set (c:={ c0 with h:={ c0.h with held:=true } }) ab (gI o1 a) (I.ok.hold true h0 h1)
  generalize c0.h.held=x1 at *
  generalize c0.h.aP=x2 at *
  go_wp2_with fail;go_ret2;exact⟨rfl,HJ.rF,HI.below ((ll.setCell _ _).setCell _ _)⟩
theorem jN {base:Nat}(I:In w base g h l os ss)(T:Tb w base)(hl:l.length<=140737488351232)(hss:ss.length<=1000000)(a b:Int)(h0:0<=a)(h1:a<4294967296)(hx0:0<=b)(hx1:b<4294967296)(ok:bM l 13 a=true):Calls prog 198 #[.pointer (some ⟨g,0,none⟩),.int .u32 a,.int .u32 b] w fun e w'=>e=.returned (.int .u32 ((eU h l a b).res.getD 0))/\In w' base g (eU h l a b).h (eU h l a b).m os (ss++(eU h l a b).av)/\Fr base w w':=by
 unfold eU;rw[at7 ok];have HI:Hid (In w base g h l os ss):=I;obtain⟨c0,rfl,I⟩:=I;have k1:=(I.hcell ab).trans (aW I.ok 1);have k2:=(I.hcell ab).trans (aW I.ok 2);have fz:=I.fz;have o1:Hv.Ok { c0.h with held:=false }:=⟨I.ok.len,I.ok.reg,I.ok.nH,I.ok.jV,I.ok.x9,I.ok.zO⟩;have J:Inv ((w.setCell ⟨g,33,none⟩ (.bool false)).setCell ⟨g,34,none⟩ (.int .u32 0)) base g { c0 with h:=c0.h.hold false 0 } l os ss:=
  (I.set ab (jW I.ok false) o1).set (c:={ c0 with h:={ c0.h with held:=false } }) ab (gI o1 0) (I.ok.hold false (x:=0) ab ab)
 have B:Fr base w ((w.setCell ⟨g,33,none⟩ (.bool false)).setCell ⟨g,34,none⟩ (.int .u32 0)):=HI.below (((Ch.refl g w).setCell _ _).setCell _ _);have S:=dO J.rF (T.of B) hl hss 18 a b h0 h1 hx0 hx1;have e1:aH (c0.h.hold false 0) l 18 a b=⟨c0.h.hold false 0,il l 18 a b,[],[(a,4)],none⟩:=by unfold aH;rw[at7 (bG ok)];rfl
 have HS:Hid (Calls prog 178 #[.pointer (some ⟨g,0,none⟩),.int .i64 18,.int .u32 a,.int .u32 b] ((w.setCell ⟨g,33,none⟩ (.bool false)).setCell ⟨g,34,none⟩ (.int .u32 0)) fun e w'=>e=.returned (.tuple #[])/\In w' base g (c0.h.hold false 0) (il l 18 a b) os (ss++[(a,4)])/\Fr base ((w.setCell ⟨g,33,none⟩ (.bool false)).setCell ⟨g,34,none⟩ (.int .u32 0)) w'):=by
  have S1:=S;rw[e1]at S1;exact S1
 have HJ:=kH J.rF;have HB:=kH B;generalize c0.h.held=x1 at *
 generalize c0.h.aP=x2 at *
 cases x1 with
 |false=>
  rw[at6 aq];go_enter func198,ntmps198;go_wp2_with fail;go_ret;exact⟨rfl,by simpa using HJ.out,HB.out⟩
 |true=>
  by_cases ha:x2=a
  ·rw[at7 ⟨rfl,ha⟩];have ba:(x2 ==a)=true:=by simp[ha]
   go_enter func198,ntmps198;go_wp2_with fail;refine HS.mono ?_;rintro e w' ⟨rfl,I2,B2⟩;have HI2:=kH I2;have HB2:Hid _:=HB.trans B2;go_wp2_with fail;go_ret;exact⟨rfl,HI2,HB2⟩
  ·rw[at6 (by simp[ha])];have ba:(x2 ==a)=false:=by simp[ha]
   go_enter func198,ntmps198;go_wp2_with fail;go_ret;exact⟨rfl,by simpa using HJ.out,HB.out⟩
theorem uz {base:Nat}(I:In w base g h l os ss)(T:Tb w base)(hl:l.length<=140737488351232)(hss:ss.length<=1000000)(op a b:Int)(h0:0<=a)(h1:a<4294967296)(hx0:0<=b)(hx1:b<4294967296):Calls prog 180 #[.pointer (some ⟨g,0,none⟩),.int .i64 op,.int .u32 a,.int .u32 b] w fun e w'=>e=.returned (bP (aK h l op a b).res)/\In w' base g (aK h l op a b).h (aK h l op a b).m os (ss++(aK h l op a b).av)/\Fr base w w':=by
 have R:=kH (lV I hl a h0 h1);have Tr:Hid (∀c,_):=fun c=>dK I c
 have SH:Hid (bM l 13 a=true->_):=fun ok=>jN I T hl hss a b h0 h1 hx0 hx1 ok
 have wv:=W.aN l 13 a;have wa:=W.mO (op:=op) wv ⟨hx0,hx1⟩;have St:Hid _:=dO I T hl hss 18 a _ h0 h1 wa.1 wa.2;have HI:=kH I;obtain⟨c0,rfl,I⟩:=I;obtain⟨ao,cap,hm,M⟩:=I.mem.mem;have k1:w.cell? ⟨g,37,none⟩=some (.slice ao l.length cap):=(I.dJ 0).trans (by rw[hm];rfl);have L:Hid _:=Mm.dY cap 13 a M hl h0 h1;have Am:=kH (Ww.Fv op _ b w wv.1 wv.2 hx0 hx1);by_cases h46:op=46
 ·have e:aK c0.h l op a b=gB c0.h l a:=at7 h46;have em:(gB c0.h l a).m=l/\(gB c0.h l a).av=[]:=by unfold gB;split<;>exact⟨rfl,rfl⟩
  rw[e,em.1,em.2,apz];have b46:(op ==46)=true:=by simp[h46]
  generalize gB c0.h l a=E at *
  unfold bP at *
  go_enter func180,ntmps180;go_wp2_with fail;refine R.mono ?_;rintro e w' ⟨rfl,I2,B2⟩;have HI2:=kH I2;have HB2:=kH B2;go_wp2_with fail;go_ret2;exact⟨rfl,HI2,HB2⟩
 have b46:(op ==46)=false:=by simp[h46]
 cases ok:bM l 13 a with
 |false=>
  have e:aK c0.h l op a b=⟨c0.h.trap 4,l,[],[],none⟩:=by
   unfold aK eU iN;rw[at6 h46,ok];simp
  rw[e,apz];rw[ok]at L;have L2:Hid (Calls prog 64 #[.slice ao l.length cap,.int .i64 13,.int .u32 a] w fun e w'=>e=.returned (.tuple #[.int .u32 (aN l 13 a),.bool false])/\w'=w):=L;generalize aN l 13 a=X at *
  generalize l.length=n at *
  go_enter func180,ntmps180;go_wp2_with fail;refine L2.mono ?_;rintro e w' ⟨rfl,rfl⟩;go_wp2_with fail;refine(Tr 4).mono ?_;rintro e w2 ⟨rfl,I2,C2⟩;have HI2:=kH I2;have ll:=kH C2;go_wp2_with fail;go_ret2;exact⟨rfl,HI2,HI.below ll⟩
 |true=>
  rw[ok]at L;have L2:Hid (Calls prog 64 #[.slice ao l.length cap,.int .i64 13,.int .u32 a] w fun e w'=>e=.returned (.tuple #[.int .u32 (aN l 13 a),.bool true])/\w'=w):=L;by_cases h47:op=47
  ·have e:aK c0.h l op a b=eU c0.h l a b:=by unfold aK;rw[at6 h46,at7 h47]
   have er:bP (eU c0.h l a b).res=.tuple #[.int .u32 ((eU c0.h l a b).res.getD 0),.bool true]:=by
    unfold bP eU;rw[at7 ok];split<;>rfl
   rw[e,er];have S2:=kH (SH ok);have b47:(op ==47)=true:=by simp[h47]
   generalize eU c0.h l a b=E at *
   generalize E.res.getD 0=Y at *
   generalize aN l 13 a=X at *
   generalize l.length=n at *
   go_enter func180,ntmps180;go_wp2_with fail;refine L2.mono ?_;rintro e w' ⟨rfl,rfl⟩;go_wp2_with fail;refine S2.mono ?_;rintro e w2 ⟨rfl,I2,B2⟩;have HI2:=kH I2;have HB2:=kH B2;go_wp2_with fail;go_ret2;exact⟨rfl,HI2,HB2⟩
  ·have e:aK c0.h l op a b=⟨c0.h,il l 18 a (Wd.mO op (aN l 13 a) b),[],[(a,4)],some (aN l 13 a)⟩:=by unfold aK iN;rw[at6 h46,at6 h47,at7 ok]
   have e2:aH c0.h l 18 a (Wd.mO op (aN l 13 a) b)=⟨c0.h,il l 18 a (Wd.mO op (aN l 13 a) b),[],[(a,4)],none⟩:=by unfold aH;rw[at7 (bG ok)];rfl
   rw[e];rw[e2]at St;have St2:Hid (Calls prog 178 #[.pointer (some ⟨g,0,none⟩),.int .i64 18,.int .u32 a,.int .u32 (Wd.mO op (aN l 13 a) b)] w fun e w'=>e=.returned (.tuple #[])/\In w' base g c0.h (il l 18 a (Wd.mO op (aN l 13 a) b)) os (ss++[(a,4)])/\Fr base w w'):=St;have b47:(op ==47)=false:=by simp[h47]
   unfold bP;generalize il l 18 a (Wd.mO op (aN l 13 a) b)=K at *
   generalize Wd.mO op (aN l 13 a) b=Y at *
   generalize aN l 13 a=X at *
   generalize l.length=n at *
   go_enter func180,ntmps180;go_wp2_with fail;refine L2.mono ?_;rintro e w' ⟨rfl,rfl⟩;go_wp2_with fail;refine Am.mono ?_;rintro e w' ⟨rfl,rfl⟩;clear Am;go_wp2_with fail;refine St2.mono ?_;rintro e w2 ⟨rfl,I2,B2⟩;have HI2:=kH I2;have HB2:=kH B2;go_wp2_with fail;go_ret2;exact⟨rfl,HI2,HB2⟩
end Hc
namespace Hc
variable[Inhabited Hc.bN]
open Mm Hh
variable{base:Nat}{h:Hv}
theorem aF (n a b:Int)(w:World)(h:a<=n/\n<=b):Calls prog 97 #[.int .i64 n,.int .i64 a,.int .i64 b] w fun e w'=>e=.returned (.bool true)/\w=w':=by have:=aG n a b w;rw[show(decide (a<=n) && decide (n<=b))=true by simp;omega]at this;exact this.mono fun e w' h=>⟨h.1,h.2.symm⟩
theorem ai (n a b:Int)(w:World)(h:¬(a<=n/\n<=b)):Calls prog 97 #[.int .i64 n,.int .i64 a,.int .i64 b] w fun e w'=>e=.returned (.bool false)/\w=w':=by have:=aG n a b w;rw[show(decide (a<=n) && decide (n<=b))=false by simp;omega]at this;exact this.mono fun e w' h=>⟨h.1,h.2.symm⟩
theorem Jh (T:Tb w base)(op:Int)(h0:19<=op)(h1:op<=27):w.cell? ⟨10,op.toNat,none⟩=some (.int .i64 (opn op)):=by
 have h:op=19\/op=20\/op=21\/op=22\/op=23\/op=24\/op=25\/op=26\/op=27:=ab;rcases h with rfl|rfl|rfl|rfl|rfl|rfl|rfl|rfl|rfl
 ·exact T.opers 19 _ rfl
 ·exact T.opers 20 _ rfl
 ·exact T.opers 21 _ rfl
 ·exact T.opers 22 _ rfl
 ·exact T.opers 23 _ rfl
 ·exact T.opers 24 _ rfl
 ·exact T.opers 25 _ rfl
 ·exact T.opers 26 _ rfl
 ·exact T.opers 27 _ rfl
theorem adh (I:In w base g h l os ss)(T:Tb w base)(hl:l.length<=140737488351232)(hss:ss.length<=1000000)(hos:os.length<=1000000)(op a b n:Int)(ha:W a)(hb:W b)(hn:W n)(ho:op=1):Calls prog 161 #[.pointer (some ⟨g,0,none⟩),.int .i64 op,.int .u32 a,.int .u32 b,.int .u32 n] w fun e w'=>e=.returned (bP (⟨h,l,[],[],some n⟩:Ev).res)/\In w' base g (⟨h,l,[],[],some n⟩:Ev).h (⟨h,l,[],[],some n⟩:Ev).m (os++(⟨h,l,[],[],some n⟩:Ev).out) (ss++(⟨h,l,[],[],some n⟩:Ev).av)/\Fr base w w':=by
 have HI:Hid (In w base g h l (os++[]) (ss++[])):=by unfold Hid;simpa using I
 subst ho;go_enter func161,ntmps161;go_wp2_with (go_at_call 97;first|(refine(aF _ _ _ _ ab).mono ?_;rintro e w' ⟨rfl,rfl⟩)|(refine(ai _ _ _ _ ab).mono ?_;rintro e w' ⟨rfl,rfl⟩));unfold bP;go_ret2;exact⟨rfl,HI,Fr.refl _ _⟩
theorem adi (I:In w base g h l os ss)(T:Tb w base)(hl:l.length<=140737488351232)(hss:ss.length<=1000000)(hos:os.length<=1000000)(op a b n:Int)(ha:W a)(hb:W b)(hn:W n)(ho:op=2):Calls prog 161 #[.pointer (some ⟨g,0,none⟩),.int .i64 op,.int .u32 a,.int .u32 b,.int .u32 n] w fun e w'=>e=.returned (bP (⟨h,l,[],[],some (Wd.lo (h.pc+n))⟩:Ev).res)/\In w' base g (⟨h,l,[],[],some (Wd.lo (h.pc+n))⟩:Ev).h (⟨h,l,[],[],some (Wd.lo (h.pc+n))⟩:Ev).m (os++(⟨h,l,[],[],some (Wd.lo (h.pc+n))⟩:Ev).out) (ss++(⟨h,l,[],[],some (Wd.lo (h.pc+n))⟩:Ev).av)/\Fr base w w':=by
 have HI:Hid (In w base g h l (os++[]) (ss++[])):=by unfold Hid;simpa using I
 have HI0:=kH I;obtain⟨c0,rfl,J⟩:=HI0;have Nf:=(J.hcell ab).trans (aW J.ok 0);have p0:=J.ok.nH;have p1:=J.ok.jV;subst ho;go_enter func161,ntmps161;go_wp2_with (go_at_call 97;first|(refine(aF _ _ _ _ ab).mono ?_;rintro e w' ⟨rfl,rfl⟩)|(refine(ai _ _ _ _ ab).mono ?_;rintro e w' ⟨rfl,rfl⟩));unfold bP;go_ret2;exact⟨rfl,HI,Fr.refl _ _⟩
theorem adj (I:In w base g h l os ss)(T:Tb w base)(hl:l.length<=140737488351232)(hss:ss.length<=1000000)(hos:os.length<=1000000)(op a b n:Int)(ha:W a)(hb:W b)(hn:W n)(ho:op=3):Calls prog 161 #[.pointer (some ⟨g,0,none⟩),.int .i64 op,.int .u32 a,.int .u32 b,.int .u32 n] w fun e w'=>e=.returned (bP (⟨h,l,[],[],some (Wd.lo (h.pc+4))⟩:Ev).res)/\In w' base g (⟨h,l,[],[],some (Wd.lo (h.pc+4))⟩:Ev).h (⟨h,l,[],[],some (Wd.lo (h.pc+4))⟩:Ev).m (os++(⟨h,l,[],[],some (Wd.lo (h.pc+4))⟩:Ev).out) (ss++(⟨h,l,[],[],some (Wd.lo (h.pc+4))⟩:Ev).av)/\Fr base w w':=by
 have HI:Hid (In w base g h l (os++[]) (ss++[])):=by unfold Hid;simpa using I
 have HI0:=kH I;obtain⟨c0,rfl,J⟩:=HI0;have Nf:=(J.hcell ab).trans (aW J.ok 0);have p0:=J.ok.nH;have p1:=J.ok.jV;subst ho;go_enter func161,ntmps161;go_wp2_with (go_at_call 97;first|(refine(aF _ _ _ _ ab).mono ?_;rintro e w' ⟨rfl,rfl⟩)|(refine(ai _ _ _ _ ab).mono ?_;rintro e w' ⟨rfl,rfl⟩));unfold bP;go_ret2;exact⟨rfl,HI,Fr.refl _ _⟩
theorem adk (I:In w base g h l os ss)(T:Tb w base)(hl:l.length<=140737488351232)(hss:ss.length<=1000000)(hos:os.length<=1000000)(op a b n:Int)(ha:W a)(hb:W b)(hn:W n)(ho:op=4):Calls prog 161 #[.pointer (some ⟨g,0,none⟩),.int .i64 op,.int .u32 a,.int .u32 b,.int .u32 n] w fun e w'=>e=.returned (bP (⟨h,l,[],[],some (Wd.lo (h.pc+4))⟩:Ev).res)/\In w' base g (⟨h,l,[],[],some (Wd.lo (h.pc+4))⟩:Ev).h (⟨h,l,[],[],some (Wd.lo (h.pc+4))⟩:Ev).m (os++(⟨h,l,[],[],some (Wd.lo (h.pc+4))⟩:Ev).out) (ss++(⟨h,l,[],[],some (Wd.lo (h.pc+4))⟩:Ev).av)/\Fr base w w':=by
 have HI:Hid (In w base g h l (os++[]) (ss++[])):=by unfold Hid;simpa using I
 have HI0:=kH I;obtain⟨c0,rfl,J⟩:=HI0;have Nf:=(J.hcell ab).trans (aW J.ok 0);have p0:=J.ok.nH;have p1:=J.ok.jV;subst ho;go_enter func161,ntmps161;go_wp2_with (go_at_call 97;first|(refine(aF _ _ _ _ ab).mono ?_;rintro e w' ⟨rfl,rfl⟩)|(refine(ai _ _ _ _ ab).mono ?_;rintro e w' ⟨rfl,rfl⟩));unfold bP;go_ret2;exact⟨rfl,HI,Fr.refl _ _⟩
theorem Ng (I:In w base g h l os ss)(T:Tb w base)(hl:l.length<=140737488351232)(hss:ss.length<=1000000)(hos:os.length<=1000000)(op a b n:Int)(ha:W a)(hb:W b)(hn:W n)(ho:op<=0\/5<=op/\op<=10\/op=57\/60<=op):Calls prog 161 #[.pointer (some ⟨g,0,none⟩),.int .i64 op,.int .u32 a,.int .u32 b,.int .u32 n] w fun e w'=>e=.returned (bP (⟨h,l,[],[],none⟩:Ev).res)/\In w' base g (⟨h,l,[],[],none⟩:Ev).h (⟨h,l,[],[],none⟩:Ev).m (os++(⟨h,l,[],[],none⟩:Ev).out) (ss++(⟨h,l,[],[],none⟩:Ev).av)/\Fr base w w':=by
 have HI:Hid (In w base g h l (os++[]) (ss++[])):=by unfold Hid;simpa using I
 have b1:(op ==1)=false:=by simp;omega
 have b2:(op ==2)=false:=by simp;omega
 have b3:(op ==3)=false:=by simp;omega
 have b4:(op ==4)=false:=by simp;omega
 have b58:(op ==58)=false:=by simp;omega
 have b59:(op ==59)=false:=by simp;omega
 go_enter func161,ntmps161;go_wp2_with (go_at_call 97;first|(refine(aF _ _ _ _ ab).mono ?_;rintro e w' ⟨rfl,rfl⟩)|(refine(ai _ _ _ _ ab).mono ?_;rintro e w' ⟨rfl,rfl⟩));unfold bP;go_ret2;exact⟨rfl,HI,Fr.refl _ _⟩
theorem Nh {base:Nat}(I:In w base g h l os ss)(T:Tb w base)(hl:l.length<=140737488351232)(hss:ss.length<=1000000)(hos:os.length<=1000000)(op a b n:Int)(ha:W a)(hb:W b)(hn:W n)(ho:11<=op/\op<=15):Calls prog 161 #[.pointer (some ⟨g,0,none⟩),.int .i64 op,.int .u32 a,.int .u32 b,.int .u32 n] w fun e w'=>e=.returned (bP (bF h l op (Wd.lo (a+n))).res)/\In w' base g (bF h l op (Wd.lo (a+n))).h (bF h l op (Wd.lo (a+n))).m (os++(bF h l op (Wd.lo (a+n))).out) (ss++(bF h l op (Wd.lo (a+n))).av)/\Fr base w w':=by
 have HI:=kH I;have L:=dY I hl op (Wd.lo (a+n)) (Wd.vW _).1 (Wd.vW _).2;have e:(bF h l op (Wd.lo (a+n))).res.getD 0=aN l op (Wd.lo (a+n))/\(bF h l op (Wd.lo (a+n))).res.isSome=bM l op (Wd.lo (a+n))/\(bF h l op (Wd.lo (a+n))).h=(if bM l op (Wd.lo (a+n))=true then h else h.trap 3)/\(bF h l op (Wd.lo (a+n))).m=l/\(bF h l op (Wd.lo (a+n))).out=[]/\(bF h l op (Wd.lo (a+n))).av=[]:=by
  unfold bF;cases ok:bM l op (Wd.lo (a+n))with
  |false=>refine⟨?_,aq,aq,aq,aq,aq⟩;unfold aN;simp[ok]
  |true=>simp
 obtain⟨e1,e2,e3,e4,e5,e6⟩:=e;unfold bP;rw[e1,e2,e3,e4,e5,e6,apz,apz];generalize aN l op (Wd.lo (a+n))=X at *
 generalize bM l op (Wd.lo (a+n))=B at *
 generalize(if B=true then h else h.trap 3)=h' at *
 have L2:=kH L;unfold W at ha hb hn;have b1:(op ==1)=false:=by simp;omega
 have b2:(op ==2)=false:=by simp;omega
 have b3:(op ==3)=false:=by simp;omega
 have b4:(op ==4)=false:=by simp;omega
 have b58:(op ==58)=false:=by simp;omega
 have b59:(op ==59)=false:=by simp;omega
 go_enter func161,ntmps161;go_wp2_with (go_at_call 97;first|(refine(aF _ _ _ _ ab).mono ?_;rintro e w' ⟨rfl,rfl⟩)|(refine(ai _ _ _ _ ab).mono ?_;rintro e w' ⟨rfl,rfl⟩));refine L2.mono ?_;rintro e w' ⟨rfl,I2,C2⟩;have HI2:=kH I2;have ll:=kH C2;go_wp2_with fail;go_ret2;exact⟨rfl,HI2,HI.below ll⟩
theorem Ji {base:Nat}(I:In w base g h l os ss)(T:Tb w base)(hl:l.length<=140737488351232)(hss:ss.length<=1000000)(hos:os.length<=1000000)(op a b n:Int)(ha:W a)(hb:W b)(hn:W n)(ho:16<=op/\op<=18):Calls prog 161 #[.pointer (some ⟨g,0,none⟩),.int .i64 op,.int .u32 a,.int .u32 b,.int .u32 n] w fun e w'=>e=.returned (bP (aH h l op (Wd.lo (a+n)) b).res)/\In w' base g (aH h l op (Wd.lo (a+n)) b).h (aH h l op (Wd.lo (a+n)) b).m (os++(aH h l op (Wd.lo (a+n)) b).out) (ss++(aH h l op (Wd.lo (a+n)) b).av)/\Fr base w w':=by
 have L:=dO I T hl hss op (Wd.lo (a+n)) b (Wd.vW _).1 (Wd.vW _).2 hb.1 hb.2;have e:(aH h l op (Wd.lo (a+n)) b).res=none/\(aH h l op (Wd.lo (a+n)) b).out=[]:=by unfold aH;split<;>exact⟨rfl,rfl⟩
 unfold bP;rw[e.1,e.2,apz];generalize aH h l op (Wd.lo (a+n)) b=E at *
 have L2:=kH L;unfold W at ha hb hn;have b1:(op ==1)=false:=by simp;omega
 have b2:(op ==2)=false:=by simp;omega
 have b3:(op ==3)=false:=by simp;omega
 have b4:(op ==4)=false:=by simp;omega
 have b58:(op ==58)=false:=by simp;omega
 have b59:(op ==59)=false:=by simp;omega
 go_enter func161,ntmps161;go_wp2_with (go_at_call 97;first|(refine(aF _ _ _ _ ab).mono ?_;rintro e w' ⟨rfl,rfl⟩)|(refine(ai _ _ _ _ ab).mono ?_;rintro e w' ⟨rfl,rfl⟩));refine L2.mono ?_;rintro e w' ⟨rfl,I2,B2⟩;have HI2:=kH I2;have HB2:=kH B2;go_wp2_with fail;go_ret2;exact⟨rfl,HI2,HB2⟩
theorem Ni (I:In w base g h l os ss)(T:Tb w base)(hl:l.length<=140737488351232)(hss:ss.length<=1000000)(hos:os.length<=1000000)(op a b n:Int)(ha:W a)(hb:W b)(hn:W n)(ho:19<=op/\op<=27):Calls prog 161 #[.pointer (some ⟨g,0,none⟩),.int .i64 op,.int .u32 a,.int .u32 b,.int .u32 n] w fun e w'=>e=.returned (bP (⟨h,l,[],[],some (Wd.eT (opn op) a n)⟩:Ev).res)/\In w' base g (⟨h,l,[],[],some (Wd.eT (opn op) a n)⟩:Ev).h (⟨h,l,[],[],some (Wd.eT (opn op) a n)⟩:Ev).m (os++(⟨h,l,[],[],some (Wd.eT (opn op) a n)⟩:Ev).out) (ss++(⟨h,l,[],[],some (Wd.eT (opn op) a n)⟩:Ev).av)/\Fr base w w':=by
 have HI:Hid (In w base g h l (os++[]) (ss++[])):=by unfold Hid;simpa using I
 have kc:=Jh T op ho.1 ho.2;have A:Hid (Calls prog 179 #[.int .i64 (opn op),.int .u32 a,.int .u32 n] w fun e w'=>e=.returned (.int .u32 (Wd.eT (opn op) a n))/\w'=w):=Ww.jE _ a n w ha.1 ha.2 hn.1 hn.2;unfold W at ha hb hn;have b1:(op ==1)=false:=by simp;omega
 have b2:(op ==2)=false:=by simp;omega
 have b3:(op ==3)=false:=by simp;omega
 have b4:(op ==4)=false:=by simp;omega
 have b58:(op ==58)=false:=by simp;omega
 have b59:(op ==59)=false:=by simp;omega
 unfold bP;generalize Wd.eT (opn op) a n=X at *
 go_enter func161,ntmps161;go_wp2_with (go_at_call 97;first|(refine(aF _ _ _ _ ab).mono ?_;rintro e w' ⟨rfl,rfl⟩)|(refine(ai _ _ _ _ ab).mono ?_;rintro e w' ⟨rfl,rfl⟩));refine A.mono ?_;rintro e w9 ⟨rfl,hw9⟩;obtain rfl:=hw9.symm;go_wp2_with fail;go_ret2;exact⟨rfl,HI,Fr.refl _ _⟩
theorem yE (I:In w base g h l os ss)(T:Tb w base)(hl:l.length<=140737488351232)(hss:ss.length<=1000000)(hos:os.length<=1000000)(op a b n:Int)(ha:W a)(hb:W b)(hn:W n)(ho:28<=op/\op<=45):Calls prog 161 #[.pointer (some ⟨g,0,none⟩),.int .i64 op,.int .u32 a,.int .u32 b,.int .u32 n] w fun e w'=>e=.returned (bP (⟨h,l,[],[],some (Wd.eT op a b)⟩:Ev).res)/\In w' base g (⟨h,l,[],[],some (Wd.eT op a b)⟩:Ev).h (⟨h,l,[],[],some (Wd.eT op a b)⟩:Ev).m (os++(⟨h,l,[],[],some (Wd.eT op a b)⟩:Ev).out) (ss++(⟨h,l,[],[],some (Wd.eT op a b)⟩:Ev).av)/\Fr base w w':=by
 have HI:Hid (In w base g h l (os++[]) (ss++[])):=by unfold Hid;simpa using I
 have A:Hid (Calls prog 179 #[.int .i64 op,.int .u32 a,.int .u32 b] w fun e w'=>e=.returned (.int .u32 (Wd.eT op a b))/\w'=w):=Ww.jE _ a b w ha.1 ha.2 hb.1 hb.2;unfold W at ha hb hn;have b1:(op ==1)=false:=by simp;omega
 have b2:(op ==2)=false:=by simp;omega
 have b3:(op ==3)=false:=by simp;omega
 have b4:(op ==4)=false:=by simp;omega
 have b58:(op ==58)=false:=by simp;omega
 have b59:(op ==59)=false:=by simp;omega
 unfold bP;generalize Wd.eT op a b=X at *
 go_enter func161,ntmps161;go_wp2_with (go_at_call 97;first|(refine(aF _ _ _ _ ab).mono ?_;rintro e w' ⟨rfl,rfl⟩)|(refine(ai _ _ _ _ ab).mono ?_;rintro e w' ⟨rfl,rfl⟩));refine A.mono ?_;rintro e w9 ⟨rfl,hw9⟩;obtain rfl:=hw9.symm;go_wp2_with fail;go_ret2;exact⟨rfl,HI,Fr.refl _ _⟩
theorem Nj {base:Nat}(I:In w base g h l os ss)(T:Tb w base)(hl:l.length<=140737488351232)(hss:ss.length<=1000000)(hos:os.length<=1000000)(op a b n:Int)(ha:W a)(hb:W b)(hn:W n)(ho:46<=op/\op<=56):Calls prog 161 #[.pointer (some ⟨g,0,none⟩),.int .i64 op,.int .u32 a,.int .u32 b,.int .u32 n] w fun e w'=>e=.returned (bP (aK h l op a b).res)/\In w' base g (aK h l op a b).h (aK h l op a b).m (os++(aK h l op a b).out) (ss++(aK h l op a b).av)/\Fr base w w':=by
 have L:=uz I T hl hss op a b ha.1 ha.2 hb.1 hb.2;have e:(aK h l op a b).out=[]:=by
  unfold aK gB eU iN;repeat' split
  all_goals rfl
 rw[e,apz];unfold bP at L ⊢;generalize aK h l op a b=E at *
 have L2:=kH L;generalize E.res.getD 0=X at *
 generalize E.res.isSome=Y at *
 unfold W at ha hb hn;have b1:(op ==1)=false:=by simp;omega
 have b2:(op ==2)=false:=by simp;omega
 have b3:(op ==3)=false:=by simp;omega
 have b4:(op ==4)=false:=by simp;omega
 have b58:(op ==58)=false:=by simp;omega
 have b59:(op ==59)=false:=by simp;omega
 go_enter func161,ntmps161;go_wp2_with (go_at_call 97;first|(refine(aF _ _ _ _ ab).mono ?_;rintro e w' ⟨rfl,rfl⟩)|(refine(ai _ _ _ _ ab).mono ?_;rintro e w' ⟨rfl,rfl⟩));refine L2.mono ?_;rintro e w' ⟨rfl,I2,B2⟩;have HI2:=kH I2;have HB2:=kH B2;go_wp2_with fail;go_ret2;exact⟨rfl,HI2,HB2⟩
theorem Nk {base:Nat}(I:In w base g h l os ss)(T:Tb w base)(hl:l.length<=140737488351232)(hss:ss.length<=1000000)(hos:os.length<=1000000)(op a b n:Int)(ha:W a)(hb:W b)(hn:W n)(ho:op=58):Calls prog 161 #[.pointer (some ⟨g,0,none⟩),.int .i64 op,.int .u32 a,.int .u32 b,.int .u32 n] w fun e w'=>e=.returned (bP (bA h l).res)/\In w' base g (bA h l).h (bA h l).m (os++(bA h l).out) (ss++(bA h l).av)/\Fr base w w':=by
 have L:=tO I hos;have e:(bA h l).res=none/\(bA h l).av=[]/\(bA h l).m=l:=by
  unfold bA;repeat' split
  all_goals exact⟨rfl,rfl,rfl⟩
 unfold bP;rw[e.1,e.2.1,e.2.2,apz];generalize bA h l=E at *
 have L2:=kH L;subst ho;unfold W at ha hb hn;go_enter func161,ntmps161;go_wp2_with (go_at_call 97;first|(refine(aF _ _ _ _ ab).mono ?_;rintro e w' ⟨rfl,rfl⟩)|(refine(ai _ _ _ _ ab).mono ?_;rintro e w' ⟨rfl,rfl⟩));refine L2.mono ?_;rintro e w' ⟨rfl,I2,B2⟩;have HI2:=kH I2;have HB2:=kH B2;go_wp2_with fail;go_ret2;exact⟨rfl,HI2,HB2⟩
theorem Jj {base:Nat}(I:In w base g h l os ss)(T:Tb w base)(hl:l.length<=140737488351232)(hss:ss.length<=1000000)(hos:os.length<=1000000)(op a b n:Int)(ha:W a)(hb:W b)(hn:W n)(ho:op=59):Calls prog 161 #[.pointer (some ⟨g,0,none⟩),.int .i64 op,.int .u32 a,.int .u32 b,.int .u32 n] w fun e w'=>e=.returned (bP (⟨h.trap 6,l,[],[],none⟩:Ev).res)/\In w' base g (⟨h.trap 6,l,[],[],none⟩:Ev).h (⟨h.trap 6,l,[],[],none⟩:Ev).m (os++(⟨h.trap 6,l,[],[],none⟩:Ev).out) (ss++(⟨h.trap 6,l,[],[],none⟩:Ev).av)/\Fr base w w':=by have HI:=kH I;have L2:=kH (dK I 6);unfold bP;rw[apz,apz];subst ho;unfold W at ha hb hn;go_enter func161,ntmps161;go_wp2_with (go_at_call 97;first|(refine(aF _ _ _ _ ab).mono ?_;rintro e w' ⟨rfl,rfl⟩)|(refine(ai _ _ _ _ ab).mono ?_;rintro e w' ⟨rfl,rfl⟩));refine L2.mono ?_;rintro e w' ⟨rfl,I2,B2⟩;have HI2:=kH I2;have HB2:=kH B2;go_wp2_with fail;go_ret2;exact⟨rfl,HI2,HI.below HB2⟩
theorem oH (I:In w base g h l os ss)(T:Tb w base)(hl:l.length<=140737488351232)(hss:ss.length<=1000000)(hos:os.length<=1000000)(op a b n:Int)(ha:W a)(hb:W b)(hn:W n):Calls prog 161 #[.pointer (some ⟨g,0,none⟩),.int .i64 op,.int .u32 a,.int .u32 b,.int .u32 n] w fun e w'=>e=.returned (bP (fT h l op a b n).res)/\In w' base g (fT h l op a b n).h (fT h l op a b n).m (os++(fT h l op a b n).out) (ss++(fT h l op a b n).av)/\Fr base w w':=by
 unfold fT;by_cases h1:op=1
 ·rw[at7 h1];exact adh I T hl hss hos op a b n ha hb hn h1
 rw[at6 h1];by_cases h2:op=2
 ·rw[at7 h2];exact adi I T hl hss hos op a b n ha hb hn h2
 rw[at6 h2];by_cases h3:op=3
 ·rw[at7 (.inl h3)];exact adj I T hl hss hos op a b n ha hb hn h3
 by_cases h4:op=4
 ·rw[at7 (.inr h4)];exact adk I T hl hss hos op a b n ha hb hn h4
 rw[ak];by_cases h5:11<=op/\op<=15
 ·rw[at7 h5];exact Nh I T hl hss hos op a b n ha hb hn h5
 rw[at6 h5];by_cases h6:16<=op/\op<=18
 ·rw[at7 h6];exact Ji I T hl hss hos op a b n ha hb hn h6
 rw[at6 h6];by_cases h7:19<=op/\op<=27
 ·rw[at7 h7];exact Ni I T hl hss hos op a b n ha hb hn h7
 rw[at6 h7];by_cases h8:28<=op/\op<=45
 ·rw[at7 h8];exact yE I T hl hss hos op a b n ha hb hn h8
 rw[at6 h8];by_cases h9:46<=op/\op<=56
 ·rw[at7 h9];exact Nj I T hl hss hos op a b n ha hb hn h9
 rw[at6 h9];by_cases h10:op=58
 ·rw[at7 h10];exact Nk I T hl hss hos op a b n ha hb hn h10
 rw[at6 h10];by_cases h11:op=59
 ·rw[at7 h11];exact Jj I T hl hss hos op a b n ha hb hn h11
 rw[at6 h11];exact Ng I T hl hss hos op a b n ha hb hn ab
end Hc
end Go.Proofs.YtiadhbmnfjfioaaGreatDoor
