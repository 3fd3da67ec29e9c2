/- ours -/
import Derived.Test.YtiadhbmnfjfioaaGreatDoorU04
set_option linter.unusedVariables false
set_option linter.unusedSimpArgs false
set_option maxHeartbeats 8000000
set_option maxRecDepth 100000
set_option linter.unusedSectionVars false
namespace Go.Proofs.YtiadhbmnfjfioaaGreatDoor
open Go.Value (int slice pointer agg tuple)
open Go.IntKind (i64)
open Go.Ending (returned)
open Go.Operand (tmp)
open Go.Proofs.Tryz hiding cs d1 d6 t0 t1 t2 t3 t4 t5 t6 t7
open Go.ChangeShapes Go.WideShapes Go.ChangeAt Go.RowKit
variable{cells Z:Array Value}{x1 x2 x3 ok:Bool}{x op steps a bf bt d pu sl pc p1:Int}{ss:List (Int×Int)}{ps:List (Nat×Nat)}{os:List Int}{l:List UInt8}{rs' xs rs:List Value}{i j base g n k B b e sz cap ml mc mn c sc m1:Nat}{f0:Nat×Nat}{ao mo ca ma sa:Option Addr}{P:Program}{v S z M O:Value}{w w':World}{PV:World->Value->Prop}
variable [Inhabited Hc.bH]
namespace Gc
open Mm Hh Hc
variable{ty:Nat}{rs:List Value}
variable{c:Cv}
def cB (c:Cv) (rs:List Value):Array Value:=(hL c.h++([c.m,c.out,c.ax]++rs)).toArray
theorem ab6 (o:c.h.Ok)(hi:i<37):(cB c rs)[i]?=(hL c.h)[i]?:=by have:=aF o;unfold cB;rw[arB,arO ab]
theorem Gi (o:c.h.Ok){j}(hj:j<3):(cB c rs)[37+j]?=[c.m,c.out,c.ax][j]?:=by unfold cB;rw[arB,arK (by simp[aF o]),aF o,show 37+j-37=j by omega,arO (by simpa using hj)]
theorem Al (o:c.h.Ok)(j):(cB c rs)[40+j]?=rs[j]?:=by unfold cB;rw[arB,arK (by simp[aF o];omega),aF o,arK aE];simp only[arM,ar8];rw[show 40+j-37-(0+1+1+1)=j by omega]
theorem ab7 (o:c.h.Ok)(hi:i<37){h'}(e:(hL c.h).set i v=hL h'):(cB c rs).setIfInBounds i v=cB { c with h:=h' } rs:=by have:=aF o;unfold cB;simp only[arp];rw[asF _ _ ab,e]
theorem Ao {c'}(o:c.h.Ok){j}(hj:j<3)(eh:c'.h=c.h)(e:[c.m,c.out,c.ax].set j v=[c'.m,c'.out,c'.ax]):(cB c rs).setIfInBounds (37+j) v=cB c' rs:=by have:=aF o;unfold cB;simp only[arp];rw[arX _ _ ab,this,show 37+j-37=j by omega,asF _ _ (by simpa using hj),e,eh]
theorem Xg (o:c.h.Ok)(j)(v):(cB c rs).setIfInBounds (40+j) v=cB c (rs.set j v):=by have:=aF o;unfold cB;simp only[arp];rw[arX _ _ ab,this,arX _ _ aE];simp only[arM,ar8];rw[show 40+j-37-(0+1+1+1)=j by omega]
structure Inv (ty:Nat) (rs:List Value) (w:World) (base g:Nat) (c:Cv) (l:List UInt8) (os:List Int) (ss:List (Int×Int)):Prop where
 t1:ty≠5
 t2:ty≠37
 t3:ty≠175
 ok:c.h.Ok
 bg:base<=g
 core:w.heap[g]?=some (.cells (cB c rs) ty (0,0))
 mem:Own w Hc.mb c.m l
 UU:Hc.mb<=base
 out:w.ownsRow base 37 1 c.out os.length (os.map (Value.int .u32))
 ax:w.ownsRow base 175 2 c.ax ss.length (tX ss)
def In (ty:Nat) (rs:List Value) (w:World) (base g:Nat) (h:Hv) (l:List UInt8) (os:List Int) (ss:List (Int×Int)):Prop:=∃c:Cv,c.h=h/\Inv ty rs w base g c l os ss
theorem Inv.toM {c'}{l'}(I:Inv ty rs w base g c l os ss)(q:Ch g w w')(hc:w'.heap[g]?=some (.cells (cB c' rs') ty (0,0)))(ok:c'.h.Ok)(em:Own w' Hc.mb c'.m l')(eo:c'.out=c.out)(es:c'.ax=c.ax):Inv ty rs' w' base g c' l' os ss:=by
 have st:∀t:Nat,t≠ty->∀(k:Nat) (o:Array Value) (f:Nat×Nat),w.heap[k]?=some (.cells o t f)->w'.heap[k]?=w.heap[k]?:=fun t ht k o f hk=>
  q.block k (gs hk).1 (fun e=>aa hk I.core ht (by injection e))
 refine⟨I.t1,I.t2,I.t3,ok,I.bg,hc,em,I.UU,?_,?_⟩
 ·rw[eo];exact aj I.out (st _ I.t2.symm)
 ·rw[es];exact aj I.ax (st _ I.t3.symm)
theorem Inv.to {w w'}{base g}{c c'}{l}{os}{ss}{rs'}(I:Inv ty rs w base g c l os ss)(q:Ch g w w')(hc:w'.heap[g]?=some (.cells (cB c' rs') ty (0,0)))(ok:c'.h.Ok)(em:c'.m=c.m)(eo:c'.out=c.out)(es:c'.ax=c.ax):Inv ty rs' w' base g c' l os ss:=by
 have st:∀t:Nat,t≠ty->∀(k:Nat) (o:Array Value) (f:Nat×Nat),w.heap[k]?=some (.cells o t f)->w'.heap[k]?=w.heap[k]?:=fun t ht k o f hk=>
  q.block k (gs hk).1 (fun e=>aa hk I.core ht (by injection e))
 exact I.toM q hc ok (by rw[em];exact I.mem.to (st _ I.t1.symm)) eo es
theorem Inv.of (I:Inv ty rs w base g c l os ss)(q:Gr w w'):Inv ty rs w' base g c l os ss:=I.to ((Ch.refl g w).gr q) ((q.block g (gs I.core).1).trans I.core) I.ok rfl rfl rfl
theorem In.of {w w'}{base g}{h}{l}{os}{ss}(I:In ty rs w base g h l os ss)(q:Gr w w'):In ty rs w' base g h l os ss:=by obtain⟨c,e,I⟩:=I;exact⟨c,e,I.of q⟩
theorem Inv.lt (I:Inv ty rs w base g c l os ss):g<w.heap.size:=(gs I.core).1
theorem Inv.hcell (I:Inv ty rs w base g c l os ss)(hi:i<37):w.cell? ⟨g,i,none⟩=(hL c.h)[i]?:=(cr I.core).trans (ab6 I.ok hi)
theorem Inv.dQ (I:Inv ty rs w base g c l os ss)(j:Nat)(hj:j<3:=by omega):w.cell? ⟨g,37+j,none⟩=[c.m,c.out,c.ax][j]?:=
 (cr I.core).trans (Gi I.ok hj)
theorem Inv.rest (I:Inv ty rs w base g c l os ss)(j):w.cell? ⟨g,40+j,none⟩=rs[j]?:=(cr I.core).trans (Al I.ok j)
theorem Inv.reg (I:Inv ty rs w base g c l os ss)(hi:i<32):w.cell? ⟨g,i,none⟩=some (int .u32 (rg c.h i)):=(I.hcell ab).trans (mg I.ok hi)
theorem Inv.fz (I:Inv ty rs w base g c l os ss)(j):w.frozen? ⟨g,j,none⟩=false:=awM _ _ j _ _ I.core
theorem Inv.set {w}{base g}{c}{l}{os}{ss}(I:Inv ty rs w base g c l os ss){i}(hi:i<37){v}{h'}(e:(hL c.h).set i v=hL h')(ok:h'.Ok):Inv ty rs (w.setCell ⟨g,i,none⟩ v) base g { c with h:=h' } l os ss:=I.to ((Ch.refl g w).setCell i v) (by rw[hss I.core,ab7 I.ok hi e]) ok rfl rfl rfl
theorem Inv.vW (I:Inv ty rs w base g c l os ss)(j)(v):Inv ty (rs.set j v) (w.setCell ⟨g,40+j,none⟩ v) base g c l os ss:=I.to ((Ch.refl g w).setCell (40+j) v) (by rw[hss I.core,Xg I.ok]) I.ok rfl rfl rfl
theorem Inv.tY (I:Inv ty rs w base g c l os ss):In ty rs w base g c.h l os ss:=⟨c,rfl,I⟩
theorem Inv.az (I:Inv ty rs w base g c l os ss):base<=w.heap.size:=arF I.bg (as6 I.lt)
structure Fr (ty:Nat) (base:Nat) (w w':World):Prop where
 below:Below base w w'
 keep:∀(k:Nat) (o:Array Value) (t:Nat) (f:Nat×Nat),w.heap[k]?=some (.cells o t f)->t≠ty->t≠37->t≠175->w'.heap[k]?=w.heap[k]?
theorem Fr.trans {base}{a b c}(h:Fr ty base a b)(q:Fr ty base b c):Fr ty base a c:=
 ⟨h.below.trans q.below,fun k o t f e n1 n2 n3=>by
  have e1:=h.keep k o t f e n1 n2 n3;exact(q.keep k o t f (e1.trans e) n1 n2 n3).trans e1⟩
theorem Fr.aJ (h:Gr w w')(hb:base<=w.heap.size):Fr ty base w w':=⟨awH h hb,fun k o t f e _ _ _=>h.block k (gs e).1⟩
theorem In.below {w w'}{base g}{h}{l}{os}{ss}(I:In ty rs w base g h l os ss)(q:Ch g w w'):Fr ty base w w':=by obtain⟨c,_,I⟩:=I;exact⟨q.below I.bg I.az,fun k o t f e n1 _ _=>q.block k (gs e).1 (fun q=>aa e I.core n1 (by injection q))⟩
structure Ts (w:World) (base:Nat):Prop where
 sizes:∀i n,([0,0,0,0,0,0,0,0,0,0,0,0,0,0,0,0,1,2,4]:List Int)[i]?=some n->w.cell? ⟨13,i,none⟩=some (int .u32 n)
 b1:13<base
theorem pg (T:Ts w base)(h:Below base w w'):Ts w' base:=⟨fun i n e=>(aw4 h (by exact T.b1)).trans (T.sizes i n e),T.b1⟩
theorem Inv.iG {W}{n}{ss'}(I:Inv ty rs w base g c l os ss)(G:Gr w W)(q:W.grownBy w' c.ax.ownBlock)(hn:ss'.length=n)(ho:w'.ownsRow base 175 2 v n (tX ss')):w'.cell? ⟨g,39,none⟩=some c.ax/\w'.frozen? ⟨g,39,none⟩=false/\Inv ty rs (w'.setCell ⟨g,39,none⟩ v) base g { c with ax:=v } l os ss'/\Fr ty base w (w'.setCell ⟨g,39,none⟩ v):=by
 subst hn;have I1:=I.of G;have st:∀t:Nat,t≠175->∀(k:Nat) (o:Array Value) (f:Nat×Nat),W.heap[k]?=some (.cells o t f)->w'.heap[k]?=W.heap[k]?:=fun t ht k o f hk=>
  q.block k (gs hk).1 (fun e=>by
   rcases I1.ax.2 with⟨h0,_⟩|⟨g',cap,cur,hv,_,hg,_⟩
   ·rw[h0]at e;cases e
   ·rw[hv]at e;injection e with e;exact aa hk hg ht e)
 have hb:∀k,c.ax.ownBlock=some k->base<=k:=fun k e=>(I1.ax.lt k e).1
 have hcore:=(st _ I.t3 g _ _ I1.core).trans I1.core;have ne:∀t:Nat,t≠ty->∀(k:Nat) (o:Array Value) (f:Nat×Nat),w'.heap[k]?=some (.cells o t f)->(w'.setCell ⟨g,39,none⟩ v).heap[k]?=w'.heap[k]?:=fun t ht k o f hk=>
  hso (by exact aa hk hcore ht)
 refine⟨(cr hcore).trans (Gi (j:=2) I.ok ab),iA hcore,⟨I.t1,I.t2,I.t3,I.ok,I.bg,?_,?_,I.UU,?_,?_⟩,?_⟩
 ·rw[hss hcore,Ao (c':={ c with ax:=v }) (j:=2) I.ok ab rfl rfl]
 ·exact(I1.mem.to (st _ an)).to (ne _ I.t1.symm)
 ·exact aj (aj I1.out (st _ an)) (ne _ I.t2.symm)
 ·exact aj ho (ne _ I.t3.symm)
 ·refine⟨axc ((awH G I.az).grown q I1.az hb) (by exact I.bg) _,fun k o t f e n1 n2 n3=>?_⟩;have e1:=(gs e).1;have e2:=(G.block k e1).trans e;have e3:=(st _ n3 k _ _ e2).trans e2;exact((ne _ n1 k _ _ e3).trans e3).trans e.symm
theorem Inv.rZ {W}{n}{os'}(I:Inv ty rs w base g c l os ss)(G:Gr w W)(q:W.grownBy w' c.out.ownBlock)(hn:os'.length=n)(ho:w'.ownsRow base 37 1 v n (os'.map (Value.int .u32))):w'.cell? ⟨g,38,none⟩=some c.out/\w'.frozen? ⟨g,38,none⟩=false/\Inv ty rs (w'.setCell ⟨g,38,none⟩ v) base g { c with out:=v } l os' ss/\Fr ty base w (w'.setCell ⟨g,38,none⟩ v):=by
 subst hn;have I1:=I.of G;have st:∀t:Nat,t≠37->∀(k:Nat) (o:Array Value) (f:Nat×Nat),W.heap[k]?=some (.cells o t f)->w'.heap[k]?=W.heap[k]?:=fun t ht k o f hk=>
  q.block k (gs hk).1 (fun e=>by
   rcases I1.out.2 with⟨h0,_⟩|⟨g',cap,cur,hv,_,hg,_⟩
   ·rw[h0]at e;cases e
   ·rw[hv]at e;injection e with e;exact aa hk hg ht e)
 have hb:∀k,c.out.ownBlock=some k->base<=k:=fun k e=>(I1.out.lt k e).1
 have hcore:=(st _ I.t2 g _ _ I1.core).trans I1.core;have ne:∀t:Nat,t≠ty->∀(k:Nat) (o:Array Value) (f:Nat×Nat),w'.heap[k]?=some (.cells o t f)->(w'.setCell ⟨g,38,none⟩ v).heap[k]?=w'.heap[k]?:=fun t ht k o f hk=>
  hso (by exact aa hk hcore ht)
 refine⟨(cr hcore).trans (Gi (j:=1) I.ok ab),iA hcore,⟨I.t1,I.t2,I.t3,I.ok,I.bg,?_,?_,I.UU,?_,?_⟩,?_⟩
 ·rw[hss hcore,Ao (c':={ c with out:=v }) (j:=1) I.ok ab rfl rfl]
 ·exact(I1.mem.to (st _ an)).to (ne _ I.t1.symm)
 ·exact aj ho (ne _ I.t2.symm)
 ·exact aj (aj I1.ax (st _ an)) (ne _ I.t3.symm)
 ·refine⟨axc ((awH G I.az).grown q I1.az hb) (by exact I.bg) _,fun k o t f e n1 n2 n3=>?_⟩;have e1:=(gs e).1;have e2:=(G.block k e1).trans e;have e3:=(st _ n2 k _ _ e2).trans e2;exact((ne _ n1 k _ _ e3).trans e3).trans e.symm
theorem Inv.stored {w1}{k}(I:Inv ty rs w base g c l os ss)(G:Gr w w1)(R:rU w1 w.heap.size n k)(hk:k.length=n):Inv ty rs (w1.setCell ⟨g,37,none⟩ (slice (some ⟨w.heap.size,0,none⟩) n n)) base g { c with m:=slice (some ⟨w.heap.size,0,none⟩) n n } k os ss:=by have I1:=I.of G;obtain⟨rest,hr,hz⟩:=R;refine I1.toM ((Ch.refl g w1).setCell _ _) (by rw[hss I1.core,Ao (c':={ c with m:=slice (some ⟨w.heap.size,0,none⟩) n n }) (j:=0) I.ok ab rfl rfl]) I.ok (.inr ⟨w.heap.size,n,by rw[hk],⟨arF I.UU I.az,by rw[hk];exact arA _⟩,rest,?_,hz⟩) rfl rfl;rw[hso (by exact aa hr I1.core I.t1.symm)];exact hr
end Gc
namespace Gc
open Mm Hh Hc
variable{ty:Nat}
variable{h:Hv}
theorem dR (I:In ty rs w base g h l os ss)(c):Calls prog 134 #[pointer (some ⟨g,0,none⟩),int i64 c] w fun e w'=>e=returned (tuple #[])/\In ty rs w' base g (h.trap c) l os ss/\Ch g w w':=by
 obtain⟨c0,rfl,I⟩:=I;have k1:=(I.hcell ab).trans (bu I.ok 3);have k2:=(I.hcell ab).trans (bu I.ok 4);have fz:=I.fz;have o1:Hv.Ok { c0.h with state:=2 }:=⟨I.ok.len,I.ok.reg,I.ok.oW,I.ok.gP,I.ok.zy,I.ok.BO⟩;have J:Hid (Inv ty rs ((w.setCell ⟨g,35,none⟩ (int i64 2)).setCell ⟨g,36,none⟩ (int i64 c)) base g { c0 with h:=c0.h.trap c } l os ss):=
  (I.set ab (nZ I.ok 2) o1).set (c:={ c0 with h:={ c0.h with state:=2 } }) ab (xV o1 c) (I.ok.trap c)
 generalize c0.h.state=x1 at k1;generalize c0.h.cause=x2 at k2;go_enter func134,ntmps134;go_wp2;go_end0;exact⟨rfl,⟨_,rfl,J⟩,((Ch.refl g w).setCell _ _).setCell _ _⟩
theorem zD (I:In ty rs w base g h l os ss)(r x)(h0:0<=r)(h1:r<32)(hx0:0<=x)(hx1:x<4294967296):Calls prog 162 #[pointer (some ⟨g,0,none⟩),int i64 r,int .u32 x] w fun e w'=>e=returned (tuple #[])/\In ty rs w' base g (h.set r.toNat x) l os ss/\Ch g w w':=by
 obtain⟨c0,rfl,I⟩:=I;obtain⟨r,rfl⟩:=arI h0;simp only[arS];by_cases hr:r=0
 ·subst hr;have J:=kH I;go_enter func162,ntmps162;go_wp2;go_end0;exact⟨rfl,⟨c0,rfl,J⟩,Ch.refl g w⟩
 ·have hr2:r<32:=ab;have k1:=I.reg hr2;have fz:=I.fz;have e:c0.h.set r x={ c0.h with regs:=c0.h.regs.set r x }:=awm hr;have ok:=I.ok.set r hx0 hx1;rw[e]at ok ⊢;have J:Hid _:=I.set ab (zz I.ok hr2 x) ok;have hr':¬(r:Int)=0:=ab;generalize rg c0.h r=y at k1;go_enter func162,ntmps162;go_wp2;go_end0;exact⟨rfl,⟨_,rfl,J⟩,(Ch.refl g w).setCell _ _⟩
theorem eQ {w}{base g}{h}{l}{os}{ss}(I:In ty rs w base g h l os ss)(hl:l.length<=140737488351232)(op a)(h0:0<=a)(h1:a<4294967296):Calls prog 177 #[pointer (some ⟨g,0,none⟩),int i64 op,int .u32 a] w fun e w'=>e=returned (tuple #[int .u32 (aT l op a),.bool (bR l op a)])/\In ty rs w' base g (if bR l op a=true then h else h.trap 3) l os ss/\Ch g w w':=by
 have T:Hid (∀c,_):=fun c=>dR I c
 have HI:=kH I;obtain⟨c0,rfl,I⟩:=I;obtain⟨ao,cap,hm,M⟩:=I.mem.mem;have k1:w.cell? ⟨g,37,none⟩=some (slice ao l.length cap):=(I.dQ 0).trans (by rw[hm];rfl);have L:=kH (Mm.eQ cap op a M hl h0 h1);generalize aT l op a=X at *
 generalize bR l op a=B at *
 generalize l.length=n at *
 cases B
 ·go_enter func177,ntmps177;go_wp2_with fail;refine L.mono ?_;rintro e w' ⟨rfl,rfl⟩;go_wp2_with fail;refine(T 3).mono ?_;rintro e w2 ⟨rfl,I2,C2⟩;have HI2:=kH I2;go_wp2;go_ret2;exact⟨rfl,HI2,C2⟩
 ·go_enter func177,ntmps177;go_wp2_with fail;refine L.mono ?_;rintro e w' ⟨rfl,rfl⟩;go_wp2;go_ret2;exact⟨rfl,HI,Ch.refl _ _⟩
theorem mQ (I:In ty rs w base g h l os ss)(hl:l.length<=140737488351232)(op a x)(h0:0<=a)(h1:a<4294967296)(hx0:0<=x)(hx1:x<4294967296)(ok:eP l op a=false):Calls prog 178 #[pointer (some ⟨g,0,none⟩),int i64 op,int .u32 a,int .u32 x] w fun e w'=>e=returned (tuple #[])/\In ty rs w' base g (h.trap 4) l os ss/\Ch g w w':=by
 have T:Hid (∀W,In ty rs W base g h l os ss->∀c,_):=fun W I c=>dR I c
 have HI:=kH I;obtain⟨c0,rfl,I⟩:=I;obtain⟨ao,cap,hm,M⟩:=I.mem.mem;have k1:w.cell? ⟨g,37,none⟩=some (slice ao l.length cap):=(I.dQ 0).trans (by rw[hm];rfl);have L:Hid (Calls prog 189 #[slice ao l.length cap,int i64 op,int .u32 a,int .u32 x] w fun e w'=>∃Ui n' cap',e=returned (tuple #[slice Ui n' cap',.bool false])/\Gr w w'):=by
  have:=Mm.dW cap op a x M hl h0 h1 hx0 hx1;rw[ok]at this;exact this.mono fun e w' ⟨a1,n1,c1,e1,_,e3⟩=>⟨a1,n1,c1,e1,e3⟩
 generalize l.length=n at *
 go_enter func178,ntmps178;go_wp2_with fail;refine L.mono ?_;rintro e w1 ⟨a1,n1,c1,rfl,G1⟩;have HI1:=kH (HI.of G1);have jw:=kH ((Ch.refl g w).gr G1);go_wp2_with fail;refine(T _ HI1 4).mono ?_;rintro e w2 ⟨rfl,I2,C2⟩;have HI2:=kH I2;have mh:=kH (jw.trans C2);go_wp2;refine awt (axf results178 _ _ _) rfl ?_;exact⟨rfl,HI2,mh⟩
theorem jJ (I:In ty rs w base g h l os ss)(T:Ts w base)(hl:l.length<=140737488351232)(hss:ss.length<=1000000)(op a x)(h0:0<=a)(h1:a<4294967296)(hx0:0<=x)(hx1:x<4294967296)(ok:eP l op a=true):Calls prog 178 #[pointer (some ⟨g,0,none⟩),int i64 op,int .u32 a,int .u32 x] w fun e w'=>e=returned (tuple #[])/\In ty rs w' base g h (jb l op a x) os (ss++[(a,((iD op:Nat):Int))])/\Fr ty base w w':=by
 obtain⟨c0,rfl,I⟩:=I;obtain⟨ao,cap,hm,M⟩:=I.mem.mem;have k1:w.cell? ⟨g,37,none⟩=some (slice ao l.length cap):=(I.dQ 0).trans (by rw[hm];rfl);have L:=kH (xZ cap op a x M hl h0 h1 hx0 hx1 ok);have hk:=Hc.zx (x:=x) ok;have hop:=Iz ok;obtain⟨i0,hi,hz0,hz1,hz2⟩:=awS Zb;generalize jb l op a x=k at *
 have HI:=kH I;have HT:=kH T;rcases hop with rfl|rfl|rfl
 ·rw[show((iD 16:Nat):Int)=1 from rfl];go_enter func178,ntmps178;go_wp2_with fail;refine L.mono ?_;rintro e w1 ⟨rfl,R1,G1⟩;have J:=HI.stored G1 R1 hk;have q1:=(Gr.cell G1 _ (by exact HI.lt)).trans k1;have q2:=(HI.of G1).fz 37;have B:Fr ty base w (w1.setCell ⟨g,37,none⟩ (slice (some ⟨w.heap.size,0,none⟩) l.length l.length)):=HI.tY.below (((Ch.refl g w).gr G1).setCell _ _);go_wp2_with fail;generalize w1.setCell ⟨g,37,none⟩ (slice (some ⟨w.heap.size,0,none⟩) l.length l.length)=w2 at *
  have ND:=J.dQ 2;have fz:=J.fz;have hg:=J.lt;have ks:=(pg HT B.below).sizes 16 1 rfl;have HJ:=kH J;have HB:=kH B;go_region_law (refine bC rfl (tmp 33) (tmp 41) 140 rfl base 175 i0 _ 2 8 underlying140 hi hz0 hz1 hz2 rfl an c0.ax ss.length (tX ss) ar (aD HJ.ax b9) ⟨w2.heap.size,0,none⟩ 1 1 [int .u32 a,int .u32 (IntKind.u32.wrap (a+1))] ar rfl (dX aq aq) (ow _ _) bj ab (by have:=HJ.az;simp;omega) ?_;intro v' w' hown hgrow;obtain⟨g',cp,rfl⟩:=dA hown ab;obtain⟨c39,f39,F⟩:=HJ.iG (n:=ss.length+1) b9 hgrow (ss':=ss++[(a,1)]) aq (by rw[ll];exact hown);have HF:Hid _:=F;clear F hown hgrow)
  all_goals
   go_end0;exact⟨rfl,HF.1.tY,HB.trans HF.2⟩
 ·rw[show((iD 17:Nat):Int)=2 from rfl];go_enter func178,ntmps178;go_wp2_with fail;refine L.mono ?_;rintro e w1 ⟨rfl,R1,G1⟩;have J:=HI.stored G1 R1 hk;have q1:=(Gr.cell G1 _ (by exact HI.lt)).trans k1;have q2:=(HI.of G1).fz 37;have B:Fr ty base w (w1.setCell ⟨g,37,none⟩ (slice (some ⟨w.heap.size,0,none⟩) l.length l.length)):=HI.tY.below (((Ch.refl g w).gr G1).setCell _ _);go_wp2_with fail;generalize w1.setCell ⟨g,37,none⟩ (slice (some ⟨w.heap.size,0,none⟩) l.length l.length)=w2 at *
  have ND:=J.dQ 2;have fz:=J.fz;have hg:=J.lt;have ks:=(pg HT B.below).sizes 17 2 rfl;have HJ:=kH J;have HB:=kH B;go_region_law (refine bC rfl (tmp 33) (tmp 41) 140 rfl base 175 i0 _ 2 8 underlying140 hi hz0 hz1 hz2 rfl an c0.ax ss.length (tX ss) ar (aD HJ.ax b9) ⟨w2.heap.size,0,none⟩ 1 1 [int .u32 a,int .u32 (IntKind.u32.wrap (a+2))] ar rfl (dX aq aq) (ow _ _) bj ab (by have:=HJ.az;simp;omega) ?_;intro v' w' hown hgrow;obtain⟨g',cp,rfl⟩:=dA hown ab;obtain⟨c39,f39,F⟩:=HJ.iG (n:=ss.length+1) b9 hgrow (ss':=ss++[(a,2)]) aq (by rw[ll];exact hown);have HF:Hid _:=F;clear F hown hgrow)
  all_goals
   go_end0;exact⟨rfl,HF.1.tY,HB.trans HF.2⟩
 ·rw[show((iD 18:Nat):Int)=4 from rfl];go_enter func178,ntmps178;go_wp2_with fail;refine L.mono ?_;rintro e w1 ⟨rfl,R1,G1⟩;have J:=HI.stored G1 R1 hk;have q1:=(Gr.cell G1 _ (by exact HI.lt)).trans k1;have q2:=(HI.of G1).fz 37;have B:Fr ty base w (w1.setCell ⟨g,37,none⟩ (slice (some ⟨w.heap.size,0,none⟩) l.length l.length)):=HI.tY.below (((Ch.refl g w).gr G1).setCell _ _);go_wp2_with fail;generalize w1.setCell ⟨g,37,none⟩ (slice (some ⟨w.heap.size,0,none⟩) l.length l.length)=w2 at *
  have ND:=J.dQ 2;have fz:=J.fz;have hg:=J.lt;have ks:=(pg HT B.below).sizes 18 4 rfl;have HJ:=kH J;have HB:=kH B;go_region_law (refine bC rfl (tmp 33) (tmp 41) 140 rfl base 175 i0 _ 2 8 underlying140 hi hz0 hz1 hz2 rfl an c0.ax ss.length (tX ss) ar (aD HJ.ax b9) ⟨w2.heap.size,0,none⟩ 1 1 [int .u32 a,int .u32 (IntKind.u32.wrap (a+4))] ar rfl (dX aq aq) (ow _ _) bj ab (by have:=HJ.az;simp;omega) ?_;intro v' w' hown hgrow;obtain⟨g',cp,rfl⟩:=dA hown ab;obtain⟨c39,f39,F⟩:=HJ.iG (n:=ss.length+1) b9 hgrow (ss':=ss++[(a,4)]) aq (by rw[ll];exact hown);have HF:Hid _:=F;clear F hown hgrow)
  all_goals
   go_end0;exact⟨rfl,HF.1.tY,HB.trans HF.2⟩
theorem dW (I:In ty rs w base g h l os ss)(T:Ts w base)(hl:l.length<=140737488351232)(hss:ss.length<=1000000)(op a x)(h0:0<=a)(h1:a<4294967296)(hx0:0<=x)(hx1:x<4294967296):Calls prog 178 #[pointer (some ⟨g,0,none⟩),int i64 op,int .u32 a,int .u32 x] w fun e w'=>e=returned (tuple #[])/\In ty rs w' base g (aI h l op a x).h (aI h l op a x).m os (ss++(aI h l op a x).ax)/\Fr ty base w w':=by
 unfold aI;cases ok:eP l op a with
 |false=>
  refine(mQ I hl op a x h0 h1 hx0 hx1 ok).mono ?_;rintro e w' ⟨rfl,J,C⟩;exact⟨rfl,by simpa using J,I.below C⟩
 |true=>exact jJ I T hl hss op a x h0 h1 hx0 hx1 ok
theorem vv (I:In ty rs w base g h l os ss)(hos:os.length<=1000000)(h17:rg h 17=1):Calls prog 181 #[pointer (some ⟨g,0,none⟩)] w fun e w'=>e=returned (tuple #[])/\In ty rs w' base g h l (os++[rg h 10]) ss/\Fr ty base w w':=by
 obtain⟨c0,rfl,I⟩:=I;have k17:w.cell? ⟨g,17,none⟩=some (int .u32 1):=by rw[<-h17];exact I.reg ab
 have k10:w.cell? ⟨g,10,none⟩=some (int .u32 (rg c0.h 10)):=I.reg ab;have k38:=I.dQ 1;have fz:=I.fz;have hg:=I.lt;have HJ:Hid _:=I;obtain⟨i0,hi,hz0,hz1,hz2⟩:=awS vo;generalize rg c0.h 10=x at *
 go_enter func181,ntmps181;go_wp2_with fail;go_region_law (refine bC rfl (tmp 22) (tmp 29) 36 rfl base 37 i0 _ 1 4 underlying36 hi hz0 hz1 hz2 rfl an c0.out os.length (os.map (Value.int .u32)) ar (aD HJ.out.out b9) ⟨w.heap.size,0,none⟩ 1 1 [int .u32 x] ar rfl (one_cell aq) (one_one _) bj ab (by have:=HJ.out.az;simp;omega) ?_;intro v' w' hown hgrow;obtain⟨g',cp,rfl⟩:=dA hown ab;obtain⟨c38,f38,F⟩:=HJ.out.rZ (n:=os.length+1) b9 hgrow (os':=os++[x]) aq (by rw[asl];exact hown);have HF:Hid _:=F;clear F hown hgrow)
 all_goals
  go_end0;exact⟨rfl,HF.1.tY,HF.2⟩
theorem vw (I:In ty rs w base g h l os ss)(h17:¬rg h 17=1):Calls prog 181 #[pointer (some ⟨g,0,none⟩)] w fun e w'=>e=returned (tuple #[])/\In ty rs w' base g (if rg h 17=0 then h.halt else h.trap 5) l os ss/\Fr ty base w w':=by
 have T:Hid (∀c,Calls prog 134 #[pointer (some ⟨g,0,none⟩),int i64 c] w fun e w'=>e=returned (tuple #[])/\In ty rs w' base g (h.trap c) l os ss/\Ch g w w'):=fun c=>dR I c
 have HI:=kH I;obtain⟨c0,rfl,I⟩:=I;have k17:w.cell? ⟨g,17,none⟩=some (int .u32 (rg c0.h 17)):=I.reg ab;have Uj:=(I.hcell ab).trans (bu I.ok 3);have fz:=I.fz;have o1:=I.ok.halt;have HJ:=kH (I.set ab (nZ I.ok 1) o1);generalize c0.h.state=y at *
 generalize hx:rg c0.h 17=x at *
 by_cases h0:x=0
 ·subst h0;rw[awn rfl];clear T;go_enter func181,ntmps181;go_wp2_with fail;go_end0;exact⟨rfl,HJ.tY,HI.below ((Ch.refl g w).setCell _ _)⟩
 ·rw[awm h0];have b0:(x ==0)=false:=by simp[h0]
  have b1:(x ==1)=false:=by simp[h17]
  go_enter func181,ntmps181;go_wp2_with fail;refine(T 5).mono ?_;rintro e w' ⟨rfl,I2,C2⟩;have HI2:=kH I2;have mh:=kH C2;go_wp2_with fail;go_end0;exact⟨rfl,HI2,HI.below mh⟩
theorem vz (I:In ty rs w base g h l os ss)(hos:os.length<=1000000):Calls prog 181 #[pointer (some ⟨g,0,none⟩)] w fun e w'=>e=returned (tuple #[])/\In ty rs w' base g (bE h l).h l (os++(bE h l).out) ss/\Fr ty base w w':=by
 unfold bE;by_cases h1:rg h 17=1
 ·rw[ak,awn h1];exact vv I hos h1
 ·refine(vw I h1).mono ?_;rintro e w' ⟨rfl,J,B⟩;refine⟨rfl,?_,B⟩;by_cases h0:rg h 17=0
  ·rw[awn h0]at J ⊢;simpa using J
  ·rw[awm h0]at J;rw[awm h0,awm h1];simpa using J
theorem nk (I:In ty rs w base g h l os ss)(hl:l.length<=140737488351232)(a)(h0:0<=a)(h1:a<4294967296):Calls prog 197 #[pointer (some ⟨g,0,none⟩),int .u32 a] w fun e w'=>e=returned (bW (ik h l a).res)/\In ty rs w' base g (ik h l a).h l os ss/\Fr ty base w w':=by
 have L:=eQ I hl 13 a h0 h1;unfold ik;have HI:=kH I;clear I;cases hB:bR l 13 a with
 |false=>
  have hX:aT l 13 a=0:=by unfold aT;rw[hB];rfl
  rw[hB,hX]at L;have HL:=kH L;clear L hX hB;go_enter func197,ntmps197;go_wp2_with fail;refine HL.mono ?_;rintro e w' ⟨rfl,I2,C2⟩;have HI2:=kH I2;have mh:=kH C2;clear I2 C2 HL;go_wp2_with fail;go_ret2;exact⟨rfl,HI2,HI.below mh⟩
 |true=>
  rw[hB]at L;have HL:Hid (Calls prog 177 #[pointer (some ⟨g,0,none⟩),int i64 13,int .u32 a] w fun e w'=>e=returned (tuple #[int .u32 (aT l 13 a),.bool true])/\In ty rs w' base g h l os ss/\Ch g w w'):=L;clear L hB;generalize aT l 13 a=X at *
  go_enter func197,ntmps197;go_wp2_with fail;refine HL.mono ?_;rintro e w' ⟨rfl,I2,C2⟩;have mh:Hid (Ch g w w'):=C2;obtain⟨c0,rfl,I⟩:=I2;have k1:w'.cell? ⟨g,33,none⟩=some (.bool c0.h.held):=(I.hcell ab).trans (bu I.ok 1);have k2:w'.cell? ⟨g,34,none⟩=some (int .u32 c0.h.aW):=(I.hcell ab).trans (bu I.ok 2);have fz:=I.fz;have o1:Hv.Ok { c0.h with held:=true }:=⟨I.ok.len,I.ok.reg,I.ok.oW,I.ok.gP,I.ok.zy,I.ok.BO⟩;have HJ:Hid (Inv ty rs ((w'.setCell ⟨g,33,none⟩ (.bool true)).setCell ⟨g,34,none⟩ (int .u32 a)) base g { c0 with h:=c0.h.hold true a } l os ss):=
   (I.set ab (lh I.ok true) o1).set (c:={ c0 with h:={ c0.h with held:=true } }) ab (iF o1 a) (I.ok.hold true h0 h1)
  generalize c0.h.held=x1 at *
  generalize c0.h.aW=x2 at *
  go_wp2_with fail;go_ret2;exact⟨rfl,HJ.tY,HI.below ((mh.setCell _ _).setCell _ _)⟩
theorem kV (I:In ty rs w base g h l os ss)(T:Ts w base)(hl:l.length<=140737488351232)(hss:ss.length<=1000000)(a b)(h0:0<=a)(h1:a<4294967296)(hx0:0<=b)(hx1:b<4294967296)(ok:bR l 13 a=true):Calls prog 198 #[pointer (some ⟨g,0,none⟩),int .u32 a,int .u32 b] w fun e w'=>e=returned (int .u32 ((fC h l a b).res.getD 0))/\In ty rs w' base g (fC h l a b).h (fC h l a b).m os (ss++(fC h l a b).ax)/\Fr ty base w w':=by
 unfold fC;rw[awn ok];have HI:Hid (In ty rs w base g h l os ss):=I;obtain⟨c0,rfl,I⟩:=I;have k1:=(I.hcell ab).trans (bu I.ok 1);have k2:=(I.hcell ab).trans (bu I.ok 2);have fz:=I.fz;have o1:Hv.Ok { c0.h with held:=false }:=⟨I.ok.len,I.ok.reg,I.ok.oW,I.ok.gP,I.ok.zy,I.ok.BO⟩;have J:Inv ty rs ((w.setCell ⟨g,33,none⟩ (.bool false)).setCell ⟨g,34,none⟩ (int .u32 0)) base g { c0 with h:=c0.h.hold false 0 } l os ss:=
  (I.set ab (lh I.ok false) o1).set (c:={ c0 with h:={ c0.h with held:=false } }) ab (iF o1 0) (I.ok.hold false (x:=0) ab ab)
 have B:Fr ty base w ((w.setCell ⟨g,33,none⟩ (.bool false)).setCell ⟨g,34,none⟩ (int .u32 0)):=HI.below (((Ch.refl g w).setCell _ _).setCell _ _);have S:=dW J.tY (pg T B.below) hl hss 18 a b h0 h1 hx0 hx1;have e1:aI (c0.h.hold false 0) l 18 a b=⟨c0.h.hold false 0,jb l 18 a b,[],[(a,4)],none⟩:=by unfold aI;rw[awn (bK ok)];rfl
 have HS:Hid (Calls prog 178 #[pointer (some ⟨g,0,none⟩),int i64 18,int .u32 a,int .u32 b] ((w.setCell ⟨g,33,none⟩ (.bool false)).setCell ⟨g,34,none⟩ (int .u32 0)) fun e w'=>e=returned (tuple #[])/\In ty rs w' base g (c0.h.hold false 0) (jb l 18 a b) os (ss++[(a,4)])/\Fr ty base ((w.setCell ⟨g,33,none⟩ (.bool false)).setCell ⟨g,34,none⟩ (int .u32 0)) w'):=by
  have S1:=S;rw[e1]at S1;exact S1
 have HJ:=kH J.tY;have HB:=kH B;generalize c0.h.held=x1 at *
 generalize c0.h.aW=x2 at *
 cases x1 with
 |false=>
  rw[awm aq];go_enter func198,ntmps198;go_wp2_with fail;go_ret;exact⟨rfl,by simpa using HJ.out,HB.out⟩
 |true=>
  by_cases ha:x2=a
  ·rw[awn ⟨rfl,ha⟩];have ba:(x2 ==a)=true:=by simp[ha]
   go_enter func198,ntmps198;go_wp2_with fail;refine HS.mono ?_;rintro e w' ⟨rfl,I2,B2⟩;have HI2:=kH I2;have HB2:=kH (HB.trans B2);go_wp2_with fail;go_ret;exact⟨rfl,HI2,HB2⟩
  ·rw[awm (by simp[ha])];have ba:(x2 ==a)=false:=by simp[ha]
   go_enter func198,ntmps198;go_wp2_with fail;go_ret;exact⟨rfl,by simpa using HJ.out,HB.out⟩
theorem vT (I:In ty rs w base g h l os ss)(T:Ts w base)(hl:l.length<=140737488351232)(hss:ss.length<=1000000)(op a b)(h0:0<=a)(h1:a<4294967296)(hx0:0<=b)(hx1:b<4294967296):Calls prog 180 #[pointer (some ⟨g,0,none⟩),int i64 op,int .u32 a,int .u32 b] w fun e w'=>e=returned (bW (aN h l op a b).res)/\In ty rs w' base g (aN h l op a b).h (aN h l op a b).m os (ss++(aN h l op a b).ax)/\Fr ty base w w':=by
 have R:=kH (nk I hl a h0 h1);have Tr:Hid (∀c,_):=fun c=>dR I c
 have SH:Hid (bR l 13 a=true->_):=fun ok=>kV I T hl hss a b h0 h1 hx0 hx1 ok
 have wv:=W.aT l 13 a;have wa:=W.nX (op:=op) wv ⟨hx0,hx1⟩;have St:=kH (dW I T hl hss 18 a _ h0 h1 wa.1 wa.2);have HI:=kH I;obtain⟨c0,rfl,I⟩:=I;obtain⟨ao,cap,hm,M⟩:=I.mem.mem;have k1:w.cell? ⟨g,37,none⟩=some (slice ao l.length cap):=(I.dQ 0).trans (by rw[hm];rfl);have L:=kH (Mm.eQ cap 13 a M hl h0 h1);have Am:=kH (Ww.Iu op _ b w wv.1 wv.2 hx0 hx1);by_cases h46:op=46
 ·have e:aN c0.h l op a b=ik c0.h l a:=awn h46;have em:(ik c0.h l a).m=l/\(ik c0.h l a).ax=[]:=by unfold ik;split<;>exact⟨rfl,rfl⟩
  rw[e,em.1,em.2,arP];have b46:(op ==46)=true:=by simp[h46]
  generalize ik c0.h l a=E at *
  unfold bW at *
  go_enter func180,ntmps180;go_wp2_with fail;refine R.mono ?_;rintro e w' ⟨rfl,I2,B2⟩;have HI2:=kH I2;have HB2:=kH B2;go_wp2_with fail;go_ret2;exact⟨rfl,HI2,HB2⟩
 have b46:(op ==46)=false:=by simp[h46]
 cases ok:bR l 13 a with
 |false=>
  have e:aN c0.h l op a b=⟨c0.h.trap 4,l,[],[],none⟩:=by
   unfold aN fC jv;rw[awm h46,ok];simp
  rw[e,arP];rw[ok]at L;have L2:=kH L;generalize aT l 13 a=X at *
  generalize l.length=n at *
  go_enter func180,ntmps180;go_wp2_with fail;refine L2.mono ?_;rintro e w' ⟨rfl,rfl⟩;go_wp2_with fail;refine(Tr 4).mono ?_;rintro e w2 ⟨rfl,I2,C2⟩;have HI2:=kH I2;have mh:=kH C2;go_wp2_with fail;go_ret2;exact⟨rfl,HI2,HI.below mh⟩
 |true=>
  rw[ok]at L;have L2:=kH L;by_cases h47:op=47
  ·have e:aN c0.h l op a b=fC c0.h l a b:=by unfold aN;rw[awm h46,awn h47]
   have er:bW (fC c0.h l a b).res=tuple #[int .u32 ((fC c0.h l a b).res.getD 0),.bool true]:=by
    unfold bW fC;rw[awn ok];split<;>rfl
   rw[e,er];have S2:=kH (SH ok);have b47:(op ==47)=true:=by simp[h47]
   generalize fC c0.h l a b=E at *
   generalize E.res.getD 0=Y at *
   generalize aT l 13 a=X at *
   generalize l.length=n at *
   go_enter func180,ntmps180;go_wp2_with fail;refine L2.mono ?_;rintro e w' ⟨rfl,rfl⟩;go_wp2_with fail;refine S2.mono ?_;rintro e w2 ⟨rfl,I2,B2⟩;have HI2:=kH I2;have HB2:=kH B2;go_wp2_with fail;go_ret2;exact⟨rfl,HI2,HB2⟩
  ·have e:aN c0.h l op a b=⟨c0.h,jb l 18 a (Wd.nX op (aT l 13 a) b),[],[(a,4)],some (aT l 13 a)⟩:=by unfold aN jv;rw[awm h46,awm h47,awn ok]
   have e2:aI c0.h l 18 a (Wd.nX op (aT l 13 a) b)=⟨c0.h,jb l 18 a (Wd.nX op (aT l 13 a) b),[],[(a,4)],none⟩:=by unfold aI;rw[awn (bK ok)];rfl
   rw[e];rw[e2]at St;have St2:=kH St;have b47:(op ==47)=false:=by simp[h47]
   unfold bW;generalize jb l 18 a (Wd.nX op (aT l 13 a) b)=K at *
   generalize Wd.nX op (aT l 13 a) b=Y at *
   generalize aT l 13 a=X at *
   generalize l.length=n at *
   go_enter func180,ntmps180;go_wp2_with fail;refine L2.mono ?_;rintro e w' ⟨rfl,rfl⟩;go_wp2_with fail;refine Am.mono ?_;rintro e w' ⟨rfl,rfl⟩;go_wp2_with fail;refine St2.mono ?_;rintro e w2 ⟨rfl,I2,B2⟩;have HI2:=kH I2;have HB2:=kH B2;go_wp2_with fail;go_ret2;exact⟨rfl,HI2,HB2⟩
end Gc
namespace Mp
open Mm Hh Hc Mi
variable{r r':Rn}{bf bt steps:Int}{j base g:Nat}{v:Value}{w:World}
def nK (r:Rn) (bf bt steps:Int):List Value:=r.tm.map (Value.int .u32)++[int .u32 bf,int .u32 bt,int i64 steps,int i64 r.n,int .u32 r.here]
def Pr (w:World) (base g:Nat) (r:Rn) (bf bt steps:Int):Prop:=Gc.In 206 (nK r bf bt steps) w base g r.h r.m r.out r.ax
theorem ab8 (o:r.Ok)(hj:j<4):(nK r bf bt steps)[j]?=some (int .u32 (r.tm.getD j 0)):=by have:=o.tl;unfold nK;rw[arO aE,ar3,arq ab];simp[List.getD,arq (show j<r.tm.length by omega)]
theorem Xh (o:r.Ok)(j):(nK r bf bt steps)[4+j]?=[Value.int .u32 bf,int .u32 bt,int i64 steps,int i64 r.n,int .u32 r.here][j]?:=by unfold nK;rw[arK (by simp[o.tl])];simp[o.tl]
theorem Mf (o:r.Ok)(hj:j<4)(x):(nK r bf bt steps).set j (int .u32 x)=nK { r with tm:=r.tm.set j x } bf bt steps:=by have:=o.tl;unfold nK;rw[asF _ _ aE,List.map_set]
theorem QI (o:r.Ok)(et:r'.tm=r.tm)(e:[Value.int .u32 bf,int .u32 bt,int i64 steps,int i64 r.n,int .u32 r.here].set j v=[Value.int .u32 bf,int .u32 bt,int i64 steps,int i64 r'.n,int .u32 r'.here]):(nK r bf bt steps).set (4+j) v=nK r' bf bt steps:=by unfold nK;rw[arX _ _ (by simp[o.tl]),et];simp only[asf,o.tl];rw[show 4+j-4=j by omega,e]
theorem Pr.of {w'}(I:Pr w base g r bf bt steps)(q:Gr w w'):Pr w' base g r bf bt steps:=Gc.In.of I q
theorem Pr.afO (I:Pr w base g r bf bt steps)(o:r.Ok)(hj:j<4):w.cell? ⟨g,40+j,none⟩=some (int .u32 (r.tm.getD j 0)):=by obtain⟨c,e,I⟩:=I;exact(I.rest j).trans (ab8 o hj)
theorem Pr.NJ (I:Pr w base g r bf bt steps)(o:r.Ok)(j):w.cell? ⟨g,44+j,none⟩=[Value.int .u32 bf,int .u32 bt,int i64 steps,int i64 r.n,int .u32 r.here][j]?:=by obtain⟨c,e,I⟩:=I;have:=(I.rest (4+j)).trans (Xh o j);rwa[show 40+(4+j)=44+j by omega]at this
theorem Pr.reg (I:Pr w base g r bf bt steps){i}(hi:i<32):w.cell? ⟨g,i,none⟩=some (int .u32 (rg r.h i)):=by obtain⟨c,e,I⟩:=I;rw[<-e];exact I.reg hi
theorem Pr.hart (I:Pr w base g r bf bt steps)(hj:j<5):w.cell? ⟨g,32+j,none⟩=[Value.int .u32 r.h.pc,.bool r.h.held,int .u32 r.h.aW,int i64 r.h.state,int i64 r.h.cause][j]?:=by obtain⟨c,e,I⟩:=I;rw[<-e];exact(I.hcell ab).trans (bu I.ok j)
theorem Pr.fz (I:Pr w base g r bf bt steps)(j):w.frozen? ⟨g,j,none⟩=false:=by obtain⟨c,e,I⟩:=I;exact I.fz j
theorem Pr.lt (I:Pr w base g r bf bt steps):g<w.heap.size:=by obtain⟨c,e,I⟩:=I;exact I.lt
theorem Pr.az (I:Pr w base g r bf bt steps):base<=w.heap.size:=by obtain⟨c,e,I⟩:=I;exact I.az
theorem Pr.afP (I:Pr w base g r bf bt steps)(o:r.Ok)(hj:j<4)(x):Pr (w.setCell ⟨g,40+j,none⟩ (int .u32 x)) base g { r with tm:=r.tm.set j x } bf bt steps:=by obtain⟨c,e,I⟩:=I;have:=I.vW j (int .u32 x);rw[Mf o hj]at this;exact⟨c,e,this⟩
theorem Pr.afQ (I:Pr w base g r bf bt steps)(o:r.Ok)(j)(eh:r'.h=r.h)(em:r'.m=r.m)(eo:r'.out=r.out)(es:r'.ax=r.ax)(et:r'.tm=r.tm)(e:[Value.int .u32 bf,int .u32 bt,int i64 steps,int i64 r.n,int .u32 r.here].set j v=[Value.int .u32 bf,int .u32 bt,int i64 steps,int i64 r'.n,int .u32 r'.here]):Pr (w.setCell ⟨g,44+j,none⟩ v) base g r' bf bt steps:=by obtain⟨c,e0,I⟩:=I;have:=I.vW (4+j) v;rw[QI o et e,show 40+(4+j)=44+j by omega]at this;unfold Pr;rw[eh,em,eo,es];exact⟨c,e0,this⟩
theorem Pr.QJ (I:Pr w base g r bf bt steps)(hx:Hh.W x):Pr (w.setCell ⟨g,32,none⟩ (int .u32 x)) base g { r with h:=r.h.go x } bf bt steps:=by obtain⟨c,e,I⟩:=I;have:=I.set (i:=32) ab (E8 I.ok x) (I.ok.go hx.1 hx.2);exact⟨_,by rw[<-e];rfl,this⟩
theorem Pr.same (I:Pr w base g r bf bt steps)(o)(v):Pr w base g { r with own:=o,over:=v } bf bt steps:=I
theorem fH (I:Pr w base g r bf bt steps)(o:r.Ok)(k)(h0:0<=k)(h1:k<36):Calls prog 185 #[pointer (some ⟨g,0,none⟩),int i64 k] w fun e w'=>e=returned (int .u32 (r.get k))/\w'=w:=by
 obtain⟨k,rfl⟩:=arI h0;by_cases h:k<32
 ·have q:=I.reg h;have e:r.get (k:Int)=rg r.h k:=eB;rw[e];generalize rg r.h k=x at *
  go_enter func185,ntmps185;go_wp2;go_ret;exact⟨rfl,rfl⟩
 ·obtain⟨j,rfl⟩:∃j,k=32+j:=⟨k-32,ab⟩;have q:=I.afO o (j:=j) ab;have e:r.get ((32+j:Nat):Int)=r.tm.getD j 0:=by
   unfold Rn.get;rw[ak,show(((32+j:Nat):Int)-32).toNat=j by omega]
  rw[e];generalize r.tm.getD j 0=x at *
  go_enter func185,ntmps185;go_wp2;go_ret;exact⟨rfl,rfl⟩
theorem Gj (I:Pr w base g r bf bt steps)(o:r.Ok)(k x)(h0:0<=k)(h1:k<36)(hx:Hh.W x):Calls prog 187 #[pointer (some ⟨g,0,none⟩),int i64 k,int .u32 x] w fun e w'=>e=returned (tuple #[])/\Pr w' base g (r.put k x) bf bt steps/\Ch g w w':=by
 obtain⟨k,rfl⟩:=arI h0;by_cases h:k<32
 ·have S:Hid (Calls prog 162 #[pointer (some ⟨g,0,none⟩),int i64 k,int .u32 x] w fun e w'=>e=returned (tuple #[])/\Pr w' base g (r.put k x) bf bt steps/\Ch g w w'):=by
   have e:r.put (k:Int) x={ r with h:=r.h.set k x }:=by
    unfold Rn.put;rw[ak,arS]
   rw[e];have:=Gc.zD I k x h0 ab hx.1 hx.2;rw[arS]at this;exact this
  go_enter func187,ntmps187;go_wp2_with fail;refine S.mono ?_;rintro e w' ⟨rfl,I2,C2⟩;have HI2:=kH I2;go_wp2;refine awt (axf results187 _ _ _) rfl ?_;exact⟨rfl,HI2,C2⟩
 ·obtain⟨j,rfl⟩:∃j,k=32+j:=⟨k-32,ab⟩;have q:=I.afO o (j:=j) ab;have f:=I.fz (40+j);have e:r.put ((32+j:Nat):Int) x={ r with tm:=r.tm.set j x }:=by
   unfold Rn.put;rw[eB,show(((32+j:Nat):Int)-32).toNat=j by omega]
  have HJ:Hid (Pr (w.setCell ⟨g,40+j,none⟩ (int .u32 x)) base g (r.put ((32+j:Nat):Int) x) bf bt steps):=by
   rw[e];exact I.afP o ab x
  generalize r.tm.getD j 0=y at *
  go_enter func187,ntmps187;go_wp2;go_end0;exact⟨rfl,HJ,(Ch.refl g w).setCell _ _⟩
end Mp
namespace Mp
open Mm Hh Hc Mi
variable{K:Int}
def q9:List (Int×Int×Int):=[(1,1,8),(2,2,9),(3,3,8),(4,4,10),(5,6,0),(105,110,14),(211,215,11),(316,318,14),(428,445,7),(528,545,11),(646,656,7)]
def rf:List Int:=q9.flatMap fun p=>[p.1,p.2.1,p.2.2]
structure Tr (w:World):Prop where
 rows:∀i n,rf[i]?=some n->w.cell? ⟨7,i,none⟩=some (int i64 n)
 b:7<w.heap.size
theorem Tr.of (T:Tr w)(g:Gr w w'):Tr w':=⟨fun i n h=>(g.cell _ (by exact T.b)).trans (T.rows i n h),arD T.b g.size⟩
theorem ab9 (h:j<11):∃f l k,q9[j]?=some (f,l,k)/\rf[j*3]?=some f/\rf[j*3+1]?=some l/\rf[j*3+2]?=some k/\(k=0\/k=7\/k=8\/k=9\/k=10\/k=11\/k=14)/\∀op,f<=op->op<=l->named op=k:=by
 have:j=0\/j=1\/j=2\/j=3\/j=4\/j=5\/j=6\/j=7\/j=8\/j=9\/j=10:=ab;rcases this with rfl|rfl|rfl|rfl|rfl|rfl|rfl|rfl|rfl|rfl|rfl <;>
  refine⟨_,_,_,rfl,rfl,rfl,rfl,an,fun op h1 h2=>?_⟩<;>unfold named<;>repeat (first|rw[eB]|rw[ak])
theorem Gl (h:∀(j:Nat) (f l k),q9[j]?=some (f,l,k)->¬(f<=op/\op<=l)):named op<0:=by
 by_cases hn:0<=named op
 ·exfalso;rcases kI hn with q|q|q|q|q|q|q|q|q|q|q|q
  ·exact h 0 _ _ _ rfl ab
  ·exact h 1 _ _ _ rfl ab
  ·exact h 2 _ _ _ rfl ab
  ·exact h 3 _ _ _ rfl ab
  ·exact h 4 _ _ _ rfl ab
  ·exact h 4 _ _ _ rfl ab
  ·exact h 5 _ _ _ rfl ab
  ·exact h 6 _ _ _ rfl ab
  ·exact h 7 _ _ _ rfl ab
  ·exact h 8 _ _ _ rfl ab
  ·exact h 9 _ _ _ rfl ab
  ·exact h 10 _ _ _ rfl ab
 ·omega
theorem aH (n a b)(w):Calls prog 113 #[int i64 n,int i64 a,int i64 b] w fun e w'=>e=returned (.bool (decide (a<=n/\n<=b)))/\w'=w:=by
 by_cases h1:a<=n
 ·by_cases h2:n<=b
  ·rw[awC ⟨h1,h2⟩];go_enter func113,ntmps113;go_wp2;go_ret;exact⟨by simp[h1,h2],rfl⟩
  ·rw[awq (fun q=>h2 q.2)];go_enter func113,ntmps113;go_wp2;go_ret;exact⟨by simp[h1,h2],rfl⟩
 ·rw[awq (fun q=>h1 q.1)];go_enter func113,ntmps113;go_wp2;go_ret;exact⟨by simp[h1],rfl⟩
def mH (k:Int) (i:Mv):Bool:=bZ (decide (k%2=1)) i.d && (bZ (decide (k/2%2=1)) i.a && (bZ (decide (k/4%2=1)) i.b && decide (8<=k\/i.n=0)))
theorem aca {i}{k}(h:named i.op=k)(h0:0<=k):eT i=mH k i:=by unfold eT mH;rw[h,awC h0,atE];generalize bZ (decide (k%2=1)) i.d=a;generalize bZ (decide (k/2%2=1)) i.a=b;generalize bZ (decide (k/4%2=1)) i.b=c;generalize decide (8<=k\/i.n=0)=d;cases a<;>cases b<;>cases c<;>cases d<;>rfl
def uT (i:Mv):Array Value:=#[int i64 i.op,int i64 i.d,int i64 i.a,int i64 i.b,int .u32 i.n]
theorem uE {b}(kb:w.cell? ⟨B,0,none⟩=some (int i64 K))(hz:bits .and i64 K b=0)(x):Calls prog 183 #[int i64 x,int i64 b,pointer (some ⟨B,0,none⟩)] w fun e w'=>e=returned (.bool (bZ false x))/\w'=w:=by
 have HE:Hid (bZ false x=(x ==0)):=by
  unfold Hid bZ;by_cases h:x=0
  ·subst h;rfl
  ·rw[awq (by simp[h])];simp[h]
 rw[HE.out];go_enter func183,ntmps183;go_wp2_with fail;go_ret;exact⟨rfl,rfl⟩
theorem Au {b}(kb:w.cell? ⟨B,0,none⟩=some (int i64 K))(hz:(bits .and i64 K b ==0)=false)(x):Calls prog 183 #[int i64 x,int i64 b,pointer (some ⟨B,0,none⟩)] w fun e w'=>e=returned (.bool (bZ true x))/\w'=w:=by
 have HE:Hid (bZ true x=decide (0<=x/\x<=35)):=by
  unfold Hid bZ;rw[decide_eq_decide];simp only[axq,aw7];omega
 rw[HE.out];have Wi:=kH (aH x 0 35 w);generalize decide (0<=x/\x<=35)=q at *
 go_enter func183,ntmps183;go_wp2_with fail;refine Wi.mono ?_;rintro e w' ⟨rfl,rfl⟩;go_wp2_with fail;go_ret;exact⟨rfl,rfl⟩
theorem Jg (op d a b n)(w)(h8:bits .and i64 K 8=0)(C1:∀(W) (B),W.cell? ⟨B,0,none⟩=some (int i64 K)→Calls prog 183 #[int i64 d,int i64 1,pointer (some ⟨B,0,none⟩)] W fun e w'=>e=returned (.bool x1)∧w'=W)(C2:∀(W) (B),W.cell? ⟨B,0,none⟩=some (int i64 K)->Calls prog 183 #[int i64 a,int i64 2,pointer (some ⟨B,0,none⟩)] W fun e w'=>e=returned (.bool x2)/\w'=W)(C3:∀(W) (B),W.cell? ⟨B,0,none⟩=some (int i64 K)->Calls prog 183 #[int i64 b,int i64 4,pointer (some ⟨B,0,none⟩)] W fun e w'=>e=returned (.bool x3)/\w'=W):Calls prog 169 #[agg #[int i64 op,int i64 d,int i64 a,int i64 b,int .u32 n],int i64 K] w fun e w'=>e=returned (.bool (x1 && (x2 && (x3 && (n ==0)))))/\Gr w w':=by
 have H1:Hid (∀(W:World) (B:Nat),W.cell? ⟨B,0,none⟩=some (int i64 K)->Calls prog 183 #[int i64 d,int i64 1,pointer (some ⟨B,0,none⟩)] W fun e w'=>e=returned (.bool x1)/\w'=W):=C1;have H2:=kH C2;have H3:=kH C3;have HK:Hid (((w.alloc (.cells #[int i64 op,int i64 d,int i64 a,int i64 b,int .u32 n] 235)).alloc (.cells #[int i64 K] 3)).cell? ⟨w.heap.size+1,0,none⟩=some (int i64 K)):=awl _ _ _ _ _ _ (axs w _ _);cases x1
 ·go_enter func169,ntmps169;go_wp2_with fail;refine(H1 _ _ HK).mono ?_;rintro e w' ⟨rfl,rfl⟩;go_wp2_with fail;go_ret;exact⟨rfl,br.alloc _⟩
 cases x2
 ·go_enter func169,ntmps169;go_wp2_with fail;refine(H1 _ _ HK).mono ?_;rintro e w' ⟨rfl,rfl⟩;go_wp2_with fail;refine(H2 _ _ HK).mono ?_;rintro e w' ⟨rfl,rfl⟩;go_wp2_with fail;go_ret;exact⟨rfl,br.alloc _⟩
 cases x3
 all_goals
  go_enter func169,ntmps169;go_wp2_with fail;refine(H1 _ _ HK).mono ?_;rintro e w' ⟨rfl,rfl⟩;go_wp2_with fail;refine(H2 _ _ HK).mono ?_;rintro e w' ⟨rfl,rfl⟩;go_wp2_with fail;refine(H3 _ _ HK).mono ?_;rintro e w' ⟨rfl,rfl⟩;go_wp2_with fail;go_ret;exact⟨aq,br.alloc _⟩
theorem rq (op d a b n)(w)(h8:(bits .and i64 K 8 != 0)=true)(C1:∀(W) (B),W.cell? ⟨B,0,none⟩=some (int i64 K)→Calls prog 183 #[int i64 d,int i64 1,pointer (some ⟨B,0,none⟩)] W fun e w'=>e=returned (.bool x1)∧w'=W)(C2:∀(W) (B),W.cell? ⟨B,0,none⟩=some (int i64 K)->Calls prog 183 #[int i64 a,int i64 2,pointer (some ⟨B,0,none⟩)] W fun e w'=>e=returned (.bool x2)/\w'=W)(C3:∀(W) (B),W.cell? ⟨B,0,none⟩=some (int i64 K)->Calls prog 183 #[int i64 b,int i64 4,pointer (some ⟨B,0,none⟩)] W fun e w'=>e=returned (.bool x3)/\w'=W):Calls prog 169 #[agg #[int i64 op,int i64 d,int i64 a,int i64 b,int .u32 n],int i64 K] w fun e w'=>e=returned (.bool (x1 && (x2 && (x3 && true))))/\Gr w w':=by
 have H1:Hid (∀(W:World) (B:Nat),W.cell? ⟨B,0,none⟩=some (int i64 K)->Calls prog 183 #[int i64 d,int i64 1,pointer (some ⟨B,0,none⟩)] W fun e w'=>e=returned (.bool x1)/\w'=W):=C1;have H2:=kH C2;have H3:=kH C3;have HK:Hid (((w.alloc (.cells #[int i64 op,int i64 d,int i64 a,int i64 b,int .u32 n] 235)).alloc (.cells #[int i64 K] 3)).cell? ⟨w.heap.size+1,0,none⟩=some (int i64 K)):=awl _ _ _ _ _ _ (axs w _ _);cases x1
 ·go_enter func169,ntmps169;go_wp2_with fail;refine(H1 _ _ HK).mono ?_;rintro e w' ⟨rfl,rfl⟩;go_wp2_with fail;go_ret;exact⟨rfl,br.alloc _⟩
 cases x2
 ·go_enter func169,ntmps169;go_wp2_with fail;refine(H1 _ _ HK).mono ?_;rintro e w' ⟨rfl,rfl⟩;go_wp2_with fail;refine(H2 _ _ HK).mono ?_;rintro e w' ⟨rfl,rfl⟩;go_wp2_with fail;go_ret;exact⟨rfl,br.alloc _⟩
 cases x3
 all_goals
  go_enter func169,ntmps169;go_wp2_with fail;refine(H1 _ _ HK).mono ?_;rintro e w' ⟨rfl,rfl⟩;go_wp2_with fail;refine(H2 _ _ HK).mono ?_;rintro e w' ⟨rfl,rfl⟩;go_wp2_with fail;refine(H3 _ _ HK).mono ?_;rintro e w' ⟨rfl,rfl⟩;go_wp2_with fail;go_ret;exact⟨aq,br.alloc _⟩
theorem QK (hK:K=0\/K=7\/K=8\/K=9\/K=10\/K=11\/K=14)(op d a b n)(w):Calls prog 169 #[agg #[int i64 op,int i64 d,int i64 a,int i64 b,int .u32 n],int i64 K] w fun e w'=>e=returned (.bool (mH K ⟨op,d,a,b,n⟩))/\Gr w w':=by
 rcases hK with rfl|rfl|rfl|rfl|rfl|rfl|rfl
 ·have:=Jg op d a b n w (K:=0) an (fun W B k=>uE k an _) (fun W B k=>uE k an _) (fun W B k=>uE k an _);have e:mH 0 ⟨op,d,a,b,n⟩=(bZ false d && (bZ false a && (bZ false b && (n ==0)))):=by
   unfold mH;by_cases h:n=0<;>simp[h]
  rw[e];exact this
 ·have:=Jg op d a b n w (K:=7) an (fun W B k=>Au k an _) (fun W B k=>Au k an _) (fun W B k=>Au k an _);have e:mH 7 ⟨op,d,a,b,n⟩=(bZ true d && (bZ true a && (bZ true b && (n ==0)))):=by
   unfold mH;by_cases h:n=0<;>simp[h]
  rw[e];exact this
 ·have:=rq op d a b n w (K:=8) an (fun W B k=>uE k an _) (fun W B k=>uE k an _) (fun W B k=>uE k an _);have e:mH 8 ⟨op,d,a,b,n⟩=(bZ false d && (bZ false a && (bZ false b && true))):=by
   unfold mH;simp
  rw[e];exact this
 ·have:=rq op d a b n w (K:=9) an (fun W B k=>Au k an _) (fun W B k=>uE k an _) (fun W B k=>uE k an _);have e:mH 9 ⟨op,d,a,b,n⟩=(bZ true d && (bZ false a && (bZ false b && true))):=by
   unfold mH;simp
  rw[e];exact this
 ·have:=rq op d a b n w (K:=10) an (fun W B k=>uE k an _) (fun W B k=>Au k an _) (fun W B k=>uE k an _);have e:mH 10 ⟨op,d,a,b,n⟩=(bZ false d && (bZ true a && (bZ false b && true))):=by
   unfold mH;simp
  rw[e];exact this
 ·have:=rq op d a b n w (K:=11) an (fun W B k=>Au k an _) (fun W B k=>Au k an _) (fun W B k=>uE k an _);have e:mH 11 ⟨op,d,a,b,n⟩=(bZ true d && (bZ true a && (bZ false b && true))):=by
   unfold mH;simp
  rw[e];exact this
 ·have:=rq op d a b n w (K:=14) an (fun W B k=>uE k an _) (fun W B k=>Au k an _) (fun W B k=>Au k an _);have e:mH 14 ⟨op,d,a,b,n⟩=(bZ false d && (bZ true a && (bZ true b && true))):=by
   unfold mH;simp
  rw[e];exact this
end Mp
namespace Mi
open Mm Hh Hc
end Mi
namespace Mi
open Mm Hh Hc
end Mi
namespace Mi
open Mm Hh Hc
end Mi
namespace Mi
open Mm Hh Hc
end Mi
namespace Mi
open Mm Hh Hc
end Mi
namespace Mi
open Mm Hh Hc
variable{h:Hv}{r:Rn}
def gL (h:Hv) (M O:Value) (n:Int) (S:Value):List Value:=hL h++[M,O,int i64 n,S]
def gA (h:Hv) (M O:Value) (n:Int) (S:Value):Array Value:=(gL h M O n S).toArray
theorem acb (o:h.Ok)(M O)(n)(S):(gL h M O n S).length=41:=by simp[gL,aF o]
theorem Jh (o:h.Ok)(M O)(n)(S):(gA h M O n S).size=41:=by simp[gA,acb o]
theorem afR:(prog.info? 142).bind (·.zero)=some (agg (gA h0 ay ay 0 ay)):=al
structure Dr (w:World) (r:Rn) (M O S:Value):Prop where
 ok:r.Ok
 mem:∃ao c,M=slice ao r.m.length c/\Mem w ao r.m.length r.m
 out:∃b,w.ownsRow b 37 1 O r.out.length (r.out.map (Value.int .u32))
 ax:∃b,w.ownsRow b 175 2 S r.ax.length (tX r.ax)
end Mi
namespace Mi
open Mm Hh Hc
variable{h:Hv}{n:Int}
theorem acd:∀{i} {p},ss[i]?=some p->(tX ss)[i*2]?=some (int .u32 p.1)/\(tX ss)[i*2+1]?=some (int .u32 (Wd.lo (p.1+p.2))):=by
 induction ss with
 |nil=>intro i p h;simp at h
 |cons q r ih=>
  intro i p h;have e:tX (q::r)=[int .u32 q.1,int .u32 (Wd.lo (q.1+q.2))]++tX r:=rfl
  match i,h with
  |0,h=>simp at h;subst h;exact⟨rfl,rfl⟩
  |i+1,h=>
   have ih:=ih (i:=i) (by simpa using h);rw[e,arK aE,arK aE];simp only[arM,ar8];rw[show(i+1)*2-(0+1+1)=i*2 by omega,show(i+1)*2+1-(0+1+1)=i*2+1 by omega];exact ih
theorem QM (o:h.Ok)(j):(gA h M O n S)[37+j]?=[M,O,Value.int i64 n,S][j]?:=by unfold gA gL;rw[arB,arK (by simp[aF o])];simp[aF o]
theorem ace {n}(h:w.ownsRow base e sz v n xs)(hn:0<n):∃g c,v=slice (some ⟨g,0,none⟩) n c/\g<w.heap.size/\∀j u,xs[j]?=some u->w.cell? ⟨g,j,none⟩=some u:=by obtain⟨g,c,rfl⟩:=dA h hn;refine⟨g,c,rfl,(h.lt g rfl).2,fun j u hu=>?_⟩;have:=h.cells (g:=g) rfl j u hu;rwa[cK,arH]at this
end Mi
namespace Mp
open Mm Hh Hc Mi
variable{α:Type}
theorem Xi (kb:w.cell? ⟨B,0,none⟩=some (pointer (some ⟨g,0,none⟩)))(Xj:w.cell? ⟨g,44,none⟩=some (int .u32 bf))(ZA:w.cell? ⟨g,45,none⟩=some (int .u32 bt))(x y):Calls prog 201 #[agg #[int .u32 x,int .u32 y],pointer (some ⟨B,0,none⟩)] w fun e w'=>e=returned (.bool (decide (max x bf<min y bt)))/\Gr w w':=by
 have G:∀x,Gr w (w.alloc x):=fun x=>(Gr.refl _).alloc _
 have hB:=awo w _ kb;have hg:=awo w _ Xj;have q1:∀x,(w.alloc x).cell? ⟨B,0,none⟩=some (pointer (some ⟨g,0,none⟩)):=fun x=>((G x).cell _ (by exact hB)).trans kb
 have q2:∀x,(w.alloc x).cell? ⟨g,44,none⟩=some (int .u32 bf):=fun x=>((G x).cell _ (by exact hg)).trans Xj
 have q3:∀x,(w.alloc x).cell? ⟨g,45,none⟩=some (int .u32 bt):=fun x=>((G x).cell _ (by exact hg)).trans ZA
 go_enter func201,ntmps201;go_wp2;go_region;all_goals (try go_wp2)
 all_goals
  go_ret;refine⟨nG ?_,br.drew⟩;rw[decide_eq_decide,Int.max_def,Int.min_def];all_goals ((repeat' split)<;>omega)
def Rs (w:World) (sa:Option Addr) (ss:List (Int×Int)):Prop:=∀i p,ss[i]?=some p->∃g1,sa=some ⟨g1,0,none⟩/\g1<w.heap.size/\w.cell? ⟨g1,i*2,none⟩=some (int .u32 p.1)/\w.cell? ⟨g1,i*2+1,none⟩=some (int .u32 (Wd.lo (p.1+p.2)))
theorem Rs.of (h:Rs w sa ss)(G:Gr w w'):Rs w' sa ss:=fun i p hp=>by obtain⟨g1,e,l,c0,c1⟩:=h i p hp;exact⟨g1,e,arD l G.size,(G.cell _ (by exact l)).trans c0,(G.cell _ (by exact l)).trans c1⟩
theorem acf (so:w.ownsRow base 175 2 S ss.length (tX ss)):∃sa sc,S=slice sa ss.length sc/\Rs w sa ss:=by
 obtain⟨sa,sc,rfl⟩:=Bk.oK so;refine⟨sa,sc,rfl,fun i p hp=>?_⟩;have hn:0<ss.length:=by have:=(arw.1 hp).1;omega
 obtain⟨g1,d1,e1,l1,c1⟩:=ace so hn;injection e1 with f1 _ _;have q:=acd hp;exact⟨g1,f1,l1,c1 _ _ q.1,c1 _ _ q.2⟩
theorem QN {f:α->Bool}{l:List α}{x:α}(h:l[j]?=some x):(l.take (j+1)).any f=((l.take j).any f ||f x):=by rw[arW,h,atq];simp
theorem Gn {f:α->Bool}{l:List α}{x:α}(h:l[j]?=some x)(hx:f x=true):l.any f=true:=List.any_eq_true.2 ⟨x,arE h,hx⟩
theorem Xk (kb:w.cell? ⟨B,0,none⟩=some (pointer (some ⟨g,0,none⟩)))(Xj:w.cell? ⟨g,44,none⟩=some (int .u32 bf))(ZA:w.cell? ⟨g,45,none⟩=some (int .u32 bt))(sc)(R:Rs w sa ss)(hs:ss.length<=1000000):Calls prog 203 #[slice sa ss.length sc,.func (.func 201) #[] #[pointer (some ⟨B,0,none⟩)]] w fun e w'=>∃z,e=returned (int i64 z)/\decide (0<=z)=ownB bf bt ss/\Gr w w':=by
 have Cl:Hid (∀W:World,Gr w W->∀x y,Calls prog 201 #[agg #[int .u32 x,int .u32 y],pointer (some ⟨B,0,none⟩)] W fun e w'=>e=returned (.bool (decide (max x bf<min y bt)))/\Gr W w'):=fun W G x y=>
  Xi ((G.cell _ (by exact awo w _ kb)).trans kb) ((G.cell _ (by exact awo w _ Xj)).trans Xj) ((G.cell _ (by exact awo w _ ZA)).trans ZA) x y
 have HR:=kH R;generalize hn:ss.length=n at *
 have HN:=kH hn;go_enter func203,ntmps203;go_wp2_with fail;go_loopw [8] (fun i wr=>∃j:Nat,j<=n/\i=int i64 j/\(ss.take j).any (meet bf bt)=false/\Gr w wr) (fun i _=>n-(intOf i).toNat)
 case atStart=>exact⟨0,arQ _,rfl,rfl,Gr.refl _⟩
 case round=>
  obtain⟨j,hj,rfl,hno,G⟩:=hrel;have pM:=kH hno;have HG:=kH G;by_cases hlt:j<n
  ·obtain⟨p,hp⟩:∃p,ss[j]?=some p:=⟨_,arq (by rw[HN.out];exact hlt)⟩;obtain⟨g1,rfl,l1,c0,c1⟩:=HR.of HG j p hp;have HY:Hid (meet bf bt p=true->_):=fun h=>Gn hp h
   have HZ:Hid (meet bf bt p=false->(ss.take (j+1)).any (meet bf bt)=false):=fun h=>by rw[QN hp,pM.out,h];rfl
   have yg:Hid (∀W:World,Gr w W->Calls prog 201 #[agg #[int .u32 p.1,int .u32 (Wd.lo (p.1+p.2))],pointer (some ⟨B,0,none⟩)] W fun e w'=>e=returned (.bool (meet bf bt p))/\Gr W w'):=fun W G=>Cl W G _ _
   generalize meet bf bt p=m at *
   generalize Wd.lo (p.1+p.2)=y at *
   generalize p.1=x at *
   cases m with
   |true=>
    have NG:Hid (ownB bf bt ss=true):=HY rfl;go_wp2_with fail;refine(yg _ HG).mono ?_;rintro e w1 ⟨rfl,G1⟩;have aU:Hid (Gr w w1):=HG.trans G1;clear yg G1 c0 c1;go_wp2_with fail;go_ret;exact⟨_,rfl,by rw[NG.out];simp,aU⟩
   |false=>
    have HZ2:=kH (HZ rfl);go_wp2_with fail;refine(yg _ HG).mono ?_;rintro e w1 ⟨rfl,G1⟩;have aU:=kH (HG.trans G1);go_wp2_with fail;go_roundw
    case rel=>exact⟨j+1,ab,by go_num,HZ2,aU⟩
    case measure=>simp[intOf];omega
  ·have ej:j=n:=ab;have HE:Hid (ownB bf bt ss=false):=by
    unfold Hid ownB;have:=pM;rwa[ej,<-HN.out,ash]at this
   go_wp2_with fail;go_ret;exact⟨_,rfl,by rw[HE.out];rfl,HG⟩
theorem AA (kb:w.cell? ⟨B,0,none⟩=some (pointer (some ⟨g,0,none⟩)))(Xj:w.cell? ⟨g,44,none⟩=some (int .u32 bf))(ZA:w.cell? ⟨g,45,none⟩=some (int .u32 bt))(sc)(R:Rs w sa ss)(hs:ss.length<=1000000):Calls prog 200 #[slice sa ss.length sc,.func (.func 201) #[] #[pointer (some ⟨B,0,none⟩)]] w fun e w'=>e=returned (.bool (ownB bf bt ss))/\Gr w w':=by
 have X:=kH (Xk kb Xj ZA sc R hs);generalize ownB bf bt ss=q at *
 generalize ss.length=n at *
 go_enter func200,ntmps200;go_wp2_with fail;refine X.mono ?_;rintro e w1 ⟨z,rfl,hz,G1⟩;have HZ:Hid _:=hz;have HG:Hid _:=G1;clear X hz G1;go_wp2_with fail;go_ret;exact⟨nG HZ,HG⟩
theorem AB {r}(I:Pr w base g r bf bt steps)(o:r.Ok)(hs:r.ax.length<=1000000):Calls prog 184 #[pointer (some ⟨g,0,none⟩)] w fun e w'=>e=returned (.bool (ownB bf bt r.ax))/\Gr w w':=by
 have Xj:=I.NJ o 0;have ZA:=I.NJ o 1;have hg:=I.lt;obtain⟨c,hc,I⟩:=I;obtain⟨sa,sc,hS,R⟩:=acf I.ax;have ND:w.cell? ⟨g,39,none⟩=some (slice sa r.ax.length sc):=by rw[<-hS];exact I.dQ 2
 have G:∀x,Gr w (w.alloc x):=fun x=>(Gr.refl _).alloc _
 have X:Hid (Calls prog 200 #[slice sa r.ax.length sc,.func (.func 201) #[] #[pointer (some ⟨w.heap.size,0,none⟩)]] (w.alloc (.cells #[pointer (some ⟨g,0,none⟩)] 241)) fun e w'=>e=returned (.bool (ownB bf bt r.ax))/\Gr (w.alloc (.cells #[pointer (some ⟨g,0,none⟩)] 241)) w'):=
  AA (cr (awk w _)) (((G _).cell _ (by exact hg)).trans Xj) (((G _).cell _ (by exact hg)).trans ZA) sc (R.of (G _)) hs
 generalize ownB bf bt r.ax=q at *
 generalize r.ax.length=n at *
 go_enter func184,ntmps184;go_wp2_with fail;refine X.mono ?_;rintro e w1 ⟨rfl,G1⟩;have HG:=kH (br.trans G1);go_wp2_with fail;go_ret;exact⟨rfl,HG⟩
end Mp
namespace Mp
open Mm Hh Hc Mi
variable{r:Rn}
theorem afS {c}{b d}(h:a=c)(q:b=d):Ending.returned (tuple #[int .u32 a,.bool b])=returned (tuple #[int .u32 c,.bool d]):=by rw[h,q]
theorem Mg (I:Pr w base g r bf bt steps)(o:r.Ok)(hs:r.ax.length<=1000000)(op d a b n)(h1:op=1):Calls prog 170 #[pointer (some ⟨g,0,none⟩),agg #[int i64 op,int i64 d,int i64 a,int i64 b,int .u32 n]] w fun e w'=>e=returned (tuple #[int .u32 n,.bool (decide ((r.n:Int)=steps) ||ownB bf bt r.ax)])/\Gr w w':=by
 subst h1;have G:∀x,Gr w (w.alloc x):=fun x=>(Gr.refl _).alloc _
 have hg:=I.lt;have k46:∀x,(w.alloc x).cell? ⟨g,46,none⟩=some (int i64 steps):=fun x=>(I.of (G x)).NJ o 2
 have k47:∀x,(w.alloc x).cell? ⟨g,47,none⟩=some (int i64 r.n):=fun x=>(I.of (G x)).NJ o 3
 have St:Hid (∀W:World,Gr w W->_):=fun W G=>AB (I.of G) o hs
 generalize ownB bf bt r.ax=q at *
 generalize hrn:(r.n:Int)=rn at *
 by_cases c:rn=steps
 ·have hd:(rn ==steps)=true:=by simp[c]
  have HE:Hid ((decide (rn=steps) ||q)=true):=by unfold Hid;simp[c]
  rw[HE.out];go_enter func170,ntmps170;go_wp2_with fail;go_quiet (fail);go_wp2_with fail;go_ret2;exact⟨rfl,br.drewN _⟩
 ·have hd:(rn ==steps)=false:=by simp[c]
  have HE:Hid ((decide (rn=steps) ||q)=q):=by unfold Hid;simp[c]
  rw[HE.out];go_enter func170,ntmps170;go_wp2_with fail;have k4:(w.alloc (.cells #[int i64 1,int i64 d,int i64 a,int i64 b,int .u32 n] 235)).cell? ⟨w.heap.size,4,none⟩=some (int .u32 n):=awl _ _ _ _ _ _ (awk w _)
  go_region_held3 (fun W=>W.cell? ⟨w.heap.size,4,none⟩=some (int .u32 n)∧W.cell? ⟨g,46,none⟩=some (int i64 steps)∧W.cell? ⟨g,47,none⟩=some (int i64 rn)) (first|(go_keep;done)|(refine ⟨?_,?_,?_⟩<;>assumption)) (first
   |(go_at_call 184;refine(St _ b9).mono ?_;rintro e w2 ⟨rfl,G2⟩;have HG2:Hid (Gr w w2):=Gr.trans b9 G2;have j4:w2.cell? ⟨w.heap.size,4,none⟩=some (int .u32 n):=(G2.cell _ aq).trans k4;have j46:w2.cell? ⟨g,46,none⟩=some (int i64 steps):=(G2.cell _ (by show g<_;simp;omega)).trans (k46 _);have j47:w2.cell? ⟨g,47,none⟩=some (int i64 rn):=(G2.cell _ (by show g<_;simp;omega)).trans (k47 _);clear G2))
  go_wp2_with fail;go_ret2;exact⟨rfl,HG2⟩
theorem Mj (op d a b n)(h1:op=3):Calls prog 170 #[pointer (some ⟨g,0,none⟩),agg #[int i64 op,int i64 d,int i64 a,int i64 b,int .u32 n]] w fun e w'=>e=returned (tuple #[int .u32 n,.bool true])/\Gr w w':=by subst h1;go_enter func170,ntmps170;go_wp2_with fail;go_ret2;exact⟨rfl,(Gr.refl _).alloc _⟩
theorem Gp (I:Pr w base g r bf bt steps)(o:r.Ok)(op d a b n)(ha:0<=a/\a<36)(hn:Hh.W n)(h1:op=4):Calls prog 170 #[pointer (some ⟨g,0,none⟩),agg #[int i64 op,int i64 d,int i64 a,int i64 b,int .u32 n]] w fun e w'=>e=returned (tuple #[int .u32 (Wd.lo (r.get a+n)-Wd.lo (r.get a+n)%2),.bool true])/\Gr w w':=by
 subst h1;have V:Hid (∀W:World,Gr w W->_):=fun W q=>fH (I.of q) o a ha.1 ha.2
 have wl:=W.lo (r.get a+n);generalize r.get a=X at *
 go_enter func170,ntmps170;go_wp2_with fail;go_quiet (refine awP (V _ b9));go_wp2_with fail;go_ret2;refine⟨afS ?_ rfl,br.drewN _⟩;exact Iy _ wl.1 wl.2
theorem Mk (I:Pr w base g r bf bt steps)(o:r.Ok)(op d a b n)(ha:0<=a/\a<36)(hb:0<=b/\b<36)(h1:¬op=1)(h3:¬op=3)(h4:¬op=4)(ho0:0<=op)(ho1:op<1000):Calls prog 170 #[pointer (some ⟨g,0,none⟩),agg #[int i64 op,int i64 d,int i64 a,int i64 b,int .u32 n]] w fun e w'=>e=returned (tuple #[int .u32 n,.bool (Wd.holds (op-100) (r.get a) (r.get b))])/\Gr w w':=by
 have b1:(op ==1)=false:=by simp[h1]
 have b3:(op ==3)=false:=by simp[h3]
 have b4:(op ==4)=false:=by simp[h4]
 have wa:=o.get a;have wb:=o.get b;have V:Hid (∀k,0<=k->k<36->∀W:World,Gr w W->Calls prog 185 #[pointer (some ⟨g,0,none⟩),int i64 k] W fun e w'=>e=returned (int .u32 (r.get k))/\w'=W):=fun k h0 h1 W q=>fH (I.of q) o k h0 h1
 have Va:Hid (∀W:World,Gr w W->Calls prog 185 #[pointer (some ⟨g,0,none⟩),int i64 a] W fun e w'=>e=returned (int .u32 (r.get a))/\w'=W):=V a ha.1 ha.2;have Vb:Hid (∀W:World,Gr w W->Calls prog 185 #[pointer (some ⟨g,0,none⟩),int i64 b] W fun e w'=>e=returned (int .u32 (r.get b))/\w'=W):=V b hb.1 hb.2;have Ho:Hid (∀W:World,_):=fun W=>Ww.xY (op-100) _ _ W wa.1 wa.2 wb.1 wb.2
 generalize Wd.holds (op-100) (r.get a) (r.get b)=Q at *
 generalize r.get a=X at *
 generalize r.get b=Y at *
 go_enter func170,ntmps170;go_wp2_with fail;refine awV al al ?_;iterate 8 go_big_quiet_step (fail)
 go_big_quiet_step (exact awP (Va _ b9));iterate 3 go_big_quiet_step (fail)
 go_big_quiet_step (exact awP (Vb _ b9));go_big_quiet_step (exact awP (Ho _));go_big_quiet_step (fail);go_big_quiet_step (fail);refine axa ?_;intro _ hw1;obtain⟨nq,hw2⟩:=hw1;subst hw2;go_wp2_with fail;go_ret2;exact⟨rfl,br.drewN _⟩
theorem Gq (I:Pr w base g r bf bt steps)(o:r.Ok)(hs:r.ax.length<=1000000){i}(hi:0<=named i.op)(ha:0<=i.a/\i.a<36)(hb:0<=i.b/\i.b<36)(hn:Hh.W i.n):Calls prog 170 #[pointer (some ⟨g,0,none⟩),agg (uT i)] w fun e w'=>e=returned (tuple #[int .u32 (II r i),.bool (wX bf bt steps r i)])/\Gr w w':=by
 have hop:0<=i.op/\i.op<1000:=by
  rcases kI hi with q|q|q|q|q|q|q|q|q|q|q|q<;>omega
 obtain⟨op,d,a,b,n⟩:=i;unfold II wX uT;simp only at *
 by_cases h1:op=1
 ·rw[ak,awn h1];exact Mg I o hs op d a b n h1
 by_cases h3:op=3
 ·rw[ak,awm h1,awn h3];exact Mj op d a b n h3
 by_cases h4:op=4
 ·rw[awn h4,awm h1,awm h3,awn h4];exact Gp I o op d a b n ha hn h4
 ·rw[awm h4,awm h1,awm h3,awm h4];exact Mk I o op d a b n ha hb h1 h3 h4 hop.1 hop.2
end Mp
namespace Mp
open Mm Hh Hc Mi
variable{r:Rn}
theorem Xl (I:Pr w base g r bf bt steps)(o:r.Ok)(T:Gc.Ts w base)(hl:r.m.length<=140737488351232)(hss:r.ax.length<=1000000){b n}(ha:0<=a/\a<36)(hb:0<=b/\b<36)(hn:Hh.W n)(hc:op=2):Calls prog 186 #[pointer (some ⟨g,0,none⟩),agg (uT ⟨op,d,a,b,n⟩)] w fun e w'=>e=returned (bW (gF r ⟨op,d,a,b,n⟩).res)/\Pr w' base g (r.ev (gF r ⟨op,d,a,b,n⟩)) bf bt steps/\Gc.Fr 206 base w w':=by
 have e0:gF r ⟨op,d,a,b,n⟩=⟨r.h,r.m,[],[],some n⟩:=by unfold gF;rw[awn bl]
 rw[e0];have V:Hid (∀k,0<=k->k<36->∀W:World,Gr w W->Calls prog 185 #[pointer (some ⟨g,0,none⟩),int i64 k] W fun e w'=>e=returned (int .u32 (r.get k))/\w'=W):=fun k h0 h1 W q=>fH (I.of q) o k h0 h1
 have wa:=o.get a;have wb:=o.get b;have HI:Hid (Pr w base g r bf bt steps):=I;have qf:Hid (∀x nq,Gr w ((w.alloc x).drewN nq)):=fun x nq=>br.drewN _
 subst hc;rw[kP];unfold bW uT;simp only[];go_enter func186,ntmps186;go_wp2_with fail;refine awV al al ?_;iterate 3 go_big_quiet_step (fail)
 go_big_quiet_step (exact awP (V a ha.1 ha.2 _ b9));iterate 3 go_big_quiet_step (fail)
 go_big_quiet_step (exact awP (V b hb.1 hb.2 _ b9));go_big_quiet_step (fail);go_big_quiet_step (fail);refine axa ?_;intro _ hw1;obtain⟨nq,hw2⟩:=hw1;subst hw2;generalize r.get a=X at *
 generalize r.get b=Y at *
 go_wp2_with fail;go_ret2;exact⟨rfl,HI.of (qf _ _),Gc.Fr.aJ (qf _ _) HI.az⟩
theorem acg (I:Pr w base g r bf bt steps)(o:r.Ok)(T:Gc.Ts w base)(hl:r.m.length<=140737488351232)(hss:r.ax.length<=1000000){b n}(ha:0<=a/\a<36)(hb:0<=b/\b<36)(hn:Hh.W n)(hc:105<=op/\op<=110):Calls prog 186 #[pointer (some ⟨g,0,none⟩),agg (uT ⟨op,d,a,b,n⟩)] w fun e w'=>e=returned (bW (gF r ⟨op,d,a,b,n⟩).res)/\Pr w' base g (r.ev (gF r ⟨op,d,a,b,n⟩)) bf bt steps/\Gc.Fr 206 base w w':=by
 have e0:gF r ⟨op,d,a,b,n⟩=⟨r.h,r.m,[],[],none⟩:=by unfold gF;rw[awm bl,awm bl,awm bl,awm bl,awm bl,awm bl]
 rw[e0];have V:Hid (∀k,0<=k->k<36->∀W:World,Gr w W->Calls prog 185 #[pointer (some ⟨g,0,none⟩),int i64 k] W fun e w'=>e=returned (int .u32 (r.get k))/\w'=W):=fun k h0 h1 W q=>fH (I.of q) o k h0 h1
 have wa:=o.get a;have wb:=o.get b;have HI:Hid (Pr w base g r bf bt steps):=I;have qf:Hid (∀x nq,Gr w ((w.alloc x).drewN nq)):=fun x nq=>br.drewN _
 rw[kP];have b2:(op ==2)=false:=by simp;omega
 have ru:Hid (∀W:World,Calls prog 113 #[int i64 op,int i64 211,int i64 215] W fun e w'=>e=returned (.bool false)/\w'=W):=fun W=>by
  have:=aH op 211 215 W;rwa[awq ab]at this
 have AJ:Hid (∀W:World,Calls prog 113 #[int i64 op,int i64 316,int i64 318] W fun e w'=>e=returned (.bool false)/\w'=W):=fun W=>by
  have:=aH op 316 318 W;rwa[awq ab]at this
 have Gt:Hid (∀W:World,Calls prog 113 #[int i64 op,int i64 428,int i64 445] W fun e w'=>e=returned (.bool false)/\w'=W):=fun W=>by
  have:=aH op 428 445 W;rwa[awq ab]at this
 have QO:Hid (∀W:World,Calls prog 113 #[int i64 op,int i64 528,int i64 545] W fun e w'=>e=returned (.bool false)/\w'=W):=fun W=>by
  have:=aH op 528 545 W;rwa[awq ab]at this
 have ach:Hid (∀W:World,Calls prog 113 #[int i64 op,int i64 646,int i64 656] W fun e w'=>e=returned (.bool false)/\w'=W):=fun W=>by
  have:=aH op 646 656 W;rwa[awq ab]at this
 unfold bW uT;simp only[];go_enter func186,ntmps186;go_wp2_with fail;refine awV al al ?_;iterate 3 go_big_quiet_step (fail)
 go_big_quiet_step (exact awP (V a ha.1 ha.2 _ b9));iterate 3 go_big_quiet_step (fail)
 go_big_quiet_step (exact awP (V b hb.1 hb.2 _ b9));go_big_quiet_step (fail);go_big_quiet_step (fail);refine axa ?_;intro _ hw1;obtain⟨nq,hw2⟩:=hw1;subst hw2;generalize r.get a=X at *
 generalize r.get b=Y at *
 go_wp2_with fail;refine(ru _).mono ?_;rintro e w' ⟨rfl,rfl⟩;go_wp2_with fail;refine(AJ _).mono ?_;rintro e w' ⟨rfl,rfl⟩;go_wp2_with fail;refine(Gt _).mono ?_;rintro e w' ⟨rfl,rfl⟩;go_wp2_with fail;refine(QO _).mono ?_;rintro e w' ⟨rfl,rfl⟩;go_wp2_with fail;refine(ach _).mono ?_;rintro e w' ⟨rfl,rfl⟩;go_wp2_with fail;go_ret2;exact⟨rfl,HI.of (qf _ _),Gc.Fr.aJ (qf _ _) HI.az⟩
theorem zT (I:Pr w base g r bf bt steps)(o:r.Ok)(T:Gc.Ts w base)(hl:r.m.length<=140737488351232)(hss:r.ax.length<=1000000){b n}(ha:0<=a/\a<36)(hb:0<=b/\b<36)(hn:Hh.W n)(hc:428<=op/\op<=445):Calls prog 186 #[pointer (some ⟨g,0,none⟩),agg (uT ⟨op,d,a,b,n⟩)] w fun e w'=>e=returned (bW (gF r ⟨op,d,a,b,n⟩).res)/\Pr w' base g (r.ev (gF r ⟨op,d,a,b,n⟩)) bf bt steps/\Gc.Fr 206 base w w':=by
 have e0:gF r ⟨op,d,a,b,n⟩=⟨r.h,r.m,[],[],some (Wd.fB (op-400) (r.get a) (r.get b))⟩:=by unfold gF;rw[awm bl,awm bl,awm bl,awn bl]
 rw[e0];have V:Hid (∀k,0<=k->k<36->∀W:World,Gr w W->Calls prog 185 #[pointer (some ⟨g,0,none⟩),int i64 k] W fun e w'=>e=returned (int .u32 (r.get k))/\w'=W):=fun k h0 h1 W q=>fH (I.of q) o k h0 h1
 have wa:=o.get a;have wb:=o.get b;have HI:Hid (Pr w base g r bf bt steps):=I;have qf:Hid (∀x nq,Gr w ((w.alloc x).drewN nq)):=fun x nq=>br.drewN _
 rw[kP];have b2:(op ==2)=false:=by simp;omega
 have ru:Hid (∀W:World,Calls prog 113 #[int i64 op,int i64 211,int i64 215] W fun e w'=>e=returned (.bool false)/\w'=W):=fun W=>by
  have:=aH op 211 215 W;rwa[awq ab]at this
 have AJ:Hid (∀W:World,Calls prog 113 #[int i64 op,int i64 316,int i64 318] W fun e w'=>e=returned (.bool false)/\w'=W):=fun W=>by
  have:=aH op 316 318 W;rwa[awq ab]at this
 have Gt:Hid (∀W:World,Calls prog 113 #[int i64 op,int i64 428,int i64 445] W fun e w'=>e=returned (.bool true)/\w'=W):=fun W=>by
  have:=aH op 428 445 W;rwa[awC ab]at this
 have A:Hid (∀W:World,_):=fun W=>Ww.kG (op-400) _ _ W wa.1 wa.2 wb.1 wb.2
 generalize Wd.fB (op-400) (r.get a) (r.get b)=Z at *
 have hop:∃q,op=400+q:=⟨op-400,ab⟩;unfold bW uT;simp only[];go_enter func186,ntmps186;go_wp2_with fail;refine awV al al ?_;iterate 3 go_big_quiet_step (fail)
 go_big_quiet_step (exact awP (V a ha.1 ha.2 _ b9));iterate 3 go_big_quiet_step (fail)
 go_big_quiet_step (exact awP (V b hb.1 hb.2 _ b9));go_big_quiet_step (fail);go_big_quiet_step (fail);refine axa ?_;intro _ hw1;obtain⟨nq,hw2⟩:=hw1;subst hw2;generalize r.get a=X at *
 generalize r.get b=Y at *
 go_wp2_with fail;refine(ru _).mono ?_;rintro e w' ⟨rfl,rfl⟩;go_wp2_with fail;refine(AJ _).mono ?_;rintro e w' ⟨rfl,rfl⟩;go_wp2_with fail;refine(Gt _).mono ?_;rintro e w' ⟨rfl,rfl⟩;go_wp2_with fail;refine(A _).mono ?_;rintro e w' ⟨rfl,rfl⟩;go_wp2_with fail;go_ret2;exact⟨rfl,HI.of (qf _ _),Gc.Fr.aJ (qf _ _) HI.az⟩
theorem Xm (I:Pr w base g r bf bt steps)(o:r.Ok)(T:Gc.Ts w base)(hl:r.m.length<=140737488351232)(hss:r.ax.length<=1000000){b n}(ha:0<=a/\a<36)(hb:0<=b/\b<36)(hn:Hh.W n)(hc:528<=op/\op<=545):Calls prog 186 #[pointer (some ⟨g,0,none⟩),agg (uT ⟨op,d,a,b,n⟩)] w fun e w'=>e=returned (bW (gF r ⟨op,d,a,b,n⟩).res)/\Pr w' base g (r.ev (gF r ⟨op,d,a,b,n⟩)) bf bt steps/\Gc.Fr 206 base w w':=by
 have e0:gF r ⟨op,d,a,b,n⟩=⟨r.h,r.m,[],[],some (Wd.fB (op-500) (r.get a) n)⟩:=by unfold gF;rw[awm bl,awm bl,awm bl,awm bl,awn bl]
 rw[e0];have V:Hid (∀k,0<=k->k<36->∀W:World,Gr w W->Calls prog 185 #[pointer (some ⟨g,0,none⟩),int i64 k] W fun e w'=>e=returned (int .u32 (r.get k))/\w'=W):=fun k h0 h1 W q=>fH (I.of q) o k h0 h1
 have wa:=o.get a;have wb:=o.get b;have HI:Hid (Pr w base g r bf bt steps):=I;have qf:Hid (∀x nq,Gr w ((w.alloc x).drewN nq)):=fun x nq=>br.drewN _
 rw[kP];have b2:(op ==2)=false:=by simp;omega
 have ru:Hid (∀W:World,Calls prog 113 #[int i64 op,int i64 211,int i64 215] W fun e w'=>e=returned (.bool false)/\w'=W):=fun W=>by
  have:=aH op 211 215 W;rwa[awq ab]at this
 have AJ:Hid (∀W:World,Calls prog 113 #[int i64 op,int i64 316,int i64 318] W fun e w'=>e=returned (.bool false)/\w'=W):=fun W=>by
  have:=aH op 316 318 W;rwa[awq ab]at this
 have Gt:Hid (∀W:World,Calls prog 113 #[int i64 op,int i64 428,int i64 445] W fun e w'=>e=returned (.bool false)/\w'=W):=fun W=>by
  have:=aH op 428 445 W;rwa[awq ab]at this
 have QO:Hid (∀W:World,Calls prog 113 #[int i64 op,int i64 528,int i64 545] W fun e w'=>e=returned (.bool true)/\w'=W):=fun W=>by
  have:=aH op 528 545 W;rwa[awC ab]at this
 have A:Hid (∀W:World,_):=fun W=>Ww.kG (op-500) _ _ W wa.1 wa.2 hn.1 hn.2
 generalize Wd.fB (op-500) (r.get a) n=Z at *
 have hop:∃q,op=500+q:=⟨op-500,ab⟩;unfold bW uT;simp only[];go_enter func186,ntmps186;go_wp2_with fail;refine awV al al ?_;iterate 3 go_big_quiet_step (fail)
 go_big_quiet_step (exact awP (V a ha.1 ha.2 _ b9));iterate 3 go_big_quiet_step (fail)
 go_big_quiet_step (exact awP (V b hb.1 hb.2 _ b9));go_big_quiet_step (fail);go_big_quiet_step (fail);refine axa ?_;intro _ hw1;obtain⟨nq,hw2⟩:=hw1;subst hw2;generalize r.get a=X at *
 generalize r.get b=Y at *
 go_wp2_with fail;refine(ru _).mono ?_;rintro e w' ⟨rfl,rfl⟩;go_wp2_with fail;refine(AJ _).mono ?_;rintro e w' ⟨rfl,rfl⟩;go_wp2_with fail;refine(Gt _).mono ?_;rintro e w' ⟨rfl,rfl⟩;go_wp2_with fail;refine(QO _).mono ?_;rintro e w' ⟨rfl,rfl⟩;go_wp2_with fail;refine(A _).mono ?_;rintro e w' ⟨rfl,rfl⟩;go_wp2_with fail;go_ret2;exact⟨rfl,HI.of (qf _ _),Gc.Fr.aJ (qf _ _) HI.az⟩
end Mp
namespace Mp
open Mm Hh Hc Mi
theorem aci {r}(I:Pr w base g r bf bt steps)(o:r.Ok)(T:Gc.Ts w base)(hl:r.m.length<=140737488351232)(hss:r.ax.length<=1000000){b n}(ha:0<=a/\a<36)(hb:0<=b/\b<36)(hn:Hh.W n)(hc:211<=op/\op<=215):Calls prog 186 #[pointer (some ⟨g,0,none⟩),agg (uT ⟨op,d,a,b,n⟩)] w fun e w'=>e=returned (bW (gF r ⟨op,d,a,b,n⟩).res)/\Pr w' base g (r.ev (gF r ⟨op,d,a,b,n⟩)) bf bt steps/\Gc.Fr 206 base w w':=by
 have e0:gF r ⟨op,d,a,b,n⟩=bJ r.h r.m (op-200) (Wd.lo (r.get a+n)):=by unfold gF;rw[awm bl,awn bl]
 rw[e0];have V:Hid (∀k,0<=k->k<36->∀W:World,Gr w W->Calls prog 185 #[pointer (some ⟨g,0,none⟩),int i64 k] W fun e w'=>e=returned (int .u32 (r.get k))/\w'=W):=fun k h0 h1 W q=>fH (I.of q) o k h0 h1
 have wa:=o.get a;have wb:=o.get b;have HI:Hid (Pr w base g r bf bt steps):=I;have qf:Hid (∀x nq,Gr w ((w.alloc x).drewN nq)):=fun x nq=>br.drewN _
 have b2:(op ==2)=false:=by simp;omega
 have ru:Hid (∀W:World,Calls prog 113 #[int i64 op,int i64 211,int i64 215] W fun e w'=>e=returned (.bool true)/\w'=W):=fun W=>by
  have:=aH op 211 215 W;rwa[awC ab]at this
 have wl:=W.lo (r.get a+n);have hw:IntKind.i64.wrap (op-200)=op-200:=by rw[awO];omega
 have L:Hid (∀W:World,Gr w W->Calls prog 177 #[pointer (some ⟨g,0,none⟩),int i64 (IntKind.i64.wrap (op-200)),int .u32 (IntKind.u32.wrap (r.get a+n))] W fun e w'=>e=returned (bW (bJ r.h r.m (op-200) (Wd.lo (r.get a+n))).res)/\Pr w' base g (r.ev (bJ r.h r.m (op-200) (Wd.lo (r.get a+n)))) bf bt steps/\Gc.Fr 206 base W w'):=fun W q=>by
  rw[hw];have J:=I.of q;refine(Gc.eQ J hl (op-200) _ wl.1 wl.2).mono ?_;rintro e w' ⟨rfl,J2,C2⟩;refine⟨?_,?_,Gc.In.below J C2⟩
  ·unfold bJ bW;split
   ·rename_i h;rw[h];rfl
   ·rename_i h;have h2:bR r.m (op-200) (Wd.lo (r.get a+n))=false:=by simpa using h
    unfold aT;rw[h2];rfl
  ·unfold bJ;split
   ·rename_i h;rw[awn h]at J2;rw[kP];exact J2
   ·rename_i h;rw[awm h]at J2;have e:r.ev ⟨r.h.trap 3,r.m,[],[],none⟩={ r with h:=r.h.trap 3 }:=by simp[Rn.ev]
    rw[e];exact J2
 generalize bJ r.h r.m (op-200) (Wd.lo (r.get a+n))=E at *
 clear I o T e0 wa wb wl hw;unfold bW at *
 unfold uT;simp only[];go_enter func186,ntmps186;go_wp2_with fail;refine awV al al ?_;iterate 3 go_big_quiet_step (fail)
 go_big_quiet_step (exact awP (V a ha.1 ha.2 _ b9));iterate 3 go_big_quiet_step (fail)
 go_big_quiet_step (exact awP (V b hb.1 hb.2 _ b9));go_big_quiet_step (fail);go_big_quiet_step (fail);refine axa ?_;intro _ hw1;obtain⟨nq,hw2⟩:=hw1;subst hw2;clear V;generalize r.get a=X at *
 generalize r.get b=Y at *
 go_wp2_with fail;refine(ru _).mono ?_;rintro e w' ⟨rfl,rfl⟩;clear ru;go_wp2_with fail;have EM:Hid (((w.alloc (.cells #[int i64 op,int i64 d,int i64 a,int i64 b,int .u32 n] 235)).drewN nq).heap[w.heap.size]?=some (.cells #[int i64 op,int i64 d,int i64 a,int i64 b,int .u32 n] 235 (0,0))):=awk w _;have k0:((w.alloc (.cells #[int i64 op,int i64 d,int i64 a,int i64 b,int .u32 n] 235)).drewN nq).cell? ⟨w.heap.size,0,none⟩=some (int i64 op):=awl _ _ _ _ _ _ EM;have k4:((w.alloc (.cells #[int i64 op,int i64 d,int i64 a,int i64 b,int .u32 n] 235)).drewN nq).cell? ⟨w.heap.size,4,none⟩=some (int .u32 n):=awl _ _ _ _ _ _ EM;go_region_with ((go_at_call 177;refine(L _ b9).mono ?_;rintro e w2 ⟨rfl,J2,F2⟩;have HJ:Hid (Pr w2 base g (r.ev E) bf bt steps):=J2;have HF:Hid (Gc.Fr 206 base w w2):=(Gc.Fr.aJ b9 HI.az).trans F2;have HB2:Hid (w2.heap[w.heap.size]?=some (.cells #[int i64 op,int i64 d,int i64 a,int i64 b,int .u32 n] 235 (0,0))):=(F2.keep _ _ _ _ EM an an an).trans EM;have j0:w2.cell? ⟨w.heap.size,0,none⟩=some (int i64 op):=awl _ _ _ _ _ _ HB2;have j4:w2.cell? ⟨w.heap.size,4,none⟩=some (int .u32 n):=awl _ _ _ _ _ _ HB2;clear J2 F2))
 all_goals
  go_wp2_with fail;go_ret2;exact⟨rfl,HJ,HF⟩
end Mp
namespace Mp
open Mm Hh Hc Mi
theorem acj {r}(I:Pr w base g r bf bt steps)(o:r.Ok)(T:Gc.Ts w base)(hl:r.m.length<=140737488351232)(hss:r.ax.length<=1000000){b n}(ha:0<=a/\a<36)(hb:0<=b/\b<36)(hn:Hh.W n)(hc:316<=op/\op<=318):Calls prog 186 #[pointer (some ⟨g,0,none⟩),agg (uT ⟨op,d,a,b,n⟩)] w fun e w'=>e=returned (bW (gF r ⟨op,d,a,b,n⟩).res)/\Pr w' base g (r.ev (gF r ⟨op,d,a,b,n⟩)) bf bt steps/\Gc.Fr 206 base w w':=by
 have e0:gF r ⟨op,d,a,b,n⟩=aI r.h r.m (op-300) (Wd.lo (r.get a+n)) (r.get b):=by unfold gF;rw[awm bl,awm bl,awn bl]
 rw[e0];have V:Hid (∀k,0<=k->k<36->∀W:World,Gr w W->Calls prog 185 #[pointer (some ⟨g,0,none⟩),int i64 k] W fun e w'=>e=returned (int .u32 (r.get k))/\w'=W):=fun k h0 h1 W q=>fH (I.of q) o k h0 h1
 have wa:=o.get a;have wb:=o.get b;have HI:Hid (Pr w base g r bf bt steps):=I;have qf:Hid (∀x nq,Gr w ((w.alloc x).drewN nq)):=fun x nq=>br.drewN _
 have b2:(op ==2)=false:=by simp;omega
 have ru:Hid (∀W:World,Calls prog 113 #[int i64 op,int i64 211,int i64 215] W fun e w'=>e=returned (.bool false)/\w'=W):=fun W=>by
  have:=aH op 211 215 W;rwa[awq ab]at this
 have AJ:Hid (∀W:World,Calls prog 113 #[int i64 op,int i64 316,int i64 318] W fun e w'=>e=returned (.bool true)/\w'=W):=fun W=>by
  have:=aH op 316 318 W;rwa[awC ab]at this
 have wl:=W.lo (r.get a+n);have hres:(aI r.h r.m (op-300) (Wd.lo (r.get a+n)) (r.get b)).res=none:=by unfold aI;split<;>rfl
 have hw:IntKind.i64.wrap (op-300)=op-300:=by rw[awO];omega
 have L:Hid (∀W:World,Gr w W->Calls prog 178 #[pointer (some ⟨g,0,none⟩),int i64 (IntKind.i64.wrap (op-300)),int .u32 (IntKind.u32.wrap (r.get a+n)),int .u32 (r.get b)] W fun e w'=>e=returned (tuple #[])/\Pr w' base g (r.ev (aI r.h r.m (op-300) (Wd.lo (r.get a+n)) (r.get b))) bf bt steps/\Gc.Fr 206 base W w'):=fun W q=>by
  rw[hw];have J:=I.of q;refine(Gc.dW J (Gc.pg T (awH q I.az)) hl hss (op-300) _ _ wl.1 wl.2 wb.1 wb.2).mono ?_;rintro e w' ⟨rfl,J2,C2⟩;refine⟨rfl,?_,C2⟩;have ho:(aI r.h r.m (op-300) (Wd.lo (r.get a+n)) (r.get b)).out=[]:=by unfold aI;split<;>rfl
  unfold Pr Rn.ev;simp only[ho,arP];exact J2
 rw[hres];generalize aI r.h r.m (op-300) (Wd.lo (r.get a+n)) (r.get b)=E at *
 clear I o T e0 wa wb wl hres hw;unfold bW at *
 unfold uT;simp only[];go_enter func186,ntmps186;go_wp2_with fail;refine awV al al ?_;iterate 3 go_big_quiet_step (fail)
 go_big_quiet_step (exact awP (V a ha.1 ha.2 _ b9));iterate 3 go_big_quiet_step (fail)
 go_big_quiet_step (exact awP (V b hb.1 hb.2 _ b9));go_big_quiet_step (fail);go_big_quiet_step (fail);refine axa ?_;intro _ hw1;obtain⟨nq,hw2⟩:=hw1;subst hw2;clear V;generalize r.get a=X at *
 generalize r.get b=Y at *
 go_wp2_with fail;refine(ru _).mono ?_;rintro e w' ⟨rfl,rfl⟩;clear ru;go_wp2_with fail;refine(AJ _).mono ?_;rintro e w' ⟨rfl,rfl⟩;go_wp2_with fail;have EM:Hid (((w.alloc (.cells #[int i64 op,int i64 d,int i64 a,int i64 b,int .u32 n] 235)).drewN nq).heap[w.heap.size]?=some (.cells #[int i64 op,int i64 d,int i64 a,int i64 b,int .u32 n] 235 (0,0))):=awk w _;have k0:((w.alloc (.cells #[int i64 op,int i64 d,int i64 a,int i64 b,int .u32 n] 235)).drewN nq).cell? ⟨w.heap.size,0,none⟩=some (int i64 op):=awl _ _ _ _ _ _ EM;have k4:((w.alloc (.cells #[int i64 op,int i64 d,int i64 a,int i64 b,int .u32 n] 235)).drewN nq).cell? ⟨w.heap.size,4,none⟩=some (int .u32 n):=awl _ _ _ _ _ _ EM;go_region_with ((go_at_call 178;refine(L _ b9).mono ?_;rintro e w2 ⟨rfl,J2,F2⟩;have HJ:Hid (Pr w2 base g (r.ev E) bf bt steps):=J2;have HF:Hid (Gc.Fr 206 base w w2):=(Gc.Fr.aJ b9 HI.az).trans F2;have HB2:Hid (w2.heap[w.heap.size]?=some (.cells #[int i64 op,int i64 d,int i64 a,int i64 b,int .u32 n] 235 (0,0))):=(F2.keep _ _ _ _ EM an an an).trans EM;have j0:w2.cell? ⟨w.heap.size,0,none⟩=some (int i64 op):=awl _ _ _ _ _ _ HB2;have j4:w2.cell? ⟨w.heap.size,4,none⟩=some (int .u32 n):=awl _ _ _ _ _ _ HB2;clear J2 F2))
 all_goals
  go_wp2_with fail;go_ret2;exact⟨rfl,HJ,HF⟩
end Mp
namespace Mp
open Mm Hh Hc Mi
theorem ack {r}(I:Pr w base g r bf bt steps)(o:r.Ok)(T:Gc.Ts w base)(hl:r.m.length<=140737488351232)(hss:r.ax.length<=1000000){b n}(ha:0<=a/\a<36)(hb:0<=b/\b<36)(hn:Hh.W n)(hc:646<=op/\op<=656):Calls prog 186 #[pointer (some ⟨g,0,none⟩),agg (uT ⟨op,d,a,b,n⟩)] w fun e w'=>e=returned (bW (gF r ⟨op,d,a,b,n⟩).res)/\Pr w' base g (r.ev (gF r ⟨op,d,a,b,n⟩)) bf bt steps/\Gc.Fr 206 base w w':=by
 have e0:gF r ⟨op,d,a,b,n⟩=aN r.h r.m (op-600) (r.get a) (r.get b):=by unfold gF;rw[awm bl,awm bl,awm bl,awm bl,awm bl,awn bl]
 rw[e0];have V:Hid (∀k,0<=k->k<36->∀W:World,Gr w W->Calls prog 185 #[pointer (some ⟨g,0,none⟩),int i64 k] W fun e w'=>e=returned (int .u32 (r.get k))/\w'=W):=fun k h0 h1 W q=>fH (I.of q) o k h0 h1
 have wa:=o.get a;have wb:=o.get b;have HI:Hid (Pr w base g r bf bt steps):=I;have qf:Hid (∀x nq,Gr w ((w.alloc x).drewN nq)):=fun x nq=>br.drewN _
 have b2:(op ==2)=false:=by simp;omega
 have ru:Hid (∀W:World,Calls prog 113 #[int i64 op,int i64 211,int i64 215] W fun e w'=>e=returned (.bool false)/\w'=W):=fun W=>by
  have:=aH op 211 215 W;rwa[awq ab]at this
 have AJ:Hid (∀W:World,Calls prog 113 #[int i64 op,int i64 316,int i64 318] W fun e w'=>e=returned (.bool false)/\w'=W):=fun W=>by
  have:=aH op 316 318 W;rwa[awq ab]at this
 have Gt:Hid (∀W:World,Calls prog 113 #[int i64 op,int i64 428,int i64 445] W fun e w'=>e=returned (.bool false)/\w'=W):=fun W=>by
  have:=aH op 428 445 W;rwa[awq ab]at this
 have QO:Hid (∀W:World,Calls prog 113 #[int i64 op,int i64 528,int i64 545] W fun e w'=>e=returned (.bool false)/\w'=W):=fun W=>by
  have:=aH op 528 545 W;rwa[awq ab]at this
 have ach:Hid (∀W:World,Calls prog 113 #[int i64 op,int i64 646,int i64 656] W fun e w'=>e=returned (.bool true)/\w'=W):=fun W=>by
  have:=aH op 646 656 W;rwa[awC ab]at this
 have hw:IntKind.i64.wrap (op-600)=op-600:=by rw[awO];omega
 have L:Hid (∀W:World,Gr w W->Calls prog 180 #[pointer (some ⟨g,0,none⟩),int i64 (IntKind.i64.wrap (op-600)),int .u32 (r.get a),int .u32 (r.get b)] W fun e w'=>e=returned (bW (aN r.h r.m (op-600) (r.get a) (r.get b)).res)/\Pr w' base g (r.ev (aN r.h r.m (op-600) (r.get a) (r.get b))) bf bt steps/\Gc.Fr 206 base W w'):=fun W q=>by
  rw[hw];have J:=I.of q;refine(Gc.vT J (Gc.pg T (awH q I.az)) hl hss (op-600) _ _ wa.1 wa.2 wb.1 wb.2).mono ?_;rintro e w' ⟨rfl,J2,C2⟩;refine⟨rfl,?_,C2⟩;have ho:(aN r.h r.m (op-600) (r.get a) (r.get b)).out=[]:=by
   unfold aN ik fC jv;repeat (first|rfl|split)
  unfold Pr Rn.ev;simp only[ho,arP];exact J2
 generalize aN r.h r.m (op-600) (r.get a) (r.get b)=E at *
 clear I o T e0 wa wb hw;unfold bW at *
 unfold uT;simp only[];go_enter func186,ntmps186;go_wp2_with fail;refine awV al al ?_;iterate 3 go_big_quiet_step (fail)
 go_big_quiet_step (exact awP (V a ha.1 ha.2 _ b9));iterate 3 go_big_quiet_step (fail)
 go_big_quiet_step (exact awP (V b hb.1 hb.2 _ b9));go_big_quiet_step (fail);go_big_quiet_step (fail);refine axa ?_;intro _ hw1;obtain⟨nq,hw2⟩:=hw1;subst hw2;clear V;generalize r.get a=X at *
 generalize r.get b=Y at *
 go_wp2_with fail;refine(ru _).mono ?_;rintro e w' ⟨rfl,rfl⟩;clear ru;go_wp2_with fail;refine(AJ _).mono ?_;rintro e w' ⟨rfl,rfl⟩;go_wp2_with fail;refine(Gt _).mono ?_;rintro e w' ⟨rfl,rfl⟩;go_wp2_with fail;refine(QO _).mono ?_;rintro e w' ⟨rfl,rfl⟩;go_wp2_with fail;refine(ach _).mono ?_;rintro e w' ⟨rfl,rfl⟩;go_wp2_with fail;have EM:Hid (((w.alloc (.cells #[int i64 op,int i64 d,int i64 a,int i64 b,int .u32 n] 235)).drewN nq).heap[w.heap.size]?=some (.cells #[int i64 op,int i64 d,int i64 a,int i64 b,int .u32 n] 235 (0,0))):=awk w _;have k0:((w.alloc (.cells #[int i64 op,int i64 d,int i64 a,int i64 b,int .u32 n] 235)).drewN nq).cell? ⟨w.heap.size,0,none⟩=some (int i64 op):=awl _ _ _ _ _ _ EM;have k4:((w.alloc (.cells #[int i64 op,int i64 d,int i64 a,int i64 b,int .u32 n] 235)).drewN nq).cell? ⟨w.heap.size,4,none⟩=some (int .u32 n):=awl _ _ _ _ _ _ EM;go_region_with ((go_at_call 180;refine(L _ b9).mono ?_;rintro e w2 ⟨rfl,J2,F2⟩;have HJ:Hid (Pr w2 base g (r.ev E) bf bt steps):=J2;have HF:Hid (Gc.Fr 206 base w w2):=(Gc.Fr.aJ b9 HI.az).trans F2;have HB2:Hid (w2.heap[w.heap.size]?=some (.cells #[int i64 op,int i64 d,int i64 a,int i64 b,int .u32 n] 235 (0,0))):=(F2.keep _ _ _ _ EM an an an).trans EM;have j0:w2.cell? ⟨w.heap.size,0,none⟩=some (int i64 op):=awl _ _ _ _ _ _ HB2;have j4:w2.cell? ⟨w.heap.size,4,none⟩=some (int .u32 n):=awl _ _ _ _ _ _ HB2;clear J2 F2))
 all_goals
  go_wp2_with fail;go_ret2;exact⟨rfl,HJ,HF⟩
end Mp
namespace Mp
open Mm Hh Hc Mi
variable{i:Mv}{r:Rn}
theorem p9 (I:Pr w base g r bf bt steps)(o:r.Ok)(T:Gc.Ts w base)(hl:r.m.length<=140737488351232)(hss:r.ax.length<=1000000){i}(hi:0<=named i.op)(h1:¬i.op=1)(h3:¬i.op=3)(h4:¬i.op=4)(h5:¬i.op=5)(h6:¬i.op=6)(ha:0<=i.a/\i.a<36)(hb:0<=i.b/\i.b<36)(hn:Hh.W i.n):Calls prog 186 #[pointer (some ⟨g,0,none⟩),agg (uT i)] w fun e w'=>e=returned (bW (gF r i).res)/\Pr w' base g (r.ev (gF r i)) bf bt steps/\Gc.Fr 206 base w w':=by
 obtain⟨op,d,a,b,n⟩:=i;simp only at *
 rcases kI hi with q|q|q|q|q|q|q|q|q|q|q|q
 ·exact absurd q h1
 ·exact Xl I o T hl hss ha hb hn q
 ·exact absurd q h3
 ·exact absurd q h4
 ·exact absurd q h5
 ·exact absurd q h6
 ·exact acg I o T hl hss ha hb hn q
 ·exact aci I o T hl hss ha hb hn q
 ·exact acj I o T hl hss ha hb hn q
 ·exact zT I o T hl hss ha hb hn q
 ·exact Xm I o T hl hss ha hb hn q
 ·exact ack I o T hl hss ha hb hn q
theorem acm {e}(o:r.Ok)(I:Pr w base g (r.ev e) bf bt steps):(r.ev e).Ok:=by obtain⟨c,hc,I⟩:=I;have:=I.ok;rw[hc]at this;exact⟨this,o.tl,o.tb,o.h0,o.h1⟩
theorem afT (I:Pr w base g r bf bt steps)(o:r.Ok)(hr:r.n<=1000000)(op d a b n)(h1:op=1):Calls prog 171 #[pointer (some ⟨g,0,none⟩),agg #[int i64 op,int i64 d,int i64 a,int i64 b,int .u32 n]] w fun e w'=>e=returned (tuple #[])/\Pr w' base g { r with n:=r.n+1,here:=n } bf bt steps/\Gc.Fr 206 base w w':=by
 subst h1;have k47:w.cell? ⟨g,47,none⟩=some (int i64 r.n):=I.NJ o 3;have k48:=I.NJ o 4;have fz:=I.fz;have hg:=I.lt;have HB:=kH I.az;have J1:=I.afQ (r':={ r with n:=r.n+1 }) o 3 rfl rfl rfl rfl rfl rfl;have J2:=J1.afQ (r':={ r with n:=r.n+1,here:=n }) ⟨o.h,o.tl,o.tb,o.h0,o.h1⟩ 4 rfl rfl rfl rfl rfl rfl;have HJ:Hid (Pr ((w.setCell ⟨g,47,none⟩ (int i64 ((r.n:Int)+1))).setCell ⟨g,48,none⟩ (int .u32 n)) base g { r with n:=r.n+1,here:=n } bf bt steps):=J2;have HF:Hid (Gc.Fr 206 base w ((w.setCell ⟨g,47,none⟩ (int i64 ((r.n:Int)+1))).setCell ⟨g,48,none⟩ (int .u32 n))):=Gc.In.below I (((Ch.refl g w).setCell _ _).setCell _ _);generalize hrn:(r.n:Int)=rn at *
 have b0:0<=rn:=ab;have b1:rn<=1000000:=ab;generalize r.here=hh at *
 generalize({ r with n:=r.n+1,here:=n }:Rn)=r2 at *
 go_enter func171,ntmps171;go_wp2_with fail;go_end0;refine⟨rfl,HJ.of br,HF.trans (Gc.Fr.aJ br HJ.az)⟩
theorem Xn (I:Pr w base g r bf bt steps)(ho:r.out.length<=1000000)(op d a b n)(h1:op=5):Calls prog 171 #[pointer (some ⟨g,0,none⟩),agg #[int i64 op,int i64 d,int i64 a,int i64 b,int .u32 n]] w fun e w'=>e=returned (tuple #[])/\Pr w' base g (r.ev (bE r.h r.m)) bf bt steps/\Gc.Fr 206 base w w':=by
 subst h1;have L:Hid (∀W:World,Gr w W->Calls prog 181 #[pointer (some ⟨g,0,none⟩)] W fun e w'=>e=returned (tuple #[])/\Pr w' base g (r.ev (bE r.h r.m)) bf bt steps/\Gc.Fr 206 base W w'):=fun W q=>by
  refine(Gc.vz (I.of q) ho).mono ?_;rintro e w' ⟨rfl,J2,C2⟩;refine⟨rfl,?_,C2⟩;have hs:(bE r.h r.m).ax=[]/\(bE r.h r.m).m=r.m:=by unfold bE;split<;>(try split)<;>exact⟨rfl,rfl⟩
  unfold Pr Rn.ev;simp only[hs.1,hs.2,arP];exact J2
 have HB:=kH I.az;generalize r.ev (bE r.h r.m)=r2 at *
 go_enter func171,ntmps171;go_wp2_with fail;refine(L _ b9).mono ?_;rintro e w2 ⟨rfl,J2,F2⟩;have HJ:=kH J2;have HF:=kH ((Gc.Fr.aJ br HB).trans F2);go_wp2_with fail;go_end0;exact⟨rfl,HJ,HF⟩
theorem QP (I:Pr w base g r bf bt steps)(op d a b n)(h1:op=6):Calls prog 171 #[pointer (some ⟨g,0,none⟩),agg #[int i64 op,int i64 d,int i64 a,int i64 b,int .u32 n]] w fun e w'=>e=returned (tuple #[])/\Pr w' base g { r with h:=r.h.trap 6 } bf bt steps/\Gc.Fr 206 base w w':=by
 subst h1;have L:Hid (∀W:World,Gr w W->Calls prog 134 #[pointer (some ⟨g,0,none⟩),int i64 6] W fun e w'=>e=returned (tuple #[])/\Pr w' base g { r with h:=r.h.trap 6 } bf bt steps/\Gc.Fr 206 base W w'):=fun W q=>by
  have J:=I.of q;refine(Gc.dR J 6).mono ?_;rintro e w' ⟨rfl,J2,C2⟩;exact⟨rfl,J2,Gc.In.below J C2⟩
 have HB:=kH I.az;generalize({ r with h:=r.h.trap 6 }:Rn)=r2 at *
 go_enter func171,ntmps171;go_wp2_with fail;refine(L _ b9).mono ?_;rintro e w2 ⟨rfl,J2,F2⟩;have HJ:=kH J2;have HF:=kH ((Gc.Fr.aJ br HB).trans F2);go_wp2_with fail;go_end0;exact⟨rfl,HJ,HF⟩
theorem afU (I:Pr w base g r bf bt steps)(o:r.Ok)(T:Gc.Ts w base)(hl:r.m.length<=140737488351232)(hss:r.ax.length<=1000000){b n}(hi:0<=named op)(h1:¬op=1)(h3:¬op=3)(h4:¬op=4)(h5:¬op=5)(h6:¬op=6)(hd:0<=d/\d<36)(ha:0<=a/\a<36)(hb:0<=b/\b<36)(hn:Hh.W n):Calls prog 171 #[pointer (some ⟨g,0,none⟩),agg #[int i64 op,int i64 d,int i64 a,int i64 b,int .u32 n]] w fun e w'=>e=returned (tuple #[])/\Pr w' base g ((r.ev (gF r ⟨op,d,a,b,n⟩)).jG d (gF r ⟨op,d,a,b,n⟩).res) bf bt steps/\Gc.Fr 206 base w w':=by
 have L:Hid (∀W:World,Gr w W->_):=fun W q=>p9 (i:=⟨op,d,a,b,n⟩) (I.of q) o (Gc.pg T (awH q I.az)) hl hss hi h1 h3 h4 h5 h6 ha hb hn
 have HW:Hid (∀x,(gF r ⟨op,d,a,b,n⟩).res=some x->Hh.W x):=fun x h=>Vn o hn h
 have HO:Hid (∀W:World,Pr W base g (r.ev (gF r ⟨op,d,a,b,n⟩)) bf bt steps->_):=fun W J=>acm o J
 have HB:=kH I.az;have b1:(op ==1)=false:=by simp[h1]
 have b5:(op ==5)=false:=by simp[h5]
 have b6:(op ==6)=false:=by simp[h6]
 generalize r.ev (gF r ⟨op,d,a,b,n⟩)=r2 at *
 generalize(gF r ⟨op,d,a,b,n⟩).res=x at *
 cases x with
 |none=>
  unfold bW at *
  simp only[Option.getD_none,Option.isSome_none]at *
  go_enter func171,ntmps171;go_wp2_with fail;refine(L _ b9).mono ?_;rintro e w2 ⟨rfl,J2,F2⟩;have HJ:=kH J2;have HF:=kH ((Gc.Fr.aJ br HB).trans F2);go_wp2_with fail;go_end0;exact⟨rfl,HJ,HF⟩
 |some x=>
  have HWx:=kH (HW x rfl);unfold bW at *
  simp only[asi,Option.isSome_some]at *
  go_enter func171,ntmps171;go_wp2_with fail;refine(L _ b9).mono ?_;rintro e w2 ⟨rfl,J2,F2⟩;have HJ:=kH J2;have HF:=kH ((Gc.Fr.aJ br HB).trans F2);have k0:=(F2.keep _ _ _ _ (awk w _) an an an).trans (awk w _);have p1:w2.cell? ⟨w.heap.size,1,none⟩=some (int i64 d):=awl _ _ _ _ _ _ k0;have Be:=kH (Gj J2 (HO _ J2) d x hd.1 hd.2 HWx);go_wp2_with fail;refine Be.mono ?_;rintro e w3 ⟨rfl,J3,C3⟩;have HJ3:=kH J3;have FU:=kH (HF.trans (Gc.In.below HJ C3));go_wp2_with fail;go_end0;exact⟨rfl,HJ3,FU⟩
theorem FT (I:Pr w base g r bf bt steps)(o:r.Ok)(T:Gc.Ts w base)(hl:r.m.length<=140737488351232)(hr:r.n<=1000000)(hos:r.out.length<=1000000)(hss:r.ax.length<=1000000)(hi:0<=named i.op)(h3:¬i.op=3)(h4:¬i.op=4)(hd:0<=i.d/\i.d<36)(ha:0<=i.a/\i.a<36)(hb:0<=i.b/\i.b<36)(hn:Hh.W i.n):Calls prog 171 #[pointer (some ⟨g,0,none⟩),agg (uT i)] w fun e w'=>e=returned (tuple #[])/\Pr w' base g (fP r i) bf bt steps/\Gc.Fr 206 base w w':=by
 obtain⟨op,d,a,b,n⟩:=i;unfold fP uT;simp only at *
 by_cases h1:op=1
 ·rw[awn h1];exact afT I o hr op d a b n h1
 rw[awm h1];by_cases h5:op=5
 ·rw[awn h5];exact Xn I hos op d a b n h5
 rw[awm h5];by_cases h6:op=6
 ·rw[awn h6];exact QP I op d a b n h6
 rw[awm h6];exact afU I o T hl hss hi h1 h3 h4 h5 h6 hd ha hb hn
end Mp
namespace Mp
open Mm Hh Hc Mi
variable{i:Mv}{r:Rn}
theorem Pr.ajj (I:Pr w base g r bf bt steps)(ht:r.tm.length=4)(j):w.cell? ⟨g,44+j,none⟩=[Value.int .u32 bf,int .u32 bt,int i64 steps,int i64 r.n,int .u32 r.here][j]?:=by
 obtain⟨c,e,I⟩:=I;have h:(nK r bf bt steps)[4+j]?=[Value.int .u32 bf,int .u32 bt,int i64 steps,int i64 r.n,int .u32 r.here][j]?:=by
  unfold nK;rw[arK (by simp[ht])];simp[ht]
 have:=(I.rest (4+j)).trans h;rwa[show 40+(4+j)=44+j by omega]at this
theorem Ji (q:Rn)(d)(x):(q.jG d x).tm.length=q.tm.length/\(q.jG d x).over=q.over:=by
 cases x with
 |none=>exact⟨rfl,rfl⟩
 |some x=>show(q.put d x).tm.length=q.tm.length/\(q.put d x).over=q.over;unfold Rn.put;split<;>simp
theorem acn (o:r.Ok)(i):(fP r i).tm.length=4:=by
 unfold fP;split
 ·exact o.tl
 split
 ·exact o.tl
 split
 ·exact o.tl
 ·rw[(Ji _ _ _).1];exact o.tl
theorem QQ (r)(i):(fP r i).over=r.over:=by
 unfold fP;split
 ·rfl
 split
 ·rfl
 split
 ·rfl
 ·rw[(Ji _ _ _).2];rfl
theorem aco (hi:0<=named i.op)(hs:r.h.state=0)(hw:r.own=ownB bf bt r.ax)(I:Pr w base g (Ul bf bt steps r i) bf bt steps):Pr w base g (jK bf bt steps r i) bf bt steps:=by rw[<-IJ hi hs hw];exact I
theorem QR (hi:0<=named i.op)(hs:r.h.state=0)(hw:r.own=ownB bf bt r.ax):(jK bf bt steps r i).over=(Ul bf bt steps r i).over:=by rw[<-IJ hi hs hw]
theorem QS (o:r.Ok)(hn:Hh.W i.n):Hh.W (fP r i).here:=by
 have e:∀(q:Rn) (d:Int) (x:Option Int),(q.jG d x).here=q.here:=fun q d x=>by
  cases x with
  |none=>rfl
  |some x=>show(q.put d x).here=q.here;unfold Rn.put;split<;>rfl
 unfold fP;split
 ·exact hn
 split
 ·exact⟨o.h0,o.h1⟩
 split
 ·exact⟨o.h0,o.h1⟩
 ·rw[e];exact⟨o.h0,o.h1⟩
theorem afV (o:r.Ok)(hn:Hh.W i.n):Hh.W (II r i):=by
 unfold II;split
 ·have:=W.lo (r.get i.a+i.n);unfold Hh.W at *
  omega
 ·exact hn
theorem Gu (I:Pr w base g r bf bt steps)(G:Gd bf bt r)(T:Gc.Ts w base)(ho:r.over=false)(h0:r.n<=1000000)(h1:r.out.length<=1000000)(h2:r.ax.length<=1000000)(hi:eT i=true)(hn:Hh.W i.n):Calls prog 144 #[pointer (some ⟨g,0,none⟩),agg (uT i)] w fun e w'=>e=returned (.bool (!(jK bf bt steps r i).over))/\Pr w' base g (jK bf bt steps r i) bf bt steps/\Below base w w':=by
 obtain⟨hnm,hd,ha,hb⟩:=Cx hi;have hs:=G.st ho;have Lv:Hid (∀W:World,Gr w W->_):=fun W q=>Gq (I.of q) G.ok h2 hnm ha hb hn
 have HP:Hid (∀W:World,Pr W base g (Ul bf bt steps r i) bf bt steps->_):=fun W J=>aco hnm hs G.own J
 have HO:Hid ((jK bf bt steps r i).over=(Ul bf bt steps r i).over):=QR hnm hs G.own;have HBe:=kH I.az;have HI:=kH I;have HWP:Hid _:=afV G.ok hn;have HWH:Hid _:=QS G.ok hn;have yA:Hid _:=acn G.ok i;have hdo:=(QQ r i).trans ho;have fg:=I.lt;cases hB:wX bf bt steps r i with
 |true=>
  have HE:Hid _:=vF hB;rw[hB]at Lv;have Lv2:=kH Lv;clear Lv hB hdo HWH hs hnm hd ha hb I T G;obtain⟨op,d,a,b,n⟩:=i;unfold uT at *
  simp only at *
  generalize II r ⟨op,d,a,b,n⟩=y at *
  go_enter func144,ntmps144;go_wp2_with fail;refine(Lv2 _ b9).mono ?_;rintro e w1 ⟨rfl,G1⟩;have aU:Hid (Gr w w1):=Gr.trans b9 G1;have J:=HI.of aU;have P6:=J.hart (j:=0) ab;have fz:=J.fz;have HJ:Hid _:=(J.QJ HWP).same r.own true;have HB:Hid (Below base w (w1.setCell ⟨g,32,none⟩ (int .u32 y))):=(awH aU HBe).trans (((Ch.refl g w1).setCell _ _).below (by obtain⟨c,_,q⟩:=J;exact q.bg) J.az);clear J G1 Lv2;go_wp2_with fail;go_ret;refine⟨?_,HP _ (by rw[HE.out];exact HJ),HB⟩;rw[HO.out,HE.out];rfl
 |false=>
  have hop:¬i.op=3/\¬i.op=4:=by
   refine⟨fun q=>?_,fun q=>?_⟩
   ·unfold wX at hB;rw[ak,awn q]at hB;cases hB
   ·unfold wX at hB;rw[ak,ak,awn q]at hB;cases hB
  have Do:Hid (∀W:World,Gr w W->_):=fun W q=>FT (I.of q) G.ok (Gc.pg T (awH q I.az)) (by have:=G.len;omega) h0 h1 h2 hnm hop.1 hop.2 hd ha hb hn
  rw[hB]at Lv;have Lv2:=kH Lv;have Gv:Hid ((fP r i).h.state=0->_):=fun q=>iJ hB q
  have HE2:Hid (¬(fP r i).h.state=0->_):=fun q=>jH hB q
  clear Lv hB hs hnm hd ha hb I T G hop;obtain⟨op,d,a,b,n⟩:=i;unfold uT at *
  simp only at *
  generalize II r ⟨op,d,a,b,n⟩=y at *
  by_cases q:(fP r ⟨op,d,a,b,n⟩).h.state=0
  ·have HE:Hid _:=Gv q;generalize fP r ⟨op,d,a,b,n⟩=r2 at *
   clear Gv HE2;go_enter func144,ntmps144;go_wp2_with fail;refine(Lv2 _ b9).mono ?_;rintro e w1 ⟨rfl,G1⟩;have aU:Hid (Gr w w1):=Gr.trans b9 G1;have k0:=Bk.dZ G1 (awk w _);have p0:w1.cell? ⟨w.heap.size,0,none⟩=some (int i64 op):=awl _ _ _ _ _ _ k0;have p1:w1.cell? ⟨w.heap.size,1,none⟩=some (int i64 d):=awl _ _ _ _ _ _ k0;have p2:w1.cell? ⟨w.heap.size,2,none⟩=some (int i64 a):=awl _ _ _ _ _ _ k0;have p3:w1.cell? ⟨w.heap.size,3,none⟩=some (int i64 b):=awl _ _ _ _ _ _ k0;have p4:w1.cell? ⟨w.heap.size,4,none⟩=some (int .u32 n):=awl _ _ _ _ _ _ k0;clear G1 Lv2 k0;go_wp2_with fail;refine(Do _ aU).mono ?_;rintro e w2 ⟨rfl,J2,F2⟩;have HJ2:Hid _:=J2;have HB2:Hid _:=(awH aU HBe).trans F2.below;have Uj:w2.cell? ⟨g,35,none⟩=some (int i64 0):=by rw[<-q];exact J2.hart (j:=3) ab
   clear J2 F2 Do p0 p1 p2 p3 p4 HI;go_wp2_with fail;go_ret;refine⟨?_,HP _ (by rw[HE.out];exact HJ2),HB2⟩;rw[HO.out,HE.out,hdo];rfl
  ·have HE:Hid _:=HE2 q;generalize fP r ⟨op,d,a,b,n⟩=r2 at *
   have bq:(r2.h.state !=0)=true:=by simp[q]
   clear Gv HE2;go_enter func144,ntmps144;go_wp2_with fail;refine(Lv2 _ b9).mono ?_;rintro e w1 ⟨rfl,G1⟩;have aU:Hid (Gr w w1):=Gr.trans b9 G1;have k0:=Bk.dZ G1 (awk w _);have p0:w1.cell? ⟨w.heap.size,0,none⟩=some (int i64 op):=awl _ _ _ _ _ _ k0;have p1:w1.cell? ⟨w.heap.size,1,none⟩=some (int i64 d):=awl _ _ _ _ _ _ k0;have p2:w1.cell? ⟨w.heap.size,2,none⟩=some (int i64 a):=awl _ _ _ _ _ _ k0;have p3:w1.cell? ⟨w.heap.size,3,none⟩=some (int i64 b):=awl _ _ _ _ _ _ k0;have p4:w1.cell? ⟨w.heap.size,4,none⟩=some (int .u32 n):=awl _ _ _ _ _ _ k0;clear G1 Lv2 k0;go_wp2_with fail;refine(Do _ aU).mono ?_;rintro e w2 ⟨rfl,J2,F2⟩;have Uj:=J2.hart (j:=3) ab;have P6:=J2.hart (j:=0) ab;have k48:=J2.ajj yA 4;have fz:=J2.fz;have HJ2:Hid _:=(J2.QJ HWH).same r2.own true;have HB2:Hid (Below base w (w2.setCell ⟨g,32,none⟩ (int .u32 r2.here))):=((awH aU HBe).trans F2.below).trans (((Ch.refl g w2).setCell _ _).below (by obtain⟨c,_,q⟩:=J2;exact q.bg) J2.az);clear J2 F2 Do p0 p1 p2 p3 p4 HI q;go_wp2_with fail;go_ret;refine⟨?_,HP _ (by rw[HE.out];exact HJ2),HB2⟩;rw[HO.out,HE.out];rfl
end Mp
namespace Mp
open Mm Hh Hc Mi
theorem AL {w0}(cap){code}(C:Cs w0 ao n code)(AO:pO code=true){h}(oh:h.Ok)(hst:h.state=0)(hl:l.length<=4096)(T:Gc.Ts w0 w0.heap.size)(I:Pr w w0.heap.size g (mstart h l) bf bt steps)(G:Gr w0 w):Calls prog 115 #[pointer (some ⟨g,0,none⟩),slice ao n cap] w fun e w'=>e=returned (tuple #[])/\Pr w' w0.heap.size g (dI bf bt steps h l code) bf bt steps/\Gr w0 w':=by
 have HL:Hid (code.length=n):=C.len;have HC:=kH C;have HT:=kH T;have ZB:n<=200/\code.all eT=true:=by
  unfold pO at AO;rw[HL.out]at AO;simpa using AO
 have hn:=ZB.1;have HA:Hid (∀i∈code,_):=fun i hi=>ar0.1 ZB.2 i hi
 have gV:Hid (∀j,Gd bf bt (bF bf bt steps (mstart h l) (code.take j))):=fun j=>Gd.bF (Gd.start oh hst hl) C.wn j
 have HBd:Hid (∀j,(bF bf bt steps (mstart h l) (code.take j)).ax.length<=j/\(bF bf bt steps (mstart h l) (code.take j)).out.length<=j/\(bF bf bt steps (mstart h l) (code.take j)).n<=j):=fun j=>by
  obtain⟨_,a,b,c⟩:=IG bf bt steps (mstart h l) code j;have e1:(mstart h l).ax.length=0:=rfl;have e2:(mstart h l).out.length=0:=rfl;have e3:(mstart h l).n=0:=rfl;omega
 have HTk:Hid (∀j i,code[j]?=some i->(bF bf bt steps (mstart h l) (code.take j)).over=false->_):=fun j i hi ho=>r9 bf bt steps hi ho
 have HDn:Hid (∀j,(bF bf bt steps (mstart h l) (code.take j)).over=true\/j=n->dI bf bt steps h l code=mend (bF bf bt steps (mstart h l) (code.take j))):=fun j hj=>by
  unfold dI;rcases hj with hj|hj
  ·rw[KC bf bt steps hj]
  ·rw[hj,<-HL.out,ash]
 have HI:Hid (Pr w w0.heap.size g (bF bf bt steps (mstart h l) (code.take 0)) bf bt steps):=I;have HG:Hid (Gr w0 w):=G;have HO0:Hid ((bF bf bt steps (mstart h l) (code.take 0)).over=false):=rfl;generalize hR:(fun j=>bF bf bt steps (mstart h l) (code.take j))=R at *
 have eR:∀j,bF bf bt steps (mstart h l) (code.take j)=R j:=fun j=>by rw[<-hR]
 simp only[eR]at *
 clear hR eR;generalize dI bf bt steps h l code=MP at *
 go_enter func115,ntmps115;go_wp2_with fail;go_loopw [8] (fun i wr=>∃j:Nat,j<=n/\i=int i64 j/\(R j).over=false/\Pr wr w0.heap.size g (R j) bf bt steps/\Gr w0 wr) (fun i _=>n-(intOf i).toNat)
 case atStart=>exact⟨0,arQ _,rfl,HO0,HI,HG⟩
 case round=>
  obtain⟨j,hj,rfl,hov,hI,hG⟩:=hrel;have HOv:=kH hov;have Xo:=kH hI;have HGj:=kH hG;by_cases hlt:j<n
  ·obtain⟨c,hc⟩:∃c,code[j]?=some c:=⟨_,arq (by rw[HL.out];exact hlt)⟩;obtain⟨b,o,rfl,hb,hcell⟩:=(HC.of HGj).spot ab;obtain⟨p0,p1,p2,p3,p4⟩:=hcell j c hc;have hmem:=arE hc;have bd:=HBd j;have Gs:Hid (∀W:World,Gr wr W->Calls prog 144 #[pointer (some ⟨g,0,none⟩),agg (uT c)] W fun e w'=>e=returned (.bool (!(R (j+1)).over))/\Pr w' w0.heap.size g (R (j+1)) bf bt steps/\Gr w0 w'):=fun W q=>by
    rw[HTk.out j c hc HOv.out];refine(Gu (Xo.of q) (gV j) (Gc.pg HT (HGj.trans q)) HOv ab ab ab (HA c hmem) (HC.wn c hmem)).mono ?_;rintro e w' ⟨rfl,J,B⟩;exact⟨rfl,J,aw2 (HGj.trans q) B⟩
   have HDj:Hid ((R (j+1)).over=true->_):=fun h=>HDn (j+1) (.inl h)
   obtain⟨op,d,a,b2,nn⟩:=c;unfold uT at Gs;simp only at *
   generalize hr:R (j+1)=r2 at *
   cases QT:r2.over with
   |true=>
    have HE:Hid (MP=r2):=by
     unfold Hid;rw[HDj.out QT];unfold mend;rw[awm (by simp[QT])]
    rw[QT]at Gs;simp only[Bool.not_true]at Gs;go_wp2_with fail;refine(Gs _ br).mono ?_;rintro e w1 ⟨rfl,J1,G1⟩;have HJ1:=kH J1;have aU:=kH G1;go_wp2_with fail;refine awt (axf results115 _ _ _) rfl ?_;exact⟨rfl,by rw[HE.out];exact HJ1,aU⟩
   |false=>
    have ajm:Hid ((R (j+1)).over=false):=by unfold Hid;rw[hr];exact QT
    rw[QT]at Gs;simp only[Bool.not_false]at Gs;rw[<-hr]at Gs;have Gs2:=kH Gs;go_wp2_with fail;refine(Gs2 _ br).mono ?_;rintro e w1 ⟨rfl,J1,G1⟩;have HJ1:=kH J1;have aU:=kH G1;go_wp2_with fail;go_roundw
    case rel=>exact⟨j+1,ab,by go_num,ajm,HJ1,aU⟩
    case measure=>simp[intOf];omega
  ·have ej:j=n:=ab;have HE0:=kH (HDn j (.inr ej));have okj:=(gV j).ok;have bd:=(HBd j).2.2;have k47:=Xo.NJ okj 3;have k48:=Xo.NJ okj 4;have P6:=Xo.hart (j:=0) ab;have fz:=Xo.fz;have wp:=W.lo ((R j).here+4);have HJ:=kH (Xo.QJ wp);have HB:Hid (Gr w0 (wr.setCell ⟨g,32,none⟩ (int .u32 (Wd.lo ((R j).here+4))))):=aw2 HGj (((Ch.refl g wr).setCell _ _).below (by obtain⟨c,_,q⟩:=Xo;exact q.bg) Xo.az);have h48:=okj.h0;have h49:=okj.h1;generalize R j=rj at *
   by_cases hz:rj.n=0
   ·have HE:Hid (MP=rj):=by
     unfold Hid;rw[HE0.out];unfold mend;rw[awm (by simp[hz])]
    have hz2:(rj.n:Int)=0:=ab;go_wp2_with fail;go_end0;exact⟨rfl,by rw[HE.out];exact Xo,HGj⟩
   ·have HE:Hid (MP={ rj with h:=rj.h.go (Wd.lo (rj.here+4)) }):=by
     unfold Hid;rw[HE0.out];unfold mend;rw[awn ⟨HOv.out,ab⟩]
    have hz2:0<(rj.n:Int):=ab;go_wp2_with fail;go_end0;exact⟨rfl,by rw[HE.out];exact HJ,HB⟩
end Mp
namespace Mp
open Mm Hh Hc Mi
variable{fs:Array Field}{c:Cv}
def kX (off:Nat) (v cs:Array Value):Array Value:=v.zipIdx.foldl (fun cs (x:Value×Nat)=>cs.setIfInBounds (off+x.2) x.1) cs
theorem aZ (off)(v cs):(kX off v cs).size=cs.size:=(jg off v cs).1
theorem gW (off)(v cs)(k):(kX off v cs)[k]?=if off<=k/\k<off+v.size/\k<cs.size then v[k-off]? else cs[k]?:=(jg off v cs).2 k
theorem fI {place}{rest}{off n}(A)(hA:v.cells=A)(hp:place i=some (off,n))(hv:A.size=n)(hb:off+n<=cells.size):Instr.fill place cells ((i,v)::rest)=Instr.fill place (kX off A cells) rest:=by rw[Instr.fill];simp only[hp];rw[hA,awm (by simp[hv];omega)];rfl
theorem AP (o:c.h.Ok)(rs):(Gc.cB c rs).size=40+rs.length:=by simp[Gc.cB,aF o];omega
theorem ry {r}(ht:r.tm.length=4)(bf bt steps):(nK r bf bt steps).length=9:=by simp[nK,ht]
theorem Xp:(prog.info? 206).bind (·.zero)=some (agg (Gc.cB ⟨h0,ay,ay,ay⟩ (nK (mstart h0 []) 0 0 0))):=al
theorem AQ:(prog.info? 206).map (·.size)=some 49:=al
theorem acr (o:c.h.Ok)(hk:k<40):(Gc.cB c rs)[k]?=(cA c)[k]?:=by
 have hl:=aF o;show(hL c.h++([c.m,c.out,c.ax]++rs)).toArray[k]?=(hL c.h++[c.m,c.out,c.ax]).toArray[k]?
 rw[arB,arB,<-asq,arO aE]
theorem acs {t}{it}{ps}(hi:P.info? t=some it)(hu:P.underlying t=some (.struct fs))(hz:it.zero=some z)(hp:fs.toList.mapM (fun f=>(P.info? f.type).map fun i=>(f.offset,i.size))=some ps){n p m q s}(p0:ps.toArray[0]?=some (0,n))(p2:ps.toArray[2]?=some (p,m))(p3:ps.toArray[3]?=some (q,1))(p5:ps.toArray[5]?=some (s,1))(A B)(x y)(hA:A.size=n)(hB:B.size=m)(hx:x.cells=#[x])(hy:y.cells=#[y])(b0:n<=z.cells.size)(b2:p+m<=z.cells.size)(b3:q+1<=z.cells.size)(b5:s+1<=z.cells.size):P.built t [(0,.agg A),(2,.agg B),(3,x),(5,y)]=some (kX s #[y] (kX q #[x] (kX p B (kX 0 A z.cells)))):=by unfold Program.built;simp only[hi,hu,hz,hp];rw[fI (off:=0) (n:=n) A rfl p0 hA ab];rw[fI (off:=p) (n:=m) B rfl p2 hB (by rw[aZ];omega)];rw[fI (off:=q) (n:=1) #[x] hx p3 rfl (by rw[aZ,aZ];omega)];rw[fI (off:=s) (n:=1) #[y] hy p5 rfl (by rw[aZ,aZ,aZ];omega)];rw[Instr.fill]
theorem acu {t}{it}{ps}(hi:P.info? t=some it)(hu:P.underlying t=some (.struct fs))(hz:it.zero=some z)(hp:fs.toList.mapM (fun f=>(P.info? f.type).map fun i=>(f.offset,i.size))=some ps){n o1 o2 o3 o4}(p0:ps.toArray[0]?=some (0,n))(p1:ps.toArray[1]?=some (o1,1))(p2:ps.toArray[2]?=some (o2,1))(p3:ps.toArray[3]?=some (o3,1))(p4:ps.toArray[4]?=some (o4,1))(A)(x1 x2 x3 x4)(hA:A.size=n)(h1:x1.cells=#[x1])(h2:x2.cells=#[x2])(h3:x3.cells=#[x3])(h4:x4.cells=#[x4])(b0:n<=z.cells.size)(b1:o1+1<=z.cells.size)(b2:o2+1<=z.cells.size)(b3:o3+1<=z.cells.size)(b4:o4+1<=z.cells.size):P.built t [(0,.agg A),(1,x1),(2,x2),(3,x3),(4,x4)]=some (kX o4 #[x4] (kX o3 #[x3] (kX o2 #[x2] (kX o1 #[x1] (kX 0 A z.cells))))):=by unfold Program.built;simp only[hi,hu,hz,hp];rw[fI (off:=0) (n:=n) A rfl p0 hA ab];rw[fI (off:=o1) (n:=1) #[x1] h1 p1 rfl (by rw[aZ];omega)];rw[fI (off:=o2) (n:=1) #[x2] h2 p2 rfl (by rw[aZ,aZ];omega)];rw[fI (off:=o3) (n:=1) #[x3] h3 p3 rfl (by rw[aZ,aZ,aZ];omega)];rw[fI (off:=o4) (n:=1) #[x4] h4 p4 rfl (by rw[aZ,aZ,aZ,aZ];omega)];rw[Instr.fill]
theorem AR {c}(o:c.h.Ok)(hh)(l)(bf bt steps):prog.built 206 [(0,agg (cA c)),(2,agg #[int .u32 bf,int .u32 bt]),(3,int i64 steps),(5,int .u32 hh.pc)]=some (Gc.cB c (nK (mstart hh l) bf bt steps)):=by
 obtain⟨it,hi,hz⟩:=lJ Xp;have hs0:(Gc.cB ⟨h0,ay,ay,ay⟩ (nK (mstart h0 []) 0 0 0)).size=49:=by rw[AP jA,ry rfl]
 refine axd (acs (ps:=[(0,40),(40,4),(44,2),(46,1),(47,1),(48,1)]) (n:=40) (p:=44) (m:=2) (q:=46) (s:=48) hi underlying206 hz al rfl rfl rfl rfl (cA c) #[int .u32 bf,int .u32 bt] (int i64 steps) (int .u32 hh.pc) (kF o) rfl rfl rfl (by show 40<=(Gc.cB _ _).size;rw[hs0];omega) (by show 44+2<=(Gc.cB _ _).size;rw[hs0];omega) (by show 46+1<=(Gc.cB _ _).size;rw[hs0];omega) (by show 48+1<=(Gc.cB _ _).size;rw[hs0];omega)) ?_;show some (kX 48 _ (kX 46 _ (kX 44 _ (kX 0 _ (Gc.cB ⟨h0,ay,ay,ay⟩ (nK (mstart h0 []) 0 0 0))))))=_
 have hr0:∀j,(Gc.cB ⟨h0,ay,ay,ay⟩ (nK (mstart h0 []) 0 0 0))[40+j]?=(nK (mstart h0 []) 0 0 0)[j]?:=fun j=>Gc.Al jA j
 generalize Gc.cB ⟨h0,ay,ay,ay⟩ (nK (mstart h0 []) 0 0 0)=Z at *
 refine congrArg some ?_;apply asU;intro k;have z2:(#[int .u32 bf,int .u32 bt]:Array Value).size=2:=rfl;have z1:∀v:Value,(#[v]:Array Value).size=1:=fun _=>rfl
 rw[gW,gW,gW,gW,aZ,aZ,aZ,hs0,z2,z1,z1,kF o];by_cases Oq:k<40
 ·rw[ak,ak,ak,eB,acr o Oq];rfl
 ·obtain⟨j,rfl⟩:∃j,k=40+j:=⟨k-40,ab⟩;rw[Gc.Al o,hr0];by_cases h9:j<9
  ·have:j=0\/j=1\/j=2\/j=3\/j=4\/j=5\/j=6\/j=7\/j=8:=ab;rcases this with rfl|rfl|rfl|rfl|rfl|rfl|rfl|rfl|rfl<;>rfl
  ·rw[ak,ak,ak,ak,asw (by rw[ry rfl];omega),asw (by rw[ry rfl];omega)]
theorem qd {h}(o:h.Ok)(M O S)(n)(hM:M.cells=#[M])(hO:O.cells=#[O])(hS:S.cells=#[S]):prog.built 142 [(0,agg (hA h)),(1,M),(2,O),(3,int i64 n),(4,S)]=some (gA h M O n S):=by
 obtain⟨it,hi,hz⟩:=lJ afR;have hs0:(gA h0 ay ay 0 ay).size=41:=Jh jA _ _ _ _;refine axd (acu (ps:=[(0,37),(37,1),(38,1),(39,1),(40,1)]) (n:=37) (o1:=37) (o2:=38) (o3:=39) (o4:=40) hi underlying142 hz al rfl rfl rfl rfl rfl (hA h) M O (int i64 n) S (kE o) hM hO rfl hS (by show 37<=(gA _ _ _ _ _).size;rw[hs0];omega) (by show 37+1<=(gA _ _ _ _ _).size;rw[hs0];omega) (by show 38+1<=(gA _ _ _ _ _).size;rw[hs0];omega) (by show 39+1<=(gA _ _ _ _ _).size;rw[hs0];omega) (by show 40+1<=(gA _ _ _ _ _).size;rw[hs0];omega)) ?_;show some (kX 40 _ (kX 39 _ (kX 38 _ (kX 37 _ (kX 0 _ (gA h0 ay ay 0 ay))))))=_
 have hr0:∀j,(gA h0 ay ay 0 ay)[37+j]?=[ay,ay,Value.int i64 0,ay][j]?:=fun j=>QM jA j
 generalize gA h0 ay ay 0 ay=Z at *
 refine congrArg some ?_;apply asU;intro k;have z1:∀v:Value,(#[v]:Array Value).size=1:=fun _=>rfl
 rw[gW,gW,gW,gW,gW,aZ,aZ,aZ,aZ,hs0,z1,z1,z1,z1,kE o];by_cases h37:k<37
 ·have hk:(gA h M O n S)[k]?=(hL h)[k]?:=by
   have hl:=aF o;unfold gA gL;rw[arB,arO ab]
  rw[ak,ak,ak,ak,eB,hk];unfold hA;rw[arB];rfl
 ·obtain⟨j,rfl⟩:∃j,k=37+j:=⟨k-37,ab⟩;rw[QM o,hr0];by_cases h4:j<4
  ·have:j=0\/j=1\/j=2\/j=3:=ab;rcases this with rfl|rfl|rfl|rfl<;>rfl
  ·rw[ak,ak,ak,ak,ak,asw aE,asw aE]
end Mp
namespace Mp
open Mm Hh Hc Mi
theorem jV {A B}{t u s:Nat}(g:Gr (((w.alloc (.cells A t)).alloc (.cells B u)).alloc (.cells Z s)) w'):w'.heap[w.heap.size]?=some (.cells A t (0,0))/\w'.heap[w.heap.size+1]?=some (.cells B u (0,0))/\w'.heap[w.heap.size+1+1]?=some (.cells Z s (0,0)):=by
 refine⟨Bk.dZ g (Bk.dZ (br.alloc _) (awk w _)),Bk.dZ g (Bk.dZ br ?_),Bk.dZ g ?_⟩
 ·have:=awk (w.alloc (.cells A t)) (.cells B u);simpa using this
 ·have:=awk ((w.alloc (.cells A t)).alloc (.cells B u)) (.cells Z s);simpa using this
theorem QU (c)(r)(bf bt steps)(h1:c.m.oneCell'=true)(h2:c.out.oneCell'=true)(h3:c.ax.oneCell'=true):(Gc.cB c (nK r bf bt steps)).all (·.oneCell')=true:=by refine aw0 ?_;intro v hv;simp only[hL,nK,ar7,arY,arG,arN,awQ]at hv;rcases hv with(⟨n,_,rfl⟩|rfl|rfl|rfl|rfl|rfl)|(rfl|rfl|rfl)|⟨n,_,rfl⟩|rfl|rfl|rfl|rfl|rfl<;>first|rfl|assumption
theorem xI {h hc}(o:h.Ok)(oc:hc.Ok)(l)(bf bt steps){PV:World→Value→Prop}(st:∀(W W') (v),PV W v->(∀(k:Nat) (c) (f),W.heap[k]?=some (.cells c 5 f)->W'.heap[k]?=W.heap[k]?)->PV W' v)(one:∀W v,PV W v->v.cells=#[v]/\v.oneCell'=true)(NC:∀W,Gr w W->Calls prog 143 #[agg (hA h),slice ao n cap] W fun e w'=>∃v,e=returned (tuple #[agg (cA ⟨hc,v,ay,ay⟩),.bool ok])/\PV w' v/\Gr W w'):Calls prog 114 #[agg (hA h),slice ao n cap,agg #[int .u32 bf,int .u32 bt],int i64 steps] w fun e w'=>∃v,e=returned (tuple #[agg (Gc.cB ⟨hc,v,ay,ay⟩ (nK (mstart h l) bf bt steps)),.bool ok])/\PV w' v/\Gr w w':=by
 have HN:Hid (∀W:World,Gr w W->Calls prog 143 #[agg (hA h),slice ao n cap] W fun e w'=>∃v,e=returned (tuple #[agg (cA ⟨hc,v,ay,ay⟩),.bool ok])/\PV w' v/\Gr W w'):=NC;have PZ:Hid (∀v,prog.built 206 [(0,agg (cA ⟨hc,v,ay,ay⟩)),(2,agg #[int .u32 bf,int .u32 bt]),(3,int i64 steps),(5,int .u32 h.pc)]=some (Gc.cB ⟨hc,v,ay,ay⟩ (nK (mstart h l) bf bt steps))):=fun v=>AR (c:=⟨hc,v,ay,ay⟩) oc h l bf bt steps
 have HS:=kH (kE o);have h32:(hA h)[32]?=some (int .u32 h.pc):=by unfold hA;rw[arB];exact bu o 0
 have HA1:Hid (∀v,(cA ⟨hc,v,ay,ay⟩).size=40):=fun v=>kF oc
 have WN:Hid (∀v:Value,v.oneCell'=true->(cA ⟨hc,v,ay,ay⟩).all (·.oneCell')=true):=fun v hv=>zR _ hv rfl rfl
 have HR1:Hid (∀v,(Gc.cB ⟨hc,v,ay,ay⟩ (nK (mstart h l) bf bt steps)).size=49):=fun v=>by rw[AP oc,ry rfl]
 have ZC:Hid (∀v:Value,v.oneCell'=true->(Gc.cB ⟨hc,v,ay,ay⟩ (nK (mstart h l) bf bt steps)).all (·.oneCell')=true):=fun v hv=>QU _ _ _ _ _ hv rfl rfl
 have Uy:=kH st;have HOn:=kH one;generalize hA h=H0 at *
 generalize h.pc=pc at *
 go_enter func114,ntmps114;go_wp2_with (refine aw6 rfl 43 _ rfl w.heap.size rfl 43 H0 (0,0) _ ?lh1 underlying43 rfl (by rw[HS.out];exact Mc.iH) ?_;(case lh1=>exact Bk.dZ (br.alloc _) (awk w _)));refine(HN _ ((br.alloc _).alloc _)).mono ?_;rintro e w1 ⟨v,rfl,hv,G1⟩;obtain⟨b0,b1,b2⟩:=jV G1;have aU:=kH (((br.alloc _).alloc _).trans G1);have HPV:=kH hv;have HV1:=kH ((HOn _ _ hv).2);have ajo:=PZ v;have HA2:=kH (HA1 v);have kT:=kH (WN v HV1);have HR2:=kH (HR1 v);have acv:=kH (ZC v HV1);have HBZ:Hid (∃Z:Array Value,Z.size=49/\w1.heap[w.heap.size+1+1]?=some (.cells Z 206 (0,0))):=⟨_,rfl,b2⟩;have hlt:=(arz.1 b2).1;obtain⟨Z,hz,hZ⟩:=HBZ;have HZ:=kH hZ;have HZs:=kH hz;have HB0:=kH b0;have HB1:=kH b1;have HBx:=kH ajo;generalize hR1:Gc.cB ⟨hc,v,ay,ay⟩ (nK (mstart h l) bf bt steps)=R1 at *
 have HRe:=kH hR1;generalize cA ⟨hc,v,ay,ay⟩=A1 at *
 have HX:Hid (∀Y:Array Value,Gr w1 ((w1.alloc (.cells Y 197)).setRow w1.heap.size A1)):=fun Y=>ag br (arA _) _
 have jy:Hid (∀Y:Array Value,((w1.alloc (.cells Y 197)).setRow w1.heap.size A1).heap[w1.heap.size]?=some (.cells A1 197 (0,0))):=fun Y=>awJ _ _ _ _ _ (0,0) (awk w1 _)
 have q0:∀Y:Array Value,((w1.alloc (.cells Y 197)).setRow w1.heap.size A1).cell? ⟨w.heap.size+1,0,none⟩=some (int .u32 bf):=fun Y=>awl _ _ _ _ _ _ (Bk.dZ (HX Y) HB1)
 have q1:∀Y:Array Value,((w1.alloc (.cells Y 197)).setRow w1.heap.size A1).cell? ⟨w.heap.size+1,1,none⟩=some (int .u32 bt):=fun Y=>awl _ _ _ _ _ _ (Bk.dZ (HX Y) HB1)
 have q2:∀Y:Array Value,((w1.alloc (.cells Y 197)).setRow w1.heap.size A1).cell? ⟨w.heap.size,32,none⟩=some (int .u32 pc):=fun Y=>(awl _ _ _ _ _ _ (Bk.dZ (HX Y) HB0)).trans h32
 go_wp2_with (first
  |(refine awx rfl 197 _ _ rfl w1.heap.size A1 rfl rfl 197 _ (awk w1 _) (by rw[HA2.out];exact iC) (by rw[HA2.out];rfl) kT ?_)
  |(refine aw6 rfl 197 _ rfl w1.heap.size rfl 197 A1 (0,0) _ ?lh2 underlying197 rfl (by rw[HA2.out];exact iC) ?_;(case lh2=>exact jy _))
  |(refine axt rfl 206 _ rfl _ rfl R1 (by have:=HBx;simp[Act.eval,Act.put];exact this) ?_)
  |(refine awx rfl 206 _ _ rfl (w.heap.size+1+1) R1 rfl rfl 206 Z ?sr1 (by rw[HR2.out];exact AQ) (by rw[HR2.out];exact HZs) acv ?_;(case sr1=>exact Bk.dZ (HX _) HZ)))
 refine awt (v:=tuple #[agg R1,.bool ok]) (Hr.aL results114 _ _ _ _ _ (0,0) _ _ rfl rfl (awJ _ _ _ _ _ (0,0) (Bk.dZ (HX _) HZ)) underlying206 rfl (by rw[HR2.out];exact AQ)) rfl ⟨v,by rw[HRe.out],?_,?_⟩
 ·refine Uy _ _ v HPV fun k c f hk=>?_
  exact(awI _ _ _ _ (aa hk HZ an)).trans ((HX _).block k (arz.1 hk).1)
 ·exact ag (aU.trans (HX _)) ab _
end Mp
namespace Mp
open Mm Hh Hc Mi
def yN:List Value:=rf.map (Value.int i64)
theorem QV (g:Gr w w'){x}(h:w.heap[k]?=some x):w'.heap[k]?=some x:=by rw[g.block k (gs h).1];exact h
theorem Ml:yN.length=33:=rfl
theorem afX:(prog.info? 262).map (·.size)=some 33:=al
theorem Tr.range (T:Tr w):w.rangeAt 7 0 yN:=fun j v hv=>by
 rw[arH];unfold yN at hv;rw[ar3]at hv;cases h:rf[j]? with
 |none=>rw[h]at hv;cases hv
 |some n=>
  rw[h]at hv;have e:Value.int i64 n=v:=by simpa using hv
  rw[<-e];exact T.rows j n h
theorem Xq (hj:j<11){f l k}(h:q9[j]?=some (f,l,k))(W):(Instr.index 262 (agg yN.toArray) (int i64 j)).run prog W=.ok (agg #[int i64 f,int i64 l,int i64 k]) W:=by
 have:j=0\/j=1\/j=2\/j=3\/j=4\/j=5\/j=6\/j=7\/j=8\/j=9\/j=10:=ab;rcases this with rfl|rfl|rfl|rfl|rfl|rfl|rfl|rfl|rfl|rfl|rfl <;>
  (injection h with h;injection h with h1 h;injection h with h2 h3;subst h1 h2 h3;rfl)
theorem QW (T:Tr w)(op d a b n):Calls prog 142 #[agg #[int i64 op,int i64 d,int i64 a,int i64 b,int .u32 n]] w fun e w'=>e=returned (.bool (eT ⟨op,d,a,b,n⟩))/\Gr w w':=by
 have HT:Hid (Tr w):=T;have HRg:Hid (∀x,(w.alloc x).rangeAt 7 0 yN):=fun x=>(T.of br).range
 have HX:Hid (∀j:Nat,j<11->∀f l k,q9[j]?=some (f,l,k)->∀W:World,_):=fun j hj f l k h W=>Xq hj h W
 have HL:=kH Ml;have HM:Hid (∀k,named op=k->0<=k->eT ⟨op,d,a,b,n⟩=mH k ⟨op,d,a,b,n⟩):=fun k h h0=>aca h h0
 have HN:Hid (named op<0->eT ⟨op,d,a,b,n⟩=false):=fun h=>WC h
 have Wi:Hid (∀(f l:Int) (W:World),_):=fun f l W=>aH op f l W
 have Fi:Hid (∀(K:Int),(K=0\/K=7\/K=8\/K=9\/K=10\/K=11\/K=14)->∀W:World,_):=fun K h W=>QK h op d a b n W
 generalize eT ⟨op,d,a,b,n⟩=OKB at *
 generalize yN=A at *
 clear T;go_enter func142,ntmps142;go_wp2_with (refine awU rfl 262 _ rfl 7 0 rfl A _ ?lm1 underlying262 rfl (by rw[HL.out];exact afX) ?_;(case lm1=>exact HRg _));go_loopw [6] (fun i wr=>∃j:Nat,j<=11/\i=int i64 j/\(∀t f l k,t<j->q9[t]?=some (f,l,k)->¬(f<=op/\op<=l))/\wr.heap[w.heap.size]?=some (.cells #[int i64 op,int i64 d,int i64 a,int i64 b,int .u32 n] 235 (0,0))/\Gr w wr) (fun i _=>11-(intOf i).toNat)
 case atStart=>exact⟨0,arQ _,rfl,fun t f l k h=>absurd h ab,awk w _,(Gr.refl _).alloc _⟩
 case round=>
  obtain⟨j,hj,rfl,hno,hB,G⟩:=hrel;have pM:=kH hno;have HB:=kH hB;have HG:=kH G;clear hno hB G;by_cases hlt:j<11
  ·obtain⟨f,l,k,hr,_,_,_,hk,hnm⟩:=ab9 hlt;have hx:=HX j hlt f l k hr;have Gw:Hid (¬(f<=op/\op<=l)->∀t f l k,t<j+1->q9[t]?=some (f,l,k)->¬(f<=op/\op<=l)):=fun h t f' l' k' ht hr'=>by
    by_cases e:t=j
    ·subst e;rw[hr]at hr';injection hr' with e1;injection e1 with e1 e2;injection e2 with e2 e3;subst e1 e2;exact h
    ·exact pM t f' l' k' ab hr'
   have HF:Hid (f<=op/\op<=l->_):=fun h=>HM k (hnm op h.1 h.2) ab
   have p0:wr.cell? ⟨w.heap.size,0,none⟩=some (int i64 op):=awl _ _ _ _ _ _ HB;have p1:wr.cell? ⟨w.heap.size,1,none⟩=some (int i64 d):=awl _ _ _ _ _ _ HB;have p2:wr.cell? ⟨w.heap.size,2,none⟩=some (int i64 a):=awl _ _ _ _ _ _ HB;have p3:wr.cell? ⟨w.heap.size,3,none⟩=some (int i64 b):=awl _ _ _ _ _ _ HB;have p4:wr.cell? ⟨w.heap.size,4,none⟩=some (int .u32 n):=awl _ _ _ _ _ _ HB;have hsz:w.heap.size<wr.heap.size:=(arz.1 HB).1;have HKv:Hid (k=0\/k=7\/k=8\/k=9\/k=10\/k=11\/k=14):=hk;clear hr hk hnm HX pM;by_cases c:f<=op/\op<=l
   ·have mP:Hid (OKB=mH k ⟨op,d,a,b,n⟩):=HF c;have Wi2:Hid (∀W:World,Calls prog 113 #[int i64 op,int i64 f,int i64 l] W fun e w'=>e=returned (.bool true)/\w'=W):=fun W=>by
     have:=Wi f l W;rwa[awC c]at this
    clear c HF Gw Wi;go_wp2_with fail;refine(Wi2 _).mono ?_;rintro e w1 ⟨rfl,rfl⟩;clear Wi2;go_wp2_with fail;refine(Fi k HKv _).mono ?_;rintro e w1 ⟨rfl,G1⟩;have aU:Hid (Gr w w1):=(HG.alloc _).trans G1;clear Fi G1 p0 p1 p2 p3 p4;go_wp2_with fail;go_ret;exact⟨nG mP.symm,aU⟩
   ·have ajt:Hid (∀t f l k,t<j+1->q9[t]?=some (f,l,k)->¬(f<=op/\op<=l)):=Gw c;have Wi2:Hid (∀W:World,Calls prog 113 #[int i64 op,int i64 f,int i64 l] W fun e w'=>e=returned (.bool false)/\w'=W):=fun W=>by
     have:=Wi f l W;rwa[awq c]at this
    clear c HF Gw Wi;go_wp2_with fail;refine(Wi2 _).mono ?_;rintro e w1 ⟨rfl,rfl⟩;clear Wi2;go_wp2_with fail;go_roundw
    case rel=>exact⟨j+1,ab,by go_num,ajt,QV br HB,HG.alloc _⟩
    case measure=>simp[intOf];omega
  ·have ej:j=11:=ab;have HE:Hid (OKB=false):=HN (Gl fun t f l k hr=>pM t f l k (by have:=(arw.1 hr).1;have:q9.length=11:=rfl;omega) hr);go_wp2_with fail;go_ret;exact⟨nG HE.symm,HG⟩
theorem QX (cap){code}(C:Cs w ao n code)(T:Tr w)(hn:n<=140737488351232):Calls prog 112 #[slice ao n cap] w fun e w'=>e=returned (.bool (pO code))/\Gr w w':=by
 have HL:=kH C.len;have HM:Hid (pO code=(decide (n<=200) && code.all eT)):=by unfold Hid pO;rw[HL.out]
 by_cases c2:200<n
 ·have HE:Hid (pO code=false):=by unfold Hid;rw[HM.out,awq ab];rfl
  go_enter func112,ntmps112;go_wp2;go_ret;exact⟨nG HE.symm,Gr.refl _⟩
 have LG:Hid (pO code=code.all eT):=by unfold Hid;rw[HM.out,awC ab];rfl
 have HC:=kH C;have HT:=kH T;go_enter func112,ntmps112;go_wp2;go_loopw [10] (fun i wr=>∃j:Nat,j<=n/\i=int i64 j/\(code.take j).all eT=true/\Gr w wr) (fun i _=>n-(intOf i).toNat)
 case atStart=>exact⟨0,arQ _,rfl,rfl,Gr.refl _⟩
 case round=>
  obtain⟨j,hj,rfl,hall,G⟩:=hrel;have HA:=kH hall;have HG:=kH G;by_cases hlt:j<n
  ·obtain⟨c,hc⟩:∃c,code[j]?=some c:=⟨_,arq (by rw[HL.out];exact hlt)⟩;obtain⟨b,o,rfl,hb,hcell⟩:=(HC.of HG).spot ab;obtain⟨p0,p1,p2,p3,p4⟩:=hcell j c hc;have Ma:Hid (∀W:World,Gr w W->_):=fun W G=>QW (HT.of G) c.op c.d c.a c.b c.n
   have pM:Hid (eT c=false->pO code=false):=fun h=>by rw[LG.out];exact zW hc h
   have aju:Hid (eT c=true->(code.take (j+1)).all eT=true):=fun h=>by rw[LJ _ _ _ _ hc,HA.out,h];rfl
   obtain⟨op,d,a,b2,nn⟩:=c;simp only at *
   generalize eT ⟨op,d,a,b2,nn⟩=OKB at *
   cases OKB with
   |false=>
    have ajv:=kH (pM rfl);go_wp2_with fail;refine(Ma _ (HG.alloc _)).mono ?_;rintro e w1 ⟨rfl,G1⟩;have aU:=kH ((HG.alloc _).trans G1);go_wp2_with fail;go_ret;exact⟨nG ajv.symm,aU⟩
   |true=>
    have NG:=kH (aju rfl);go_wp2_with fail;refine(Ma _ (HG.alloc _)).mono ?_;rintro e w1 ⟨rfl,G1⟩;have aU:=kH ((HG.alloc _).trans G1);go_wp2_with fail;go_roundw
    case rel=>exact⟨j+1,ab,by go_num,NG,aU⟩
    case measure=>simp[intOf];omega
  ·have ej:j=n:=ab;have HE:Hid (pO code=true):=by
    unfold Hid;rw[LG.out];have:=HA;rwa[ej,<-HL.out,ash]at this
   go_wp2_with fail;go_ret;exact⟨nG HE.symm,HG⟩
end Mp
namespace Mi
open Mm Hh Hc
end Mi
namespace Mi
open Mm Hh Hc
end Mi
namespace Mp
open Mm Hh Hc Mi
theorem acw (h)(M O S)(n)(h1:M.oneCell'=true)(h2:O.oneCell'=true)(h3:S.oneCell'=true):(gA h M O n S).all (·.oneCell')=true:=by refine aw0 ?_;intro v hv;simp only[gL,hL,ar7,arY,arG,arN,awQ]at hv;rcases hv with(⟨n,_,rfl⟩|rfl|rfl|rfl|rfl|rfl)|rfl|rfl|rfl|rfl<;>first|rfl|assumption
theorem afZ (T:Gc.Ts w w.heap.size)(G:Gr w w'):Gc.Ts w' w'.heap.size:=⟨fun i n e=>(G.cell _ (by exact T.b1)).trans (T.sizes i n e),arD T.b1 G.size⟩
theorem QY {h}{code}(o:h.Ok)(hs:h.state=0)(hl:l.length<=4096)(hn:∀i∈code,Hh.W i.n):(dI bf bt steps h l code).Ok:=by
 have G:=Gd.bF (steps:=steps) (Gd.start (bf:=bf) (bt:=bt) o hs hl) hn code.length;rw[ash]at G;unfold dI mend;split
 ·have:=W.lo ((bF bf bt steps (mstart h l) code).here+4);exact G.ok.hart (G.ok.h.go this.1 this.2)
 ·exact G.ok
end Mp
namespace Mp
open Mm Hh Hc Mi
theorem Xr (cap){code}(C:Cs w ao n code)(T:Tr w)(Ts:Gc.Ts w w.heap.size)(hn:n<=140737488351232)(hm:pO code=true){h}(o:h.Ok)(M:Mem w mo ml l)(hcap:mo=none->mc=0)(bf bt steps)(s0:0<=steps)(s1:steps<=400)(hh:may h=true)(hs:h.state=0)(nC:ml<=4096)(hmb:Hc.mb<=w.heap.size):Calls prog 86 #[slice ao n cap,agg (hA h),slice mo ml mc,agg #[int .u32 bf,int .u32 bt],int i64 steps] w fun e w'=>∃M O S,e=returned (tuple #[agg (gA (dI bf bt steps h l code).h M O (dI bf bt steps h l code).n S),.bool true])/\Dr w' (dI bf bt steps h l code) M O S/\Own w' Hc.mb M (dI bf bt steps h l code).m/\Gr w w':=by
 have M0:Hid (∀W:World,Gr w W->Calls prog 112 #[slice ao n cap] W fun e w'=>e=returned (.bool true)/\Gr W w'):=fun W G=>by rw[<-hm];exact QX cap (C.of G) (T.of G) hn
 have Wi:Hid (∀W:World,Calls prog 113 #[int i64 steps,int i64 0,int i64 400] W fun e w'=>e=returned (.bool true)/\w'=W):=fun W=>by
  have:=aH steps 0 400 W;rwa[awC ⟨s0,s1⟩]at this
 have hll:l.length<=4096:=by have:=M.len;omega
 have NR:Hid (∀W:World,Gr w W->Calls prog 114 #[agg (hA h),slice mo ml mc,agg #[int .u32 bf,int .u32 bt],int i64 steps] W fun e w'=>∃v,e=returned (tuple #[agg (Gc.cB ⟨h,v,ay,ay⟩ (nK (mstart h l) bf bt steps)),.bool true])/\Own w' Hc.mb v l/\Gr W w'):=fun W G=>by
  exact xI (PV:=fun W v=>Own W Hc.mb v l) o o l bf bt steps (fun _ _ v hv e=>hv.to e) (fun _ v hv=>hv.cells) (fun V GV=>(Df o (M.of (G.trans GV)) hcap nC hh hs).mono fun e w' ⟨v,e1,e2,e3⟩=>⟨v,e1,e2.base (w':=w') (arF hmb (arF G.size GV.size)),e3⟩)
 have Zn:Hid (Hc.mb<=w.heap.size):=hmb;have RN:Hid (∀(w0 X:World) (g:Nat),Gr w w0->Gr w0 X->Pr X w0.heap.size g (mstart h l) bf bt steps->Calls prog 115 #[pointer (some ⟨g,0,none⟩),slice ao n cap] X fun e w'=>e=returned (tuple #[])/\Pr w' w0.heap.size g (dI bf bt steps h l code) bf bt steps/\Gr w0 w'):=fun w0 X g G0 GX I=>AL cap (C.of G0) hm o hs hll (afZ Ts G0) I GX
 have BQ:Hid (dI bf bt steps h l code).Ok:=QY o hs hll C.wn;have HS:Hid ((hA h).size=37):=kE o;have HR1:Hid (∀v,(Gc.cB ⟨h,v,ay,ay⟩ (nK (mstart h l) bf bt steps)).size=49):=fun v=>by rw[AP o,ry rfl]
 have ZC:Hid (∀v:Value,v.oneCell'=true->(Gc.cB ⟨h,v,ay,ay⟩ (nK (mstart h l) bf bt steps)).all (·.oneCell')=true):=fun v hv=>QU _ _ _ _ _ hv rfl rfl
 have HOh:Hid h.Ok:=o;generalize hA h=H0 at *
 generalize dI bf bt steps h l code=r at *
 go_enter func86,ntmps86;go_wp2_with fail;refine(M0 _ ((br.alloc _).alloc _)).mono ?_;rintro e w1 ⟨rfl,G1⟩;obtain⟨b0,b1,b2⟩:=jV G1;have aU:=kH (((br.alloc _).alloc _).trans G1);have HBZ:Hid (∃Z:Array Value,Z.size=41/\w1.heap[w.heap.size+1+1]?=some (.cells Z 142 (0,0))):=⟨_,rfl,b2⟩;have HB1:=kH b0;have r0:w1.cell? ⟨w.heap.size+1,0,none⟩=some (int .u32 bf):=awl _ _ _ _ _ _ b1;have r1:w1.cell? ⟨w.heap.size+1,1,none⟩=some (int .u32 bt):=awl _ _ _ _ _ _ b1;obtain⟨Z,hz,hZ⟩:=HBZ;have HZ2:=kH hZ;have HZs:=kH hz;go_wp2_with fail;refine(Wi _).mono ?_;rintro e w' ⟨rfl,rfl⟩;go_wp2_with (refine aw6 rfl 43 _ rfl w.heap.size rfl 43 H0 (0,0) _ ?lh1 underlying43 rfl (by rw[HS.out];exact Mc.iH) ?_;(case lh1=>exact HB1));refine(NR _ aU).mono ?_;rintro e w2 ⟨v,rfl,hv,G2⟩;have HG2:=kH (aU.trans G2);have HR:=kH (HR1 v);have acv:=kH (ZC v hv.cells.2);have HZ3:=kH (Bk.dZ G2 HZ2);have HX:Hid (∀Y:Array Value,Gr w2 ((w2.alloc (.cells Y 206)).setRow w2.heap.size (Gc.cB ⟨h,v,ay,ay⟩ (nK (mstart h l) bf bt steps)))):=fun Y=>ag br (arA _) _
 have HP:Hid (∀Y:Array Value,Pr ((w2.alloc (.cells Y 206)).setRow w2.heap.size (Gc.cB ⟨h,v,ay,ay⟩ (nK (mstart h l) bf bt steps))) w2.heap.size w2.heap.size (mstart h l) bf bt steps):=fun Y=>by
  refine⟨⟨h,v,ay,ay⟩,rfl,⟨an,an,an,HOh,arA _,awJ _ _ _ _ _ (0,0) (awk w2 _),?_,arF Zn HG2.size,awG _ _ _ _,awG _ _ _ _⟩⟩;exact hv.to fun k c f hk=>(HX Y).block k (arz.1 hk).1
 generalize Gc.cB ⟨h,v,ay,ay⟩ (nK (mstart h l) bf bt steps)=R at *
 go_wp2_with (refine awx rfl 206 _ _ rfl w2.heap.size R rfl rfl 206 _ (awk w2 _) (by rw[HR.out];exact AQ) (by rw[HR.out];rfl) acv ?_);refine(RN w2 _ w2.heap.size HG2 (HX _) (HP _)).mono ?_;rintro e w3 ⟨rfl,I3,G3⟩;have eO:=kH (HG2.trans G3);have AU:=kH (Bk.dZ G3 HZ3);have k47:=I3.NJ BQ 3;obtain⟨c,hc,I⟩:=I3;obtain⟨ma,DU,hM,MM⟩:=I.mem.mem;obtain⟨oa,oc,hO,_⟩:=PW rfl I.out;obtain⟨sa,sc,hS⟩:=Bk.oK I.ax;have k37:w3.cell? ⟨w2.heap.size,37,none⟩=some (slice ma r.m.length DU):=by rw[<-hM];exact I.dQ 0
 have k38:w3.cell? ⟨w2.heap.size,38,none⟩=some (slice oa r.out.length oc):=by rw[<-hO];exact I.dQ 1
 have ND:w3.cell? ⟨w2.heap.size,39,none⟩=some (slice sa r.ax.length sc):=by rw[<-hS];exact I.dQ 2
 have HRg:Hid (w3.rangeAt w2.heap.size 0 (hL r.h)):=fun j u hj=>by
  have hj2:j<37:=by have:=(arw.1 hj).1;rwa[aF BQ.out.h]at this
  rw[arH,I.hcell hj2,hc];exact hj
 have HLn:=kH (aF BQ.h);have PZ:Hid (prog.built 142 [(0,agg (hL r.h).toArray),(1,slice ma r.m.length DU),(2,slice oa r.out.length oc),(3,int i64 r.n),(4,slice sa r.ax.length sc)]=some (gA r.h (slice ma r.m.length DU) (slice oa r.out.length oc) r.n (slice sa r.ax.length sc))):=qd BQ.h _ _ _ _ rfl rfl rfl;have HD:Hid (∀cs:Array Value,Dr (w3.setRow (w.heap.size+1+1) cs) r (slice ma r.m.length DU) (slice oa r.out.length oc) (slice sa r.ax.length sc)):=fun cs=>by
  have ne:∀{t:Nat},t≠142->∀{j:Nat} {o:Array Value} {f:Nat×Nat},w3.heap[j]?=some (.cells o t f)->(w3.setRow (w.heap.size+1+1) cs).heap[j]?=w3.heap[j]?:=fun ht _ _ _ hj=>awI _ _ _ _ (aa hj AU ht)
  obtain⟨yO,af0,hM',MM'⟩:=(I.mem.to fun k o f hk=>ne an hk).mem;refine⟨BQ,?_,⟨w2.heap.size,?_⟩,⟨w2.heap.size,?_⟩⟩
  ·rw[<-hM,hM'];exact⟨yO,af0,rfl,MM'⟩
  ·rw[<-hO];exact aj I.out fun j o f hj=>ne an hj
  ·rw[<-hS];exact aj I.ax fun j o f hj=>ne an hj
 have HDw:Hid (∀cs:Array Value,Own (w3.setRow (w.heap.size+1+1) cs) Hc.mb (slice ma r.m.length DU) r.m):=fun cs=>by
  rw[<-hM];exact I.mem.to fun k o f hk=>awI _ _ _ _ (aa hk AU an)
 have HDz:Hid ((gA r.h (slice ma r.m.length DU) (slice oa r.out.length oc) r.n (slice sa r.ax.length sc)).size=41):=Jh BQ.h _ _ _ _;have HDo:Hid ((gA r.h (slice ma r.m.length DU) (slice oa r.out.length oc) r.n (slice sa r.ax.length sc)).all (·.oneCell')=true):=acw _ _ _ _ _ rfl rfl rfl;generalize hD:gA r.h (slice ma r.m.length DU) (slice oa r.out.length oc) r.n (slice sa r.ax.length sc)=D at *
 have HDe:=kH hD;generalize hHl:hL r.h=HL at *
 generalize r.m.length=mn at *
 generalize r.out.length=on at *
 generalize r.ax.length=sn at *
 go_wp2_with (first
  |(refine awU rfl 43 _ rfl w2.heap.size 0 rfl HL _ ?lm1 underlying43 rfl (by rw[HLn.out];exact Mc.iH) ?_;(case lm1=>exact HRg))
  |(refine axt rfl 142 _ rfl _ rfl D (by have:=PZ;simp[Act.eval,Act.put];exact this) ?_)
  |(refine awx rfl 142 _ _ rfl (w.heap.size+1+1) D rfl rfl 142 Z ?sr1 (by rw[HDz.out];exact Mc.iQ) (by rw[HDz.out];exact HZs) HDo ?_;(case sr1=>exact AU)))
 refine awt (v:=tuple #[agg D,.bool true]) (Hr.aL results86 _ _ _ _ _ (0,0) _ _ rfl rfl (awJ _ _ _ _ _ (0,0) AU) underlying142 rfl (by rw[HDz.out];exact Mc.iQ)) rfl ⟨_,_,_,by rw[HDe.out],HD _,HDw _,?_⟩;exact ag eO ab _
end Mp
namespace En
open Mm Hh Hc Mc
theorem AV {d}{x}(D:Dq w b d x){z}(hz:w.heap[z]?=some (.cells Z 142 (0,0)))(cs):Dq (w.setRow z cs) b d x:=by
 have st:∀(k:Nat) (o:Array Value) (t:Nat) (f:Nat×Nat),t≠142->w.heap[k]?=some (.cells o t f)->(w.setRow z cs).heap[k]?=w.heap[k]?:=fun k o t f ht e=>awI _ _ _ _ (aa e hz ht)
 exact⟨D.hh,D.n,D.mem.to fun k o f e=>st k o _ f an e,aj D.out fun k o f e=>st k o _ f an e,aj D.ax fun k o f e=>st k o _ f an e⟩
theorem Ev.oth {lo}{room}{s}{L}(E:Ev lo w base g room s L pu sl mn){z t0:Nat}(hz:w.heap[z]?=some (.cells Z t0 f0))(ht0:t0≠94/\t0≠5/\t0≠43/\t0≠37/\t0≠64/\t0≠59/\t0≠235)(q:∀k,k≠z->w'.heap[k]?=w.heap[k]?):Ev lo w' base g room s L pu sl mn:=by
 obtain⟨M,gh,hc,O,a,n,cap,mb,D,E⟩:=E;obtain⟨t1,t2,t3,t4,t5,t6,t7⟩:=ht0;have st:∀(k:Nat) (o:Array Value) (t:Nat) (f:Nat×Nat),t0≠t->w.heap[k]?=some (.cells o t f)->w'.heap[k]?=w.heap[k]?:=fun k o t f ht e=>q k (aa e hz (Ne.symm ht))
 refine⟨M,gh,hc,O,a,n,cap,mb,D,⟨E.bw.t1,E.bw.t2,E.bw.t3,E.bw.bg,(st _ _ _ _ t1 E.bw.blk).trans E.bw.blk,E.bw.mem.to fun k o f e=>st k o _ f t2 e,E.bw.bh,E.bw.row.to fun k o f e=>st k o _ f t3 e,aj E.bw.out fun k o f e=>st k o _ f t4 e,⟨E.bw.hz.1.to fun k o f e=>st k o _ f t3 e,E.bw.hz.2⟩⟩,E.bt.to fun k o t f hk ht e=>st k o t f (by rcases ht with rfl|rfl<;>assumption) e,E.cap,E.bm,nH E.map (q _ (fun e=>?_)),fun b hb=>?_⟩
 ·obtain⟨es,clock,hb,_⟩:=E.map;rw[e,hz]at hb;cases hb
 ·obtain⟨ca,cn,cc,h1,h2⟩:=E.code b hb;exact⟨ca,cn,cc,h1,h2.to fun k o f e=>st k o _ f t7 e⟩
section
variable{room:Int}{s:Sh}{L L1:List Kc.Bv}
theorem DW (E:Ev 0 w base g room s L pu sl mn)(hcl:s.hs.length=c)(hk:k<c)(QZ){x x1}(cd)(BA:∀W,Gr w W->Calls prog 85 #[pointer (some ⟨g,0,none⟩),int .u32 (at' s k).pc] W fun e w'=>∃ba bc ca cn cc,e=returned (tuple #[agg #[int .u32 (at' s k).pc,slice ba QZ bc],slice ca cn cc])/\Ts.Ct w' ca cn cd/\Ev 0 w' base g room s L1 p1 sl m1/\Fm base W w')(BY:∀(W) (ba) (bc),Calls prog 87 #[agg #[int .u32 (at' s k).pc,slice ba QZ bc]] W fun e w'=>e=returned (agg #[int .u32 (at' s k).pc,int .u32 ((at' s k).pc+4*(QZ:Int))])/\Gr W w')(RN:∀(W) (ca) (cn cc) (ma) (mc),Below base w W->Mi.Cs W ca cn cd->Own W Hc.mb (slice ma s.m.length mc) s.m->Calls prog 86 #[slice ca cn cc,agg (hA (at' s k)),slice ma s.m.length mc,agg #[int .u32 (at' s k).pc,int .u32 ((at' s k).pc+4*(QZ:Int))],int i64 n] W fun e w'=>∃d,e=returned (tuple #[agg (qA d),.bool true])/\(Dq w' 0 d x/\d.h.Ok)/\Gr W w')(WK:x.n=0->∀W,Below base w W->Ev 0 W base g room s L1 p1 sl m1->Calls prog 83 #[pointer (some ⟨g,0,none⟩),agg #[int i64 k,int i64 1]] W fun e w'=>∃d,e=returned (agg (qA d))/\(Dq w' 0 d x1/\d.h.Ok)/\Gr W w'):Calls prog 57 #[pointer (some ⟨g,0,none⟩),agg #[int i64 k,int i64 n]] w fun e w'=>∃d,e=returned (agg (qA d))/\(Dq w' 0 d (if x.n=0 then x1 else x)/\d.h.Ok)/\Ev 0 w' base g room s L1 p1 sl m1/\Fm base w w':=by
 have HBA:=kH BA;have af1:=kH BY;have HRN:=kH RN;have HWK:=kH WK;obtain⟨M0,gh,hc,O0,a0,n0,cap0,mb0,D0,E0⟩:=E;have hl:k<s.hs.length:=by rw[hcl];exact hk
 have eh:s.hs[k]?=some (at' s k):=by unfold at';rw[arq hl];simp[List.getD,hl]
 have kS:=E0.bw.row.ok _ (arE eh);have RG:=kH (E0.bw.row.range eh);have K1:Hid (w.cell? ⟨g,1,none⟩=some (slice (some ⟨gh,0,none⟩) c hc)):=by have:=E0.bw.c1;rw[hcl]at this;exact this
 have qY:=kH (aF kS);have rO:Hid ((hL (at' s k)).toArray.size=37):=by unfold Hid;simp[qY.out]
 have HHO:=kH (rW (at' s k));have HPC:=kH (bu kS 0);have HHA:Hid (hA (at' s k)=(hL (at' s k)).toArray):=rfl;have hgl:=E0.bw.lt;have LD:gh<w.heap.size:=by obtain⟨_,e⟩:=E0.bw.row.row;exact(arz.1 e).1
 have hbl:=E0.az;have gH:Hid (∀W:World,Gr w W->W.heap[w.heap.size]?=some (.cells #[int i64 k,int i64 n] 45 (0,0))->(fun W=>W.cell? ⟨g,1,none⟩=some (slice (some ⟨gh,0,none⟩) c hc)/\W.cell? ⟨w.heap.size,0,none⟩=some (int i64 k)/\W.rangeAt gh (k*37) (hL (at' s k))) W):=fun W G e=>
  ⟨(G.cell _ (by exact hgl)).trans K1.out,awl _ _ _ _ _ _ e,fun j v hv=>(G.cell _ (by exact LD)).trans (RG.out j v hv)⟩
 clear BA BY RN WK E0 hcl eh kS hl K1 RG;generalize(at' s k).pc=pc at *
 generalize at' s k=h at *
 go_enter func57,ntmps57;go_wp2_with fail;refine awN (S:=fun W=>W.cell? ⟨g,1,none⟩=some (slice (some ⟨gh,0,none⟩) c hc)/\W.cell? ⟨w.heap.size,0,none⟩=some (int i64 k)/\W.rangeAt gh (k*37) (hL h)) al ?_ (fun hHeld=>?_)
 ·exact gH.out _ (br.alloc _).drew (Kc.bB (Gr.refl _).drew (axb w _ _))
 have bA:=kH hHeld;clear hHeld;refine tK 0 (pointer (some ⟨g,0,none⟩)) bA.out ?_;refine tK 1 (pointer (some ⟨g,0,none⟩)) bA.out ?_;refine tK 2 (pointer (some ⟨g,0,none⟩)) bA.out ?_;refine tK 3 (pointer (some ⟨g,0,none⟩)) bA.out ?_;refine tK 4 (pointer (some ⟨g,0,none⟩)) bA.out ?_;refine tK 5 (pointer (some ⟨g,1,none⟩)) bA.out ?_;refine tK 6 (slice (some ⟨gh,0,none⟩) c hc) bA.out ?_;refine tK 7 (pointer (some ⟨w.heap.size,0,none⟩)) bA.out ?_;refine tK 8 (int i64 k) bA.out ?_;refine tK 9 (pointer (some ⟨gh,k*37,none⟩)) bA.out ?_;refine aw1 (i:=10) (v:=agg (hL h).toArray) rfl al al al (fun _ _ _ h=>h) (aw9 (by rfl) 43 (tmp 19) rfl gh (k*37) aw (hL h) _ (fun W hW=>hW.2.2) underlying43 rfl (by rw[qY.out];exact iH)) bA.out ?_;simp only[arx,aru,arv,Act.put,arp,art,ars];refine aww (rs:=[11]) al aq ?_;refine awp rfl (fun K hK=>?_) awu;go_simp;refine hK.out _ _ ?_ (fun _=>?_)
 ·exact gH.out _ (jU _ _ _ _) (jN _ _ _ _ _)
 clear hK K bA;refine bD (i:=12) al rfl rfl 43 (tmp 5) (tmp 20) rfl (w.heap.size+2) (hL h).toArray aw aw 43 _ (oH _ _ _ _) (by rw[rO.out];exact iH) (by rw[rO.out];rfl) HHO.out ?_ ?_
 ·refine gH.out _ (ag (jU _ _ _ _) ab _) ?_;rw[awI _ _ _ _ ab];exact jN _ _ _ _ _
 refine awT al ?_ _;refine aK (fun W=>W.heap[w.heap.size]?=some (.cells #[int i64 k,int i64 n] 45 (0,0))/\(∃Z:Array Value,Z.size=41/\W.heap[w.heap.size+1]?=some (.cells Z 142 (0,0)))/\W.heap[w.heap.size+2]?=some (.cells (hL h).toArray 43 (0,0))/\Gr w W) ?_ ?_
 ·refine⟨?_,⟨qA ⟨h0,ay,ay,0,ay⟩,gq (d:=⟨h0,ay,ay,0,ay⟩) jA,?_⟩,awJ _ _ _ _ _ (0,0) (oH _ _ _ _),ag (jU _ _ _ _) ab _⟩
  ·rw[awI _ _ _ _ ab];exact jN _ _ _ _ _
  ·rw[awI _ _ _ _ ab];exact yz _ _ _ _ _
 rintro W ⟨KP,⟨Z,hZ,KD⟩,KH,GW⟩;have Uz:=kH KP;have HD1:=kH KD;have HH1:=kH KH;have BU:=kH GW;have HZ:=kH hZ;obtain⟨hb,hhb⟩:∃hb:Nat,hb=w.heap.size+2:=⟨_,rfl⟩;rw[<-hhb]at HH1 ⊢;have kpc:W.cell? ⟨hb,32,none⟩=some (int .u32 pc):=(awl _ _ _ _ _ _ HH1.out).trans (by rw[arB];exact HPC.out);clear KP KD KH GW hZ gH hhb;go_wp2_with fail;refine(HBA.out _ BU.out).mono ?_;rintro e w3 ⟨ba,bc,ca,cn,cc,rfl,C3,E3,F3⟩;have yx:=kH C3;have UD:=kH E3;have FU:=kH ((Fm.aJ BU.out hbl).trans F3);have NH:=kH (F3.row Uz.out an);have HD3:=kH (F3.row HD1.out an);have HH3:=kH (F3.row HH1.out an);clear C3 E3 F3 HBA Uz HD1 HH1 BU kpc;clear W;go_wp2_with fail;obtain⟨M,gh1,hc1,O1,a1,n1,aoj,mb1,D1,E4⟩:=UD.out;obtain⟨ma,mc,rfl, -⟩:=E4.bw.mem.mem;have UE:=kH E4;clear E4;generalize hw4:w3.alloc (.cells #[int .u32 pc,slice ba QZ bc] 64)=w4 at *
 have fM:Hid (Gr w3 w4):=by rw[<-hw4];exact(Gr.refl w3).alloc _
 have uC:Hid (w4.heap[w3.heap.size]?=some (.cells #[int .u32 pc,slice ba QZ bc] 64 (0,0))):=by rw[<-hw4];exact awk w3 _
 clear hw4;have hlt3:=(arz.1 HD3.out).1;have HS:Hid (∀W:World,Gr w4 W->(fun W=>W.rangeAt hb 0 (hL h)/\W.cell? ⟨g,0,none⟩=some (slice ma s.m.length mc)/\W.cell? ⟨w3.heap.size,0,none⟩=some (int .u32 pc)/\W.cell? ⟨w3.heap.size,1,none⟩=some (slice ba QZ bc)/\W.cell? ⟨w.heap.size,1,none⟩=some (int i64 n)) W):=fun W G=>by
  have GA:=fM.out.trans G;have X:=UE.out.of GA;have e1:=Kc.bB GA HH3.out;have e2:=Kc.bB G uC.out;have e3:=Kc.bB GA NH.out;refine⟨fun j v hv=>?_,X.bw.c0,awl _ _ _ _ _ _ e2,awl _ _ _ _ _ _ e2,awl _ _ _ _ _ _ e3⟩;rw[arH,awl _ _ _ _ _ _ e1,arB];exact hv
 have HBy:Hid (∀W:World,_):=fun W=>af1.out W ba bc
 have Xt:Hid (∀W:World,Gr w4 W->Calls prog 86 #[slice ca cn cc,agg (hL h).toArray,slice ma s.m.length mc,agg #[int .u32 pc,int .u32 (pc+4*(QZ:Int))],int i64 n] W fun e w'=>∃d,e=returned (tuple #[agg (qA d),.bool true])/\(Dq w' 0 d x/\d.h.Ok)/\Gr W w'):=fun W G=>by
  have GA:=fM.out.trans G;have:=HRN.out W ca cn cc ma mc (FU.out.below.trans (awH GA (arF hbl ab))) (yx.out.of GA).cs (iO UE.out.bw.mem GA);rw[HHA.out]at this;exact this
 clear af1 HRN yx;generalize s.m.length=mln at *
 generalize pc+4*(QZ:Int)=pt at *
 apply Kc.share
 ·intro jW;refine awN (S:=fun W=>W.rangeAt hb 0 (hL h)/\W.cell? ⟨g,0,none⟩=some (slice ma mln mc)/\W.cell? ⟨w3.heap.size,0,none⟩=some (int .u32 pc)/\W.cell? ⟨w3.heap.size,1,none⟩=some (slice ba QZ bc)/\W.cell? ⟨w.heap.size,1,none⟩=some (int i64 n)) al ?_ (fun hHeld=>?_)
  ·exact HS.out _ (Gr.refl _).drew
  have bA:=kH hHeld;clear hHeld;refine tK 0 (slice ca cn cc) bA.out ?_;refine aw1 (i:=1) (v:=agg (hL h).toArray) rfl al al al (fun _ _ _ h=>h) (aw9 (by rfl) 43 (tmp 5) rfl hb 0 aw (hL h) _ (fun W hW=>hW.1) underlying43 rfl (by rw[qY.out];exact iH)) bA.out ?_;simp only[arx,aru,arv,Act.put,arp,art,ars];refine tK 2 (pointer (some ⟨g,0,none⟩)) bA.out ?_;refine tK 3 (pointer (some ⟨g,0,none⟩)) bA.out ?_;refine tK 4 (pointer (some ⟨g,0,none⟩)) bA.out ?_;refine tK 5 (pointer (some ⟨g,0,none⟩)) bA.out ?_;refine tK 6 (pointer (some ⟨g,0,none⟩)) bA.out ?_;refine tK 7 (pointer (some ⟨g,0,none⟩)) bA.out ?_;refine tK 8 (slice ma mln mc) bA.out ?_;refine tK 9 (agg #[int .u32 pc,slice ba QZ bc]) bA.out ?_;refine tK 11 (pointer (some ⟨w.heap.size,1,none⟩)) bA.out ?_;refine tK 12 (int i64 n) bA.out ?_;refine aww (rs:=[10,17]) al aq ?_;refine awp rfl (fun K hK=>?cf) (awp rfl (fun K hK=>?af) awu)
  case cf=>
   go_simp;refine(HBy.out _).mono ?_;rintro e wb ⟨rfl,Gb⟩;have EN:=kH (Gr.trans ((Gr.refl _).drew) Gb);clear Gb;refine hK.out _ _ (HS.out _ EN.out) (fun hx=>?_);clear hK K hx;refine aww (rs:=[13,17]) al aq ?_;refine awp rfl (fun K hK=>?cf2) (awp rfl (fun K hK=>?af2) awu)
   case cf2=>
    go_simp;refine(Xt.out _ (EN.out)).mono ?_;rintro e wd ⟨d,rfl,DD,Gd⟩;have Q7:=kH DD;have gV:=kH (Gr.trans (EN.out) Gd);have rP:=kH (gq DD.2);have EO:=kH (ny DD.1.mem.cells.2 (au DD.1.out).2.1 (au DD.1.ax).2.1);clear DD;refine hK.out _ _ (HS.out _ gV.out) (fun hx=>?_);clear hK K hx;clear Gd;have gH:Hid _:=HS.out _ gV.out;refine tK 14 (tuple #[agg (qA d),.bool true]) gH.out ?_;refine tK 15 (agg (qA d)) gH.out ?_;refine tK 16 (.bool true) gH.out ?_;refine aww (rs:=[17]) al aq ?_;refine awp rfl (fun K hK=>?_) awu;go_simp;refine hK.out _ _ (HS.out _ (gV.out.alloc _)) (fun hx=>?_);clear hK K hx;refine bD (i:=18) al rfl rfl 142 (tmp 8) (tmp 43) rfl wd.heap.size (qA d) aw aw 142 _ (awk wd _) (by rw[rP.out];exact iQ) (by rw[rP.out];rfl) EO.out ?_ ?_
    ·exact HS.out _ (ag (gV.out.alloc _) gV.out.size _)
    refine tK 19 (.bool true) (HS.out _ (ag (gV.out.alloc _) gV.out.size _)) ?_;refine awT al ?_ _;refine aK (fun W=>W.heap[wd.heap.size]?=some (.cells (qA d) 142 (0,0))/\(Dq W 0 d x/\d.h.Ok)/\Gr w4 W) ⟨awJ _ _ _ _ _ (0,0) (awk wd _),⟨Q7.out.1.gr (ag br (arA _) _),Q7.out.2⟩,ag (gV.out.alloc _) gV.out.size _⟩ ?_;obtain⟨o,ho⟩:∃o:Nat,o=wd.heap.size:=⟨_,rfl⟩;rw[<-ho];clear ho Q7 gH gV rP EO EN ;clear wd;clear wb
    revert o d
    exact jW.out
   case af2=>
    go_simp;refine hK.out _ _ (HS.out _ (EN.out.alloc _)) (fun hx=>?_);clear hK K hx;refine aww (rs:=[13]) al aq ?_;refine awp rfl (fun K hK=>?_) awu;go_simp;refine(Xt.out _ (EN.out.alloc _)).mono ?_;rintro e wd ⟨d,rfl,DD,Gd⟩;have Q7:=kH DD;have gV:=kH (Gr.trans (EN.out.alloc _) Gd);have rP:=kH (gq DD.2);have EO:=kH (ny DD.1.mem.cells.2 (au DD.1.out).2.1 (au DD.1.ax).2.1);clear DD;have uR:=kH (Kc.bB Gd (awk wb _));clear Gd;refine hK.out _ _ (HS.out _ gV.out) (fun hx=>?_);clear hK K hx;have gH:Hid _:=HS.out _ gV.out;refine tK 14 (tuple #[agg (qA d),.bool true]) gH.out ?_;refine tK 15 (agg (qA d)) gH.out ?_;refine tK 16 (.bool true) gH.out ?_;refine bD (i:=18) al rfl rfl 142 (tmp 8) (tmp 43) rfl wb.heap.size (qA d) aw aw 142 _ uR.out (by rw[rP.out];exact iQ) (by rw[rP.out];rfl) EO.out ?_ ?_
    ·exact HS.out _ (ag gV.out EN.out.size _)
    refine tK 19 (.bool true) (HS.out _ (ag gV.out EN.out.size _)) ?_;refine awT al ?_ _;refine aK (fun W=>W.heap[wb.heap.size]?=some (.cells (qA d) 142 (0,0))/\(Dq W 0 d x/\d.h.Ok)/\Gr w4 W) ⟨awJ _ _ _ _ _ (0,0) uR.out,⟨AV Q7.out.1 uR.out _,Q7.out.2⟩,ag gV.out EN.out.size _⟩ ?_;obtain⟨o,ho⟩:∃o:Nat,o=wb.heap.size:=⟨_,rfl⟩;rw[<-ho];clear ho Q7 gH gV rP EO EN uR;clear wd;clear wb
    revert o d
    exact jW.out
  case af=>
   go_simp;refine hK.out _ _ (HS.out _ br.drew) (fun hx=>?_);clear hK K hx;refine aww (rs:=[10]) al aq ?_;refine awp rfl (fun K hK=>?_) awu;go_simp;refine(HBy.out _).mono ?_;rintro e wb ⟨rfl,Gb⟩;have EN:=kH (Gr.trans (br.drew) Gb);have HNb:=kH (Kc.bB Gb (Kc.bB (Gr.refl _).drew (awk w4 _)));clear Gb;refine hK.out _ _ (HS.out _ EN.out) (fun hx=>?_);clear hK K hx;refine aww (rs:=[13]) al aq ?_;refine awp rfl (fun K hK=>?_) awu;go_simp;refine(Xt.out _ (EN.out)).mono ?_;rintro e wd ⟨d,rfl,DD,Gd⟩;have Q7:=kH DD;have gV:=kH (Gr.trans (EN.out) Gd);have rP:=kH (gq DD.2);have EO:=kH (ny DD.1.mem.cells.2 (au DD.1.out).2.1 (au DD.1.ax).2.1);clear DD;have uR:=kH (Kc.bB Gd HNb.out);clear Gd;refine hK.out _ _ (HS.out _ gV.out) (fun hx=>?_);clear hK K hx;have gH:Hid _:=HS.out _ gV.out;refine tK 14 (tuple #[agg (qA d),.bool true]) gH.out ?_;refine tK 15 (agg (qA d)) gH.out ?_;refine tK 16 (.bool true) gH.out ?_;refine bD (i:=18) al rfl rfl 142 (tmp 8) (tmp 43) rfl w4.heap.size (qA d) aw aw 142 _ uR.out (by rw[rP.out];exact iQ) (by rw[rP.out];rfl) EO.out ?_ ?_
   ·exact HS.out _ (ag gV.out (arA _) _)
   refine tK 19 (.bool true) (HS.out _ (ag gV.out (arA _) _)) ?_;refine awT al ?_ _;refine aK (fun W=>W.heap[w4.heap.size]?=some (.cells (qA d) 142 (0,0))/\(Dq W 0 d x/\d.h.Ok)/\Gr w4 W) ⟨awJ _ _ _ _ _ (0,0) uR.out,⟨AV Q7.out.1 uR.out _,Q7.out.2⟩,ag gV.out (arA _) _⟩ ?_;obtain⟨o,ho⟩:∃o:Nat,o=w4.heap.size:=⟨_,rfl⟩;rw[<-ho];clear ho Q7 gH gV rP EO EN uR HNb;clear wd;clear wb
   revert o d
   exact jW.out
 ·intro d o W ⟨KO,KQ,GW⟩;have HQ:=kH KQ;have kg:=kH (fM.out.trans GW);have HO5:=kH KO;have UB:=kH (Kc.bB kg.out NH.out);have HD5:=kH (Kc.bB kg.out HD3.out);have Jj:=kH (UD.out.of kg.out);have Jb:=kH (FU.out.trans (Fm.aJ kg.out (arF hbl ab)));have ND:W.cell? ⟨o,39,none⟩=some (int i64 x.n):=(awl _ _ _ _ _ _ KO).trans (by rw[jT KQ.2 2];simp[KQ.1.n]);clear KO KQ GW HS HBy Xt UE UD uC NH HD3 HH3 fM kg FU hlt3;clear w4;by_cases hx0:x.n=0
  ·rw[hx0]at ND;have HX0:=kH hx0;have HW5:Hid (∀V:World,Gr W V->_):=fun V G=>HWK.out hx0 V (Jb.out.below.trans (awH G (arF hbl (by have:=(arz.1 HD5.out).1;omega)))) (Jj.out.of G)
   have uh:Hid (∀V:World,Gr W V->V.cell? ⟨w.heap.size,0,none⟩=some (int i64 k)):=fun V G=>awl _ _ _ _ _ _ (Kc.bB G UB.out)
   clear hx0 HWK;go_wp2_with fail;refine awN (S:=fun W=>W.cell? ⟨w.heap.size,0,none⟩=some (int i64 k)) al ?_ (fun hHeld=>?_)
   ·exact uh.out _ (Gr.refl _).drew
   have bA:=kH hHeld;clear hHeld;refine tK 0 (pointer (some ⟨g,0,none⟩)) bA.out ?_;refine tK 1 (pointer (some ⟨g,0,none⟩)) bA.out ?_;refine tK 2 (pointer (some ⟨g,0,none⟩)) bA.out ?_;refine tK 3 (pointer (some ⟨w.heap.size,0,none⟩)) bA.out ?_;refine tK 4 (int i64 k) bA.out ?_;refine tK 5 (agg #[int i64 k,int i64 1]) bA.out ?_;refine aww (rs:=[6]) al aq ?_;refine awp rfl (fun K hK=>?_) awu;go_simp;refine(HW5.out _ (Gr.refl _).drew).mono ?_;rintro e w6 ⟨d6,rfl,Q6,G6⟩;have HQ6:=kH Q6;have nL:Hid (Gr W w6):=(Gr.refl _).drew.trans G6;have rP:=kH (gq Q6.2);have EO:=kH (ny Q6.1.mem.cells.2 (au Q6.1.out).2.1 (au Q6.1.ax).2.1);have HD6:=kH (Kc.bB nL.out HD5.out);have HP6:=kH (Kc.bB nL.out UB.out);clear Q6 G6;refine hK.out _ _ (uh.out _ nL.out) (fun hx=>?_);clear hK K hx;refine bD (i:=7) al rfl rfl 142 (tmp 4) (tmp 58) rfl (w.heap.size+1) (qA d6) aw aw 142 Z HD6.out (by rw[rP.out];exact iQ) (by rw[rP.out];exact HZ.out) EO.out ?_ ?_
   ·exact awl _ _ _ _ _ _ ((awI _ _ _ _ ab).trans HP6.out)
   refine awT al ?_ _;go_wp2_with fail;refine awt (v:=agg (qA d6)) (awZ rfl _ _ _ _ _ (0,0) _ rfl (awJ _ _ _ _ _ (0,0) HD6.out) underlying142 rfl (by rw[rP.out];exact iQ)) rfl ⟨d6,rfl,⟨?_,HQ6.out.2⟩,?_,?_⟩
   ·exact AV HQ6.out.1 HD6.out _
   ·exact(Jj.out.of nL.out).oth HD6.out an fun k hk=>awI _ _ _ _ hk
   ·exact(Jb.out.trans (Fm.aJ nL.out (arF hbl (by have:=(arz.1 HD5.out).1;omega)))).setRow ab ab _
  ·have hx2:((x.n:Int) ==0)=false:=by simp;omega
   have HX0:=kH hx0;have rP:=kH (gq HQ.out.2);have EO:=kH (ny HQ.out.1.mem.cells.2 (au HQ.out.1.out).2.1 (au HQ.out.1.ax).2.1);clear hx0 HWK;generalize hQA:qA d=QA at *
   have HQA:Hid (qA d=QA):=hQA;clear hQA
   go_wp2_with (first
    |(refine aw6 rfl 142 _ rfl o rfl 142 QA (0,0) _ ?ll1 underlying142 rfl (by rw[rP.out];exact iQ) ?_;(case ll1=>exact HO5.out))
    |(refine awx rfl 142 _ _ rfl (w.heap.size+1) QA rfl rfl 142 Z ?ss1 (by rw[rP.out];exact iQ) (by rw[rP.out];exact HZ.out) EO.out ?_;(case ss1=>exact HD5.out)))
   refine awt (v:=agg QA) (awZ rfl _ _ _ _ _ (0,0) _ rfl (awJ _ _ _ _ _ (0,0) HD5.out) underlying142 rfl (by rw[rP.out];exact iQ)) rfl ⟨d,by rw[HQA.out],⟨?_,HQ.out.2⟩,?_,?_⟩
   ·exact AV HQ.out.1 HD5.out _
   ·exact Jj.out.oth HD5.out an fun k hk=>awI _ _ _ _ hk
   ·exact Jb.out.setRow ab ab _
end
end En
namespace En
open Mm Hh Hc Mc
structure oZ (b:Nat) (w:World):Prop where
 tt:TT w b
 tr:Mp.Tr w
 trb:7<b
 ts:Gc.Ts w b
 tq:Ts.Tq w
 tqb:6<b
theorem oZ.below (T :oZ b w) (h :Below b w w') :oZ b w' :=
  ⟨⟨⟨fun i n e => (aw4 h (by exact T.tt.b1)).trans (T.tt.tab.shapes i n e), fun i n e => (aw4 h (by exact T.tt.b2)).trans (T.tt.tab.uppers i n e)⟩, ⟨fun i n e => (aw4 h (by exact T.tt.tb.b1)).trans (T.tt.tb.sizes i n e), fun i n e => (aw4 h (by exact T.tt.tb.b2)).trans (T.tt.tb.opers i n e), T.tt.tb.b1, T.tt.tb.b2⟩, T.tt.b1, T.tt.b2⟩,
   ⟨fun i n e => (aw4 h (by exact T.trb)).trans (T.tr.rows i n e), arD T.tr.b h.size⟩, T.trb, Gc.pg T.ts h, fun k n e => (aw4 h (by exact T.tqb)).trans (T.tq k n e), T.tqb⟩
theorem oZ.tt' (T:oZ b w)(h:b<=w.heap.size):TT w w.heap.size:=⟨T.tt.tab,⟨T.tt.tb.sizes,T.tt.tb.opers,arD T.tt.tb.b1 h,arD T.tt.tb.b2 h⟩,arD T.tt.b1 h,arD T.tt.b2 h⟩
theorem oZ.ts' (T:oZ b w)(h:b<=w.heap.size):Gc.Ts w w.heap.size:=⟨T.ts.sizes,arD T.ts.b1 h⟩
theorem Q9 {a}(h:Own w Hc.mb (slice a n c) l):a=none->c=0:=by
 intro e;subst e;rcases h with⟨h0,_⟩|⟨g,cap,hv,_⟩
 ·injection h0
 ·injection hv with h1;cases h1
theorem acx {cn cc}{cd}(C:Mi.Cs w ca cn cd)(T:oZ b w)(hb:b<=w.heap.size)(hl:cd.length<=1000)(hm:Mi.pO cd=true){h}(o:h.Ok)(M:Own w Hc.mb (slice ma l.length mc) l)(nC:l.length<=4096)(bf bt)(hn:n<=400)(hh:may h=true)(hs:h.state=0)(hmb:Hc.mb<=w.heap.size):Calls prog 86 #[slice ca cn cc,agg (hA h),slice ma l.length mc,agg #[int .u32 bf,int .u32 bt],int i64 n] w fun e w'=>∃d,e=returned (tuple #[agg (qA d),.bool true])/\(Dq w' 0 d (FE (Mi.dI bf bt n h l cd))/\d.h.Ok)/\Gr w w':=by
 obtain⟨yO,mc',hM,MM⟩:=M.mem;injection hM with h1 h2 h3;subst h1 h3;have hcn:=C.len;refine(Mp.Xr cc C T.tr (T.ts' hb) ab hm o MM (Q9 M) bf bt n ab ab hh hs nC hmb).mono ?_;rintro e w' ⟨M2,O2,S2,rfl,D2,W2,G2⟩;refine⟨⟨(Mi.dI bf bt n h l cd).h,M2,O2,(Mi.dI bf bt n h l cd).n,S2⟩,rfl,⟨⟨rfl,rfl,W2,?_,?_⟩,D2.ok.h⟩,G2⟩
 ·obtain⟨b1,h⟩:=D2.out;exact Bk.lQ h (arQ _)
 ·obtain⟨b1,h⟩:=D2.ax;exact Bk.lQ h (arQ _)
theorem acy {d}{x}(D:Dq w b d x):Dq w 0 d x:=⟨D.hh,D.n,D.mem,Bk.lQ D.out (arQ _),Bk.lQ D.ax (arQ _)⟩
theorem Xu (h0:0<=pc)(h1:pc<4294967296)(hz:(Bk.blk l pc 16 0).length=0):¬Bk.kJ l pc=0:=by
 intro e;have ha:Bk.at4 pc 0=pc:=by unfold Bk.at4 Wd.lo;omega
 rw[Bk.blk,ha,awn e]at hz;simp at hz
section
variable{room:Int}{s:Sh}{L L1:List Kc.Bv}
theorem ui (E:Ev 0 w base g room s L pu sl mn)(T:oZ b w)(hbb:b≤base)(F:Fit s c ml)(nC:ml≤4096)(hc4:c≤4)(hk:k<c)(hn:n≤400)(hst:(at' s k).state=0)(is)(hfit:(at' s k).pc+4*(is.length:Int)≤4294967295)(h16:is.length≤16)(hlen:(Ts.aY (at' s k).pc is 0).length≤1000)(AO:Mi.pO (Ts.aY (at' s k).pc is 0)=true)(hf:(FE (Mi.dI (at' s k).pc ((at' s k).pc+4*(is.length:Int)) n (at' s k) s.m (Ts.aY (at' s k).pc is 0))).n=0→¬Bk.kJ s.m (at' s k).pc=0)(BA:∀W,Gr w W->Calls prog 85 #[pointer (some ⟨g,0,none⟩),int .u32 (at' s k).pc] W fun e w'=>∃ba bc ca cn cc,e=returned (tuple #[agg #[int .u32 (at' s k).pc,slice ba is.length bc],slice ca cn cc])/\Ts.Ct w' ca cn (Ts.aY (at' s k).pc is 0)/\Ev 0 w' base g room s L1 p1 sl m1/\Fm base W w'):Calls prog 57 #[pointer (some ⟨g,0,none⟩),agg #[int i64 k,int i64 n]] w fun e w'=>∃d,e=returned (agg (qA d))/\(Dq w' 0 d (if(FE (Mi.dI (at' s k).pc ((at' s k).pc+4*(is.length:Int)) n (at' s k) s.m (Ts.aY (at' s k).pc is 0))).n=0 then wk (w0 s k) 1 else FE (Mi.dI (at' s k).pc ((at' s k).pc+4*(is.length:Int)) n (at' s k) s.m (Ts.aY (at' s k).pc is 0)))/\d.h.Ok)/\Ev 0 w' base g room s L1 p1 sl m1/\Fm base w w':=by
 have W0:=qV F hk;have kS:(at' s k).Ok:=W0.ok;have hmy:may (at' s k)=true:=W0.may;have hbs:base<=w.heap.size:=by
  obtain⟨_,_,_,_,_,_,_,_,_,E⟩:=E;exact E.az
 have ajD:Hc.mb<=base:=by
  obtain⟨_,_,_,_,_,_,_,_,_,E⟩:=E;exact E.bw.hz.2
 have hmm:s.m.length<=4096:=by have:=F.mem;omega
 refine DW E F.len hk is.length (x1:=wk (w0 s k) 1) _ BA (fun W ba bc=>?_) (fun W ca cn cc ma mc hB C M=>?_) (fun hx W hB EW=>?_)
 ·have:=Kc.yc W ⟨kS.oW,kS.gP⟩ ba (n:=is.length) ab bc;have e:min ((at' s k).pc+4*(is.length:Int)) 4294967295=(at' s k).pc+4*(is.length:Int):=by rw[Int.min_def,awn hfit]
  rw[e]at this;exact this
 ·exact acx C (T.below (awH hB hbb)) (arF hbb (arF hbs hB.size)) hlen AO kS M hmm _ _ hn hmy hst (arF ajD (arF hbs hB.size))
 ·obtain⟨M,gh,hc,O,a,n',cap,mb,D,EW⟩:=EW;refine(LF EW.bw F nC ((T.below (awH hB hbb)).tt' (arF hbb (arF hbs hB.size))) hk hc4 (hf hx)).mono ?_;rintro e w' ⟨d,rfl,o,Dd,G⟩;exact⟨d,rfl,⟨acy Dd,o⟩,G⟩
theorem DX (E:Ev 0 w base g room s L pu sl mn)(K:Ek room s.m L pu sl mn)(T:oZ b w)(hbb:b<=base)(F:Fit s c ml)(nC:ml<=4096)(hc4:c<=4)(hr0:0<=room)(hr1:room<=64)(ni:mn<=1000000)(hk:k<c)(hn0:0<n)(hn:n<=400)(hst:(at' s k).state=0):Calls prog 57 #[pointer (some ⟨g,0,none⟩),agg #[int i64 k,int i64 n]] w fun e w'=>∃(d:Qv) (cN:Nat) (L1:List Kc.Bv) (p1:Int) (m1:Nat),e=returned (agg (qA d))/\(Dq w' 0 d (wk (w0 s k) cN)/\d.h.Ok)/\((wk (w0 s k) cN).n=cN/\0<cN/\cN<=n)/\Ev 0 w' base g room s L1 p1 sl m1/\Ek room s.m L1 p1 sl m1/\(mn<=m1/\m1<=mn+1/\(L=[]->0<(Bk.blk s.m (at' s k).pc 16 0).length->mn<m1))/\Fm base w w':=by
 have W0:=qV F hk;have kS:(at' s k).Ok:=W0.ok;have hmy:=W0.may;have hmm:s.m.length<=4096:=by have:=F.mem;omega
 have hkl:k<s.hs.length:=by rw[F.len];exact hk
 have hbs:base<=w.heap.size:=by
  obtain⟨_,_,_,_,_,_,_,_,_,E⟩:=E;exact E.az
 have hL:=K.same hr1
 -- a fresh block
 have fr:∀(B:Kc.Bv) (L1:List Kc.Bv) (p1:Int) (m1:Nat),eD s.m B->B.pc=(at' s k).pc->Ek room s.m L1 p1 sl m1->(mn<=m1/\m1<=mn+1/\(L=[]->0<(Bk.blk s.m (at' s k).pc 16 0).length->mn<m1))->(∀W:World,Gr w W->Calls prog 85 #[pointer (some ⟨g,0,none⟩),int .u32 (at' s k).pc] W fun e w'=>∃ba bc ca cn cc,e=returned (tuple #[agg #[int .u32 (at' s k).pc,slice ba B.is.length bc],slice ca cn cc])/\Ts.Ct w' ca cn (Ts.aY (at' s k).pc B.is 0)/\Ev 0 w' base g room s L1 p1 sl m1/\Fm base W w')->
   Calls prog 57 #[pointer (some ⟨g,0,none⟩),agg #[int i64 k,int i64 n]] w fun e w'=>∃(d:Qv) (cN:Nat) (L1:List Kc.Bv) (p1:Int) (m1:Nat),e=returned (agg (qA d))/\(Dq w' 0 d (wk (w0 s k) cN)/\d.h.Ok)/\((wk (w0 s k) cN).n=cN/\0<cN/\cN<=n)/\Ev 0 w' base g room s L1 p1 sl m1/\Ek room s.m L1 p1 sl m1/\(mn<=m1/\m1<=mn+1/\(L=[]->0<(Bk.blk s.m (at' s k).pc 16 0).length->mn<m1))/\Fm base w w':=by
  intro B L1 p1 m1 FB hp K1 hm1 BA;obtain⟨c0,h1,h2,h3,h4,h5,_⟩:=Lh hkl FB hmm kS hmy hst hp.symm (steps:=n) ab;have hfit:=(pX FB hmm).fit;have hln:=(Ts.jR B.pc B.is 0 (CZ FB)).2;have h16:=FB.len;rw[hp]at h4 h5 hfit hln;have hne:¬(FE (Mi.dI (at' s k).pc ((at' s k).pc+4*(B.is.length:Int)) n (at' s k) s.m (Ts.aY (at' s k).pc B.is 0))).n=0:=by
   show¬(Mi.dI (at' s k).pc ((at' s k).pc+4*(B.is.length:Int)) n (at' s k) s.m (Ts.aY (at' s k).pc B.is 0)).n=0
   rw[h4];omega
  refine(ui E T hbb F nC hc4 hk hn hst B.is ab h16 ab (by have:=Lg FB;rwa[hp]at this) (fun e=>absurd e hne) BA).mono ?_;rintro e w' ⟨d,rfl,hd,E',F'⟩;rw[awm hne,h5]at hd;have hN:(wk (w0 s k) c0).n=c0:=by rw[<-h5];exact h4
  exact⟨d,c0,L1,p1,m1,rfl,hd,⟨hN,h1,ab⟩,E',K1,hm1,F'⟩
 obtain⟨M,gh,hc,O,a,n',cap,mb,D,EW⟩:=id E;have hn':n'<=64:=by have:=EW.bt.bs.len;omega
 have Xv:∀W:World,Gr w W->Dw.oV W/\Ts.Tq W:=fun W G=>⟨(T.below (awH G (arF hbb hbs))).tt.tab,(T.below (awH G (arF hbb hbs))).tq⟩
 by_cases hp:0<=Kc.place (at' s k).pc L 0
 ·obtain⟨hm,hpc,FB⟩:=K.found hp;refine fr (Kc.x9 (at' s k).pc L) L pu mn FB hpc K ⟨arA _,asA _,fun e=>?_⟩ fun W G=>?_
  ·subst e;exact absurd hm aq
  ·refine(DL (EW.of G) ab kS.oW kS.gP hp hm hpc).mono ?_;rintro e w' ⟨ba,bc,ca,cn,cc,rfl,C,G'⟩;exact⟨ba,bc,ca,cn,cc,rfl,C,E.of (G.trans G'),Fm.aJ G' (arF hbs G.size)⟩
 ·have hp1:Kc.place (at' s k).pc L 0 = -1:=by
   rcases Kc.gQ (at' s k).pc L 0 with h|⟨j,x,h,_⟩
   ·exact h
   ·omega
  by_cases hz:(Bk.blk s.m (at' s k).pc 16 0).length=0
  ·refine(ui (L1:=L) (p1:=pu) (m1:=mn) E T hbb F nC hc4 hk hn hst [] (by have:=kS.gP;simp;omega) aq (by simp[Ts.aY]) rfl (fun _=>Xu kS.oW kS.gP hz) (fun W G=>?_)).mono ?_
   ·refine(wH (EW.of G) ab hL hr0 hr1 ni kS.oW kS.gP hp1 hmm (Xv W G).1 (Xv W G).2).mono ?_;rintro e w' ⟨ba,bc,ca,cn,cc,rfl,C,E0,_,F'⟩;have hx:Bk.blk s.m (at' s k).pc 16 0=[]:=asa hz;rw[hx]at C;exact⟨ba,bc,ca,cn,cc,by rw[hx];rfl,C,E0 hz,F'⟩
   ·rintro e w' ⟨d,rfl,hd,E',F'⟩;have h0:(FE (Mi.dI (at' s k).pc ((at' s k).pc+4*(([]:List Ts.Iv).length:Int)) n (at' s k) s.m (Ts.aY (at' s k).pc [] 0))).n=0:=rfl;rw[awn h0]at hd;refine⟨d,1,L,pu,mn,rfl,hd,⟨?_,Nat.one_pos,hn0⟩,E',K,⟨arA _,asA _,fun _ h=>absurd h ab⟩,F'⟩;rw[vM hst];rfl
  ·have hz2:0<(Bk.blk s.m (at' s k).pc 16 0).length:=ab;have FB:=FH kS.oW kS.gP hz2;refine fr ⟨(at' s k).pc,(Bk.blk s.m (at' s k).pc 16 0).map Ts.vK⟩ _ _ (mn+1) FB rfl (K.put hr0 ni FB hp1) ⟨asA _,arA _,fun _ _=>Nat.lt_succ_self _⟩ fun W G=>?_
   refine(wH (EW.of G) ab hL hr0 hr1 ni kS.oW kS.gP hp1 hmm (Xv W G).1 (Xv W G).2).mono ?_;rintro e w' ⟨ba,bc,ca,cn,cc,rfl,C,_,E1,F'⟩;exact⟨ba,bc,ca,cn,cc,aq,C,E1 hz2,F'⟩
end
end En
namespace En
open Mm Hh Hc Mc
section
variable{gh hc:Nat}{room:Int}{a:Option Addr}{mb:Nat}{D:DataW Value}{s:Sh}{L:List Kc.Bv}
theorem DY (E:Ew 0 w base g room M gh hc O a n cap mb mn D s L pu sl)(hL:L.length<=64)(hs0:0<=sl)(hs1:sl<=1000000){m}(OS:w.ownsRow b 175 2 (slice sa m sc) m (tX ss))(hm:ss.length=m)(hm2:m<=1000000)(bd:∀p∈ss,0<=p.1/\0<p.2/\p.1+p.2<=4096):Calls prog 59 #[pointer (some ⟨g,0,none⟩),slice sa m sc] w fun e w'=>e=returned (tuple #[])/\(∃sl',Ev 0 w' base g room s (dw ss L) pu sl' mn/\0<=sl'/\sl'+((dw ss L).length:Int)=sl+(L.length:Int))/\Fm base w w':=by
 have HE:=kH E;have HOS:=kH OS;have HM:=kH hm;have HBD:=kH bd;have g7:=E.c7;have Jk:=kH hL;go_enter func59,ntmps59;go_wp2_with fail;go_loopw [14] (fun i wr=>∃j:Nat,j<=m/\i=int i64 j/\(∃a' n' cap' sl',Ew 0 wr base g room M gh hc O a' n' cap' mb mn D s (dw (ss.take j) L) pu sl'/\0<=sl'/\sl'+((dw (ss.take j) L).length:Int)=sl+(L.length:Int))/\Fm base w wr) (fun i _=>m-(intOf i).toNat)
 case atStart=>exact⟨0,arQ _,rfl,⟨a,n,cap,sl,HE,hs0,rfl⟩,Fm.refl _ _⟩
 case round=>
  obtain⟨j,hj,rfl,⟨a',n',cap',sl',E1,s0,s1⟩,F1⟩:=hrel;have Gv:=kH E1;have mO:=kH F1;have DN:=kH s1;have hlen:(dw (ss.take j) L).length<=64:=arF (oF _ L).length_le Jk;have hn':=E1.bt.bs.len;have HN':=kH hn';have hsl:sl'<=1000064:=by have:=Jk;omega
  have hnb:n'<=64:=ab;have g7':=E1.c7;have hgl:=E1.bw.lt;by_cases hlt:j<m
  ·obtain⟨p,hp⟩:∃p,ss[j]?=some p:=⟨_,arq (by rw[HM.out];exact hlt)⟩;obtain⟨p0,p1,p2⟩:=HBD p (arE hp);have HTK:Hid (dw (ss.take (j+1)) L=Kc.bM p.1 (Wd.lo (p.1+p.2)) (dw (ss.take j) L)):=by unfold Hid;rw[jO hp,FM]
   have hlo:0<=Wd.lo (p.1+p.2)/\Wd.lo (p.1+p.2)<4294967296:=by unfold Wd.lo;omega
   have OS1:=aj HOS fun k o f e=>mO.keep k o _ f e an
   obtain⟨sb,cp,hv,_⟩:=uP OS1 ab;obtain rfl:sa=some ⟨sb,0,none⟩:=by injection hv
   have q0:=(OS1.cellAt _ ab).trans (q8 _ _ _ hp).1;have q1:=(OS1.cellAt _ ab).trans (q8 _ _ _ hp).2;have Uy:Hid (∀W:World,Gr wr W->Calls prog 88 #[agg #[int i64 room,slice a' n' cap',int i64 pu,int i64 sl'],agg #[int .u32 p.1,int .u32 (Wd.lo (p.1+p.2))]] W fun e w'=>∃a2 m2 c2,e=returned (agg #[int i64 room,slice a2 m2 c2,int i64 pu,int i64 (sl'+((n':Int)-((Kc.bM p.1 (Wd.lo (p.1+p.2)) (dw (ss.take j) L)).length:Int)))])/\(Kc.Bt 0 w' a2 m2 (Kc.bM p.1 (Wd.lo (p.1+p.2)) (dw (ss.take j) L))/\m2<=c2)/\Gr W w'):=fun W G=>by
    have hk:=yt (ss.take j) p L;rw[HN'.out]at hk;refine(Kc.F8 cap' (Gv.bt.of G).bs ab room pu sl' ⟨p0,ab⟩ hlo).mono ?_;rintro e w' ⟨a2,m2,c2,rfl,⟨B2,hc2⟩,G2⟩;rw[zP ab ab];exact⟨a2,m2,c2,rfl,⟨B2.low (arQ _),hc2⟩,G2⟩
   have I9:Hid (0<=sl'+((n':Int)-((Kc.bM p.1 (Wd.lo (p.1+p.2)) (dw (ss.take j) L)).length:Int))/\sl'+((n':Int)-((Kc.bM p.1 (Wd.lo (p.1+p.2)) (dw (ss.take j) L)).length:Int))+((Kc.bM p.1 (Wd.lo (p.1+p.2)) (dw (ss.take j) L)).length:Int)=sl+(L.length:Int)):=by
    have hk:=yt (ss.take j) p L;rw[HN'.out]at hk;have:=DN;rw[HN'.out]at this;unfold Hid;omega
   have HSub:Hid (∀x∈Kc.bM p.1 (Wd.lo (p.1+p.2)) (dw (ss.take j) L),_):=fun x hx=>(atP.1 hx).1
   have e4:=E1.c4;have e5:=E1.c5;have e6:=E1.c6;have HCl:Hid (∀W:World,Gr wr W->(W.cell? ⟨g,4,none⟩=some (int i64 room)/\W.cell? ⟨g,5,none⟩=some (slice a' n' cap')/\W.cell? ⟨g,6,none⟩=some (int i64 pu)/\W.cell? ⟨g,7,none⟩=some (int i64 sl'))/\(W.frozen? ⟨g,4,none⟩=false/\W.frozen? ⟨g,5,none⟩=false/\W.frozen? ⟨g,6,none⟩=false/\W.frozen? ⟨g,7,none⟩=false)):=fun W G=>by
    have X:=Gv.of G;exact⟨⟨X.c4,X.c5,X.c6,X.c7⟩,X.bw.fz _,X.bw.fz _,X.bw.fz _,X.bw.fz _⟩
   have hgn:¬wr.heap.size=g:=ab;generalize Kc.bM p.1 (Wd.lo (p.1+p.2)) (dw (ss.take j) L)=L2 at *
   generalize(sl'+((n':Int)-(L2.length:Int)))=SV at *
   generalize Wd.lo (p.1+p.2)=pt at *
   generalize p.1=pf at *
   go_wp2_with fail;go_region_with (go_at_call 88;refine(Uy _ b9).mono ?_;rintro e w2 ⟨a2,m2,c2,rfl,⟨B2,hc2⟩,G2⟩;have HG2:Hid (Gr wr w2):=Gr.trans (by repeat (first|exact Gr.refl wr|refine Gr.drewN ?_ _|refine Gr.drew ?_|refine Gr.alloc ?_ _)) G2;have HB2:Hid (Kc.Bt 0 w2 a2 m2 L2):=B2;obtain⟨⟨x4,x5,x6,x7⟩,y4,y5,y6,y7⟩:=HCl _ HG2;clear G2 B2)
   all_goals
    obtain⟨E3,F3⟩:=(Gv.of HG2).set pu SV HB2 hc2 HSub;have UD:=kH E3;have FU:=kH ((mO.trans (Fm.aJ HG2 Gv.az)).trans F3);try go_wp2_with fail
    go_roundw
    case rel=>exact⟨j+1,ab,by go_num,⟨a2,m2,c2,SV,by rw[HTK.out];exact UD,I9.1,by rw[HTK.out];exact I9.2⟩,FU⟩
    case measure=>simp[intOf];omega
  ·have HX:Hid (dw (ss.take j) L=dw ss L):=by unfold Hid;rw[ar5 (by rw[HM.out];omega)]
   have HEv:Hid (Ev 0 wr base g room s (dw ss L) pu sl' mn):=⟨M,gh,hc,O,a',n',cap',mb,D,by rw[<-HX.out];exact Gv⟩;have HK3:Hid (0<=sl'/\sl'+((dw ss L).length:Int)=sl+(L.length:Int)):=by have:=DN;rw[HX.out]at this;exact⟨s0,this⟩
   have HFg:Hid (Calls prog 89 #[pointer (some ⟨g,0,none⟩)] wr fun e w'=>e=returned (tuple #[])/\Ev 0 w' base g room s (dw ss L) pu sl' mn/\Fm base wr w'):=by
    refine(vZ Gv ab).mono ?_;rintro e w' ⟨rfl,⟨D',E'⟩,F'⟩;exact⟨rfl,⟨M,gh,hc,O,a',n',cap',mb,D',by rw[<-HX.out];exact E'⟩,F'⟩
   by_cases hne:sl'=sl
   ·subst hne;go_wp2_with fail;go_end0;exact⟨rfl,⟨sl',HEv,HK3.1,HK3.2⟩,mO⟩
   ·have hne2:(sl' !=sl)=true:=by simpa using hne
    go_wp2_with fail;refine axj HFg ?_;rintro e w2 ⟨rfl,E2,F2⟩;have HE2:=kH E2;have mP:=kH (mO.trans F2);go_wp2_with fail;go_end0;exact⟨rfl,⟨sl',HE2,HK3.1,HK3.2⟩,mP⟩
end
end En
end Go.Proofs.YtiadhbmnfjfioaaGreatDoor
