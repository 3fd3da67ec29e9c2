/- ours -/
import Derived.Test.YtiadhbmnfjfioaaGreatDoorX02
set_option linter.unusedVariables false
set_option linter.unusedSimpArgs false
set_option maxHeartbeats 8000000
set_option maxRecDepth 100000
set_option linter.unusedSectionVars false
namespace Go.Proofs.YtiadhbmnfjfioaaGreatDoor
open Go.Proofs.Tryz hiding wide
open Go.ChangeShapes Go.WideShapes Go.ChangeAt Go.RowKit
namespace Hc
open Mm Hh

structure Cv where
 h:Hv
 m:Value
 out:Value
 av:Value
def cA (c:Cv):Array Value:=(hL c.h++[c.m,c.out,c.av]).toArray
theorem jD {c:Cv}(o:c.h.Ok):(cA c).size=40:=by simp[cA,aD o]
theorem Lr {c:Cv}(o:c.h.Ok){i:Nat}(hi:i<37):(cA c)[i]?=(hL c.h)[i]?:=by have:=aD o;unfold cA;rw[apm,apA (by omega)]
theorem qE {c:Cv}(o:c.h.Ok)(j:Nat):(cA c)[37+j]?=[c.m,c.out,c.av][j]?:=by unfold cA;rw[apm,apv (by simp[aD o])];simp[aD o]
theorem XQ {c:Cv}(o:c.h.Ok){i:Nat}(hi:i<37){v:Value}{h':Hv}(e:(hL c.h).set i v=hL h'):(cA c).setIfInBounds i v=cA { c with h:=h' }:=by have:=aD o;unfold cA;simp only[apl];rw[aqn _ _ (by omega),e]
theorem RF {c:Cv}(o:c.h.Ok)(v:Value):(cA c).setIfInBounds 37 v=cA { c with m:=v }:=by have:=aD o;unfold cA;simp only[apl];rw[apJ _ _ (by omega),this];rfl
theorem RH {c:Cv}(o:c.h.Ok)(v:Value):(cA c).setIfInBounds 38 v=cA { c with out:=v }:=by have:=aD o;unfold cA;simp only[apl];rw[apJ _ _ (by omega),this];rfl
theorem RI {c:Cv}(o:c.h.Ok)(v:Value):(cA c).setIfInBounds 39 v=cA { c with av:=v }:=by have:=aD o;unfold cA;simp only[apl];rw[apJ _ _ (by omega),this];rfl
structure bN where
 b:Nat
def mb [Inhabited bN]:Nat:=(default:bN).b
def Own (w:World) (base:Nat) (v:Value) (l:List UInt8):Prop:=(v=.slice none 0 0/\l=[])\/∃k cap,v=.slice (some ⟨k,0,none⟩) l.length cap/\(base<=k/\l.length<=cap)/\qB w k cap l
theorem Own.mem {w:World}{base:Nat}{v:Value}{l:List UInt8}(h:Own w base v l):∃ao cap,v=.slice ao l.length cap/\Mem w ao l.length l:=by
 rcases h with⟨rfl,rfl⟩|⟨k,cap,rfl,_,R⟩
 ·exact⟨none,0,rfl,Mem.none w⟩
 ·exact⟨some ⟨k,0,none⟩,cap,rfl,R.row.mem⟩
def rE (ss:List (Int×Int)):List Value:=ss.flatMap fun p=>[.int .u32 p.1,.int .u32 (Wd.lo (p.1+p.2))]
theorem jX (ss:List (Int×Int))(p:Int×Int):rE (ss++[p])=rE ss++[.int .u32 p.1,.int .u32 (Wd.lo (p.1+p.2))]:=by simp[rE]
variable [Inhabited bN]
structure Inv (w:World) (base g:Nat) (c:Cv) (l:List UInt8) (os:List Int) (ss:List (Int×Int)):Prop where
 ok:c.h.Ok
 bg:base<=g
 core:w.heap[g]?=some (.cells (cA c) 197 (0,0))
 mem:Own w mb c.m l
 RJ:mb<=base
 out:w.ownsRow base 37 1 c.out os.length (os.map (Value.int .u32))
 av:w.ownsRow base 175 2 c.av ss.length (rE ss)
def In (w:World) (base g:Nat) (h:Hv) (l:List UInt8) (os:List Int) (ss:List (Int×Int)):Prop:=∃c:Cv,c.h=h/\Inv w base g c l os ss
theorem Own.to {w w':World}{base:Nat}{v:Value}{l:List UInt8}(h:Own w base v l)(e:∀(k:Nat) (o:Array Value) (f:Nat×Nat),w.heap[k]?=some (.cells o 5 f)->w'.heap[k]?=w.heap[k]?):Own w' base v l:=by
 rcases h with h|⟨k,cap,hv,hb,rest,hr,hz⟩
 ·exact .inl h
 ·exact .inr ⟨k,cap,hv,hb,rest,(e k _ _ hr).trans hr,hz⟩
theorem aj {w w':World}{base e n sz:Nat}{v:Value}{xs:List Value}(h:w.ownsRow base e sz v n xs)(q:∀(k:Nat) (o:Array Value) (f:Nat×Nat),w.heap[k]?=some (.cells o e f)->w'.heap[k]?=w.heap[k]?):w'.ownsRow base e sz v n xs:=by
 obtain⟨h1,h2⟩:=h;refine⟨h1,?_⟩;rcases h2 with h2|⟨g,cap,cur,hv,hb,hg,r⟩
 ·exact .inl h2
 ·exact .inr ⟨g,cap,cur,hv,hb,(q g _ _ hg).trans hg,r⟩
theorem aa {w:World}{k g a b:Nat}{o p:Array Value}{f f':Nat×Nat}(h:w.heap[k]?=some (.cells o a f))(h':w.heap[g]?=some (.cells p b f'))(hab:a≠b):k≠g:=by rintro rfl;rw[h]at h';exact hab (by injection h' with h';injection h')
def Ch (g:Nat) (w w':World):Prop:=w.grownBy w' (some g)
theorem Ch.refl (g:Nat)(w:World):Ch g w w:=⟨rfl,rfl,rfl,apn _,fun _ _ _=>rfl⟩
theorem Ch.trans {g:Nat}{a b c:World}(h:Ch g a b)(k:Ch g b c):Ch g a c:=⟨k.os.trans h.os,k.tape.trans h.tape,k.output.trans h.output,apr h.size k.size,fun i hi hn=>(k.block i (apq hi h.size) hn).trans (h.block i hi hn)⟩
theorem Ch.setCell {g:Nat}{a w:World}(h:Ch g a w)(o:Nat)(v:Value):Ch g a (w.setCell ⟨g,o,none⟩ v):=h.trans ⟨rfl,rfl,rfl,by simp[World.setCell],fun k hk hn=>Below.heap_setCell _ _ _ _ (fun e=>hn (by rw[e]))⟩
theorem Ch.gr {g:Nat}{a b c:World}(h:Ch g a b)(k:Gr b c):Ch g a c:=h.trans ⟨k.os,k.tape,k.output,k.size,fun i hi _=>k.block i hi⟩
theorem Ch.below {g base:Nat}{w w':World}(h:Ch g w w')(hg:base<=g)(hb:base<=w.heap.size):Below base w w':=(auC base w).grown h hb (fun k e=>by injection e with e;omega)
theorem Inv.toM {w w':World}{base g:Nat}{c c':Cv}{l l':List UInt8}{os:List Int}{ss:List (Int×Int)}(I:Inv w base g c l os ss)(q:Ch g w w')(hc:w'.heap[g]?=some (.cells (cA c') 197 (0,0)))(ok:c'.h.Ok)(em:Own w' mb c'.m l')(eo:c'.out=c.out)(es:c'.av=c.av):Inv w' base g c' l' os ss:=by
 have st:∀t:Nat,t≠197->∀(k:Nat) (o:Array Value) (f:Nat×Nat),w.heap[k]?=some (.cells o t f)->w'.heap[k]?=w.heap[k]?:=fun t ht k o f hk=>
  q.block k (apk.1 hk).1 (fun e=>aa hk I.core ht (by injection e))
 refine⟨ok,I.bg,hc,em,I.RJ,?_,?_⟩
 ·rw[eo];exact aj I.out (st _ (by decide))
 ·rw[es];exact aj I.av (st _ (by decide))
theorem Inv.to {w w':World}{base g:Nat}{c c':Cv}{l:List UInt8}{os:List Int}{ss:List (Int×Int)}(I:Inv w base g c l os ss)(q:Ch g w w')(hc:w'.heap[g]?=some (.cells (cA c') 197 (0,0)))(ok:c'.h.Ok)(em:c'.m=c.m)(eo:c'.out=c.out)(es:c'.av=c.av):Inv w' base g c' l os ss:=by
 have st:∀t:Nat,t≠197->∀(k:Nat) (o:Array Value) (f:Nat×Nat),w.heap[k]?=some (.cells o t f)->w'.heap[k]?=w.heap[k]?:=fun t ht k o f hk=>
  q.block k (apk.1 hk).1 (fun e=>aa hk I.core ht (by injection e))
 exact I.toM q hc ok (by rw[em];exact I.mem.to (st _ (by decide))) eo es
theorem Inv.of {w w':World}{base g:Nat}{c:Cv}{l:List UInt8}{os:List Int}{ss:List (Int×Int)}(I:Inv w base g c l os ss)(q:Gr w w'):Inv w' base g c l os ss:=I.to ((Ch.refl g w).gr q) ((q.block g (apk.1 I.core).1).trans I.core) I.ok rfl rfl rfl
theorem In.of {w w':World}{base g:Nat}{h:Hv}{l:List UInt8}{os:List Int}{ss:List (Int×Int)}(I:In w base g h l os ss)(q:Gr w w'):In w' base g h l os ss:=by obtain⟨c,e,I⟩:=I;exact⟨c,e,I.of q⟩
theorem Inv.lt {w:World}{base g:Nat}{c:Cv}{l:List UInt8}{os:List Int}{ss:List (Int×Int)}(I:Inv w base g c l os ss):g<w.heap.size:=(apk.1 I.core).1
theorem Inv.hcell {w:World}{base g:Nat}{c:Cv}{l:List UInt8}{os:List Int}{ss:List (Int×Int)}(I:Inv w base g c l os ss){i:Nat}(hi:i<37):w.cell? ⟨g,i,none⟩=(hL c.h)[i]?:=(atZ _ _ _ _ _ _ I.core).trans (Lr I.ok hi)
theorem Inv.dJ {w:World}{base g:Nat}{c:Cv}{l:List UInt8}{os:List Int}{ss:List (Int×Int)}(I:Inv w base g c l os ss)(j:Nat):w.cell? ⟨g,37+j,none⟩=[c.m,c.out,c.av][j]?:=(atZ _ _ _ _ _ _ I.core).trans (qE I.ok j)
theorem Inv.reg {w:World}{base g:Nat}{c:Cv}{l:List UInt8}{os:List Int}{ss:List (Int×Int)}(I:Inv w base g c l os ss){i:Nat}(hi:i<32):w.cell? ⟨g,i,none⟩=some (.int .u32 (rg c.h i)):=(I.hcell (by omega)).trans (lC I.ok hi)
theorem Inv.fz {w:World}{base g:Nat}{c:Cv}{l:List UInt8}{os:List Int}{ss:List (Int×Int)}(I:Inv w base g c l os ss)(j:Nat):w.frozen? ⟨g,j,none⟩=false:=aus _ _ j _ _ I.core
theorem Inv.set {w:World}{base g:Nat}{c:Cv}{l:List UInt8}{os:List Int}{ss:List (Int×Int)}(I:Inv w base g c l os ss){i:Nat}(hi:i<37){v:Value}{h':Hv}(e:(hL c.h).set i v=hL h')(ok:h'.Ok):Inv (w.setCell ⟨g,i,none⟩ v) base g { c with h:=h' } l os ss:=I.to ((Ch.refl g w).setCell i v) (by rw[aul _ _ _ _ _ _ I.core,XQ I.ok hi e]) ok rfl rfl rfl
theorem Inv.rF {w:World}{base g:Nat}{c:Cv}{l:List UInt8}{os:List Int}{ss:List (Int×Int)}(I:Inv w base g c l os ss):In w base g c.h l os ss:=⟨c,rfl,I⟩
theorem Inv.ay {w:World}{base g:Nat}{c:Cv}{l:List UInt8}{os:List Int}{ss:List (Int×Int)}(I:Inv w base g c l os ss):base<=w.heap.size:=apr I.bg (aqP I.lt)
structure Fr (base:Nat) (w w':World):Prop where
 below:Below base w w'
 keep:∀(k:Nat) (o:Array Value) (t:Nat) (f:Nat×Nat),w.heap[k]?=some (.cells o t f)->t≠197->t≠37->t≠175->w'.heap[k]?=w.heap[k]?
theorem Fr.refl (base:Nat)(w:World):Fr base w w:=⟨auC _ _,fun _ _ _ _ _ _ _ _=>rfl⟩
theorem Fr.trans {base:Nat}{a b c:World}(h:Fr base a b)(q:Fr base b c):Fr base a c:=
 ⟨h.below.trans q.below,fun k o t f e n1 n2 n3=>by
  have e1:=h.keep k o t f e n1 n2 n3;exact(q.keep k o t f (e1.trans e) n1 n2 n3).trans e1⟩
theorem Fr.bD {base:Nat}{w w':World}(h:Gr w w')(hb:base<=w.heap.size):Fr base w w':=⟨aun h hb,fun k o t f e _ _ _=>h.block k (apk.1 e).1⟩
theorem In.below {w w':World}{base g:Nat}{h:Hv}{l:List UInt8}{os:List Int}{ss:List (Int×Int)}(I:In w base g h l os ss)(q:Ch g w w'):Fr base w w':=by obtain⟨c,_,I⟩:=I;exact⟨q.below I.bg I.ay,fun k o t f e n1 _ _=>q.block k (apk.1 e).1 (fun q=>aa e I.core n1 (by injection q))⟩
theorem Inv.gJ {w W w':World}{base g n:Nat}{c:Cv}{l:List UInt8}{os:List Int}{ss ss':List (Int×Int)}{v:Value}(I:Inv w base g c l os ss)(G:Gr w W)(q:W.grownBy w' c.av.ownBlock)(hn:ss'.length=n)(ho:w'.ownsRow base 175 2 v n (rE ss')):w'.cell? ⟨g,39,none⟩=some c.av/\w'.frozen? ⟨g,39,none⟩=false/\Inv (w'.setCell ⟨g,39,none⟩ v) base g { c with av:=v } l os ss'/\Fr base w (w'.setCell ⟨g,39,none⟩ v):=by
 subst hn;have I1:=I.of G;have st:∀t:Nat,t≠175->∀(k:Nat) (o:Array Value) (f:Nat×Nat),W.heap[k]?=some (.cells o t f)->w'.heap[k]?=W.heap[k]?:=fun t ht k o f hk=>
  q.block k (apk.1 hk).1 (fun e=>by
   rcases I1.av.2 with⟨h0,_⟩|⟨g',cap,cur,hv,_,hg,_⟩
   ·rw[h0]at e;cases e
   ·rw[hv]at e;injection e with e;exact aa hk hg ht e)
 have hb:∀k,c.av.ownBlock=some k->base<=k:=fun k e=>(I1.av.lt k e).1
 have hcore:=(st _ (by decide) g _ _ I1.core).trans I1.core;have ne:∀t:Nat,t≠197->∀(k:Nat) (o:Array Value) (f:Nat×Nat),w'.heap[k]?=some (.cells o t f)->(w'.setCell ⟨g,39,none⟩ v).heap[k]?=w'.heap[k]?:=fun t ht k o f hk=>
  auv _ _ _ _ (by exact aa hk hcore ht)
 refine⟨(atZ _ _ _ _ _ _ hcore).trans (qE I.ok 2),aus _ _ _ _ _ hcore,⟨I.ok,I.bg,?_,?_,?_,?_,?_⟩,?_⟩
 ·rw[aul _ _ _ _ _ _ hcore,RI I.ok]
 ·exact(I1.mem.to (st _ (by decide))).to (ne _ (by decide))
 ·exact I1.RJ
 ·exact aj (aj I1.out (st _ (by decide))) (ne _ (by decide))
 ·exact aj ho (ne _ (by decide))
 ·refine⟨auS ((aun G I.ay).grown q I1.ay hb) (by exact I.bg) _,fun k o t f e n1 n2 n3=>?_⟩;have e1:=(apk.1 e).1;have e2:=(G.block k e1).trans e;have e3:=(st _ n3 k _ _ e2).trans e2;exact((ne _ n1 k _ _ e3).trans e3).trans e.symm
theorem Inv.qF {w W w':World}{base g n:Nat}{c:Cv}{l:List UInt8}{os os':List Int}{ss:List (Int×Int)}{v:Value}(I:Inv w base g c l os ss)(G:Gr w W)(q:W.grownBy w' c.out.ownBlock)(hn:os'.length=n)(ho:w'.ownsRow base 37 1 v n (os'.map (Value.int .u32))):w'.cell? ⟨g,38,none⟩=some c.out/\w'.frozen? ⟨g,38,none⟩=false/\Inv (w'.setCell ⟨g,38,none⟩ v) base g { c with out:=v } l os' ss/\Fr base w (w'.setCell ⟨g,38,none⟩ v):=by
 subst hn;have I1:=I.of G;have st:∀t:Nat,t≠37->∀(k:Nat) (o:Array Value) (f:Nat×Nat),W.heap[k]?=some (.cells o t f)->w'.heap[k]?=W.heap[k]?:=fun t ht k o f hk=>
  q.block k (apk.1 hk).1 (fun e=>by
   rcases I1.out.2 with⟨h0,_⟩|⟨g',cap,cur,hv,_,hg,_⟩
   ·rw[h0]at e;cases e
   ·rw[hv]at e;injection e with e;exact aa hk hg ht e)
 have hb:∀k,c.out.ownBlock=some k->base<=k:=fun k e=>(I1.out.lt k e).1
 have hcore:=(st _ (by decide) g _ _ I1.core).trans I1.core;have ne:∀t:Nat,t≠197->∀(k:Nat) (o:Array Value) (f:Nat×Nat),w'.heap[k]?=some (.cells o t f)->(w'.setCell ⟨g,38,none⟩ v).heap[k]?=w'.heap[k]?:=fun t ht k o f hk=>
  auv _ _ _ _ (by exact aa hk hcore ht)
 refine⟨(atZ _ _ _ _ _ _ hcore).trans (qE I.ok 1),aus _ _ _ _ _ hcore,⟨I.ok,I.bg,?_,?_,?_,?_,?_⟩,?_⟩
 ·rw[aul _ _ _ _ _ _ hcore,RH I.ok]
 ·exact(I1.mem.to (st _ (by decide))).to (ne _ (by decide))
 ·exact I1.RJ
 ·exact aj ho (ne _ (by decide))
 ·exact aj (aj I1.av (st _ (by decide))) (ne _ (by decide))
 ·refine⟨auS ((aun G I.ay).grown q I1.ay hb) (by exact I.bg) _,fun k o t f e n1 n2 n3=>?_⟩;have e1:=(apk.1 e).1;have e2:=(G.block k e1).trans e;have e3:=(st _ n2 k _ _ e2).trans e2;exact((ne _ n1 k _ _ e3).trans e3).trans e.symm
theorem Inv.stored {w w1:World}{base g n:Nat}{c:Cv}{l k:List UInt8}{os:List Int}{ss:List (Int×Int)}(I:Inv w base g c l os ss)(G:Gr w w1)(R:qB w1 w.heap.size n k)(hk:k.length=n):Inv (w1.setCell ⟨g,37,none⟩ (.slice (some ⟨w.heap.size,0,none⟩) n n)) base g { c with m:=.slice (some ⟨w.heap.size,0,none⟩) n n } k os ss:=by have I1:=I.of G;obtain⟨rest,hr,hz⟩:=R;refine I1.toM ((Ch.refl g w1).setCell _ _) (by rw[aul _ _ _ _ _ _ I1.core,RF I.ok]) I.ok (.inr ⟨w.heap.size,n,by rw[hk],⟨apr I.RJ I.ay,by rw[hk];exact apn _⟩,rest,?_,hz⟩) rfl rfl;rw[auv _ _ _ _ (by exact aa hr I1.core (by decide))];exact hr
end Hc
namespace Mm

variable {ao :Option Addr} {n :Nat} {l :List UInt8} {w :World}
theorem oZ (op:Int)(w:World):Calls prog 90 #[.int .i64 op] w fun e w'=>e=.returned (.int .u32 (mM op:Nat))/\w'=w:=by
 go_enter func90,ntmps90;go_wp2
 all_goals
  go_ret;refine⟨au ?_,rfl⟩;simp only[auU,aub,ne_eq]at *
  unfold mM;repeat' split
  all_goals omega
theorem nL (op:Int)(w:World):Calls prog 202 #[.int .i64 op] w fun e w'=>e=.returned (.int .u32 (gG op:Nat))/\w'=w:=by
 go_enter func202,ntmps202;go_wp2
 all_goals
  go_ret;refine⟨au ?_,rfl⟩;simp only[auU,aub,ne_eq]at *
  unfold gG;repeat' split
  all_goals omega
theorem dE (ao:Option Addr)(n cap:Nat)(s:Nat)(a:Int)(w:World)(hn:n<=140737488351232)(hs:s<=4)(h0:0<=a)(h1:a<4294967296):Calls prog 91 #[.slice ao n cap,.int .u32 (s:Nat),.int .u32 a] w fun e w'=>e=.returned (.bool (qy n s a))/\w'=w:=by
 by_cases hs0:s=0
 ·subst hs0;go_enter func91,ntmps91;go_wp2;go_ret;exact⟨aM (KY (by omega)),rfl⟩
 by_cases hm:a%(s:Int)=0
 ·by_cases hl:a+s<=n
  ·go_enter func91,ntmps91;go_wp2;go_ret;exact⟨aM (acf (by omega) hm hl),rfl⟩
  ·go_enter func91,ntmps91;go_wp2;go_ret;exact⟨aM (KY (by omega)),rfl⟩
 ·go_enter func91,ntmps91;go_wp2;go_ret;exact⟨aM (KY (by omega)),rfl⟩
theorem Ab (op x :Int) (w :World) (h0 :0 <= x) (h1 :x < 4294967296) (h8 :op =11 -> x < 256) (h16 :op =12 -> x < 65536) :Calls prog 92 #[.int .i64 op, .int .u32 x] w fun e w' => e = .returned (.int .u32 (wide op x)) /\ w' =w :=by
  go_enter func92, ntmps92;go_wp2
  all_goals
    go_ret;refine⟨au ?_, rfl⟩;simp only[auU, aub, ne_eq]at *
    unfold wide
    first
      | (have hq : op = 11 := by assumption
         rw[Rq x h0 (h8 hq)]; simp[hq])
      | (have hq : op = 12 := by assumption
         rw[KZ x h0 (h16 hq)]; simp[hq])
      | (have hq : ¬ op = 11 := by assumption
         have hr : ¬ op =12 :=by assumption
         simp[hq, hr])
theorem Lt (b o n cap:Nat)(l:List UInt8)(op:Int)(a:Nat)(w:World)(hn:n≤140737488351232)(hl:l.length=n)(ha:a<4294967296)(hc:∀t,t<n->w.cell? ⟨b,o+t,none⟩=some (.int .u8 (bv l t)))(hok:qy n (mM op) (a:Int)=true):Calls prog 64 #[.slice (some ⟨b,o,none⟩) n cap,.int .i64 op,.int .u32 a] w fun e w'=>e=.returned (.tuple #[.int .u32 (wide op (raw l a (mM op))),.bool true])/\w'=w:=by
 have hs:=CW op;have hk:=hok;simp only[qy,auk]at hk;obtain⟨k0,k1,k2⟩:=hk;have hroom:=K4 k1 ha k0;go_enter func64,ntmps64;go_wp2_with (first|(go_at_call 90;refine(oZ _ _).mono ?_;rintro e w' ⟨rfl,rfl⟩)|(go_at_call 91;refine(dE _ _ _ _ _ _ hn hs (by omega) (by omega)).mono ?_;rintro e w' ⟨rfl,rfl⟩));go_loop [9,19] (fun x i=>∃k:Nat,k<=mM op/\i=.int .u32 k/\x=.int .u32 (raw l a k)) (fun _ i=>mM op-(intOf i).toNat)
 case atStart=>exact⟨0,apF _,rfl,rfl⟩
 case round=>
  obtain⟨k,hk,rfl,rfl⟩:=hrel;have rb:=kI l a k;have bb:=Ws l (a+k);by_cases hlt:k<mM op
  ·have hck:=hc (a+k) (by omega);have hk4:k<4:=by omega
   have hw:(a+k)%4294967296=a+k:=by omega
   have HR:Hid (bits .or .u32 (raw l a k) (bv l (a+k)*2 ^ (8*k)%4294967296)=raw l a (k+1)):=Rt _ _ k hk4 rb.1 rb.2 bb.1 bb.2;go_wp2;go_round
   case rel=>exact⟨k+1,by omega,by go_num,by rw[HR.out]⟩
   case measure=>simp[intOf];omega
  ·obtain rfl:k=mM op:=by omega
   have rx:=E9 l a op;have HX:Hid (wide op (raw l a (mM op))=wide op (raw l a (mM op))):=rfl;go_wp2_with (go_at_call 92;refine(Ab _ _ _ rb.1 rx.1 rx.2.1 rx.2.2).mono ?_;rintro e w' ⟨rfl,rfl⟩);go_ret2;exact⟨rfl,rfl⟩
theorem RL (ao:Option Addr)(n cap:Nat)(op a:Int)(w:World)(hn:n<=140737488351232)(h0:0<=a)(h1:a<4294967296)(hok:qy n (mM op) a=false):Calls prog 64 #[.slice ao n cap,.int .i64 op,.int .u32 a] w fun e w'=>e=.returned (.tuple #[.int .u32 0,.bool false])/\w'=w:=by have hs:=CW op;go_enter func64,ntmps64;go_wp2_with (first|(go_at_call 90;refine(oZ _ _).mono ?_;rintro e w' ⟨rfl,rfl⟩)|(go_at_call 91;refine(dE _ _ _ _ _ _ hn hs (by omega) (by omega)).mono ?_;rintro e w' ⟨rfl,rfl⟩));go_ret2;exact⟨rfl,rfl⟩
theorem dY (cap:Nat)(op a:Int)(M:Mem w ao n l)(hn:n<=140737488351232)(h0:0<=a)(h1:a<4294967296):Calls prog 64 #[.slice ao n cap,.int .i64 op,.int .u32 a] w fun e w'=>e=.returned (.tuple #[.int .u32 (aN l op a),.bool (bM l op a)])/\w'=w:=by
 have hl:=M.len;cases hok:qy n (mM op) a with
 |false=>
  have e1:bM l op a=false:=by unfold bM;rw[hl];exact hok
  have e2:aN l op a=0:=by unfold aN;rw[e1];rfl
  rw[e1,e2];exact RL ao n cap op a w hn h0 h1 hok
 |true=>
  have e1:bM l op a=true:=by unfold bM;rw[hl];exact hok
  have e2:aN l op a=wide op (raw l a.toNat (mM op)):=by unfold aN;rw[e1];rfl
  rw[e1,e2];obtain⟨b,o,rfl,_,hc⟩:=M.spot (xY hok h0);obtain⟨a,rfl⟩:=apt h0;exact Lt b o n cap l op a w hn hl (by omega) hc hok
theorem lD (ao:Option Addr)(n cap:Nat)(op a x:Int)(w:World)(hn:n<=140737488351232)(h0:0<=a)(h1:a<4294967296)(hok:qy n (gG op) a=false):Calls prog 189 #[.slice ao n cap,.int .i64 op,.int .u32 a,.int .u32 x] w fun e w'=>e=.returned (.tuple #[.slice none 0 0,.bool false])/\w'=w:=by have hs:=qz op;go_enter func189,ntmps189;go_wp2_with (first|(go_at_call 202;refine(nL _ _).mono ?_;rintro e w' ⟨rfl,rfl⟩)|(go_at_call 91;refine(dE _ _ _ _ _ _ hn hs (by omega) (by omega)).mono ?_;rintro e w' ⟨rfl,rfl⟩));go_ret2;exact⟨rfl,rfl⟩
theorem iZ (b o n cap:Nat)(l:List UInt8)(op x:Int)(a:Nat)(w:World)(hn:n≤140737488351232)(hl:l.length=n)(ha:a<4294967296)(hb:b<w.heap.size)(hx0:0≤x)(hx1:x<4294967296)(hc:∀t,t<n->w.cell? ⟨b,o+t,none⟩=some (.int .u8 (bv l t)))(hok:qy n (gG op) (a:Int)=true):Calls prog 189 #[.slice (some ⟨b,o,none⟩) n cap,.int .i64 op,.int .u32 a,.int .u32 x] w fun e w'=>e=.returned (.tuple #[.slice (some ⟨w.heap.size,0,none⟩) n n,.bool true])/\qB w' w.heap.size n (put l a x (gG op))/\Gr w w':=by
 have hs:=qz op;have hk:=hok;simp only[qy,auk]at hk;obtain⟨k0,k1,k2⟩:=hk;have hroom:=K5 k1 ha k0;obtain⟨i0,hi,hz0,hz1,hz2⟩:=auz info5;have HC:=kH hc;go_enter func189,ntmps189
 go_wp2_with (first
  |(go_at_call 202;refine(nL _ _).mono ?_;rintro e w' ⟨rfl,rfl⟩)
  |(go_at_call 91;refine(dE _ _ _ _ _ _ hn hs (by omega) (by omega)).mono ?_;rintro e w' ⟨rfl,rfl⟩)
  |(at_make;refine wpList_make_full _ rfl _ _ 25 rfl _ 5 i0 (.int .u8 0) 1 underlying25 hi hz0 hz1 _ _ _ _ n rfl rfl rfl rfl (by rw[hz2];omega) (by unfold maxLen;omega) (apn _) ?_;intro w0 hown0 tJ;obtain⟨cur,hcl,hcg⟩:=K6 hown0;have B0:=(Gr.refl _).grown tJ (fun k h=>by cases h);clear hown0 tJ)
  |(refine wpList_copy_splice rfl (.tmp 23) (.tmp 24) 25 25 rfl 5 underlying25 acg _ _ _ _ _ _ rfl rfl _ 0 cur 5 hcg (bc l) (by rw[gH,hl];simp) (fun _=>⟨rfl,_,rfl,XB hl (fun t ht=>(Gr.cell B0 _ (by exact hb)).trans (HC.out t ht))⟩) (by rw[gH,hl,hcl];omega) (xX l) _ _ B0 (apn _) ?_;intro w2 HG2 hB2))
 have R0:qB w2 w'.heap.size n l:=⟨[],by rw[apz];have:=HG2.out;rwa[CX (by rw[gH,hl,hcl])]at this,by rw[apz,gH,hl],by unfold maxLen;omega⟩;go_loopw [27] (fun i wr=>∃k:Nat,k<=gG op/\i=.int .u32 k/\qB wr w'.heap.size n (put l a x k)/\Gr w' wr) (fun i _=>gG op-(intOf i).toNat)
 case atStart=>exact⟨0,apF _,rfl,R0,hB2⟩
 case round=>
  obtain⟨k,hk,rfl,R,G⟩:=hrel;by_cases hlt:k<gG op
  ·have hp:=iR l a x k;have hck:=R.row.cell (t:=a+k) (by omega);have hfk:=R.row.frozen (a+k);have hw:(a+k)%4294967296=a+k:=by omega
   have RS:=R.set (t:=a+k) (by omega) (x/2 ^ (8*k)%256) (by omega) (by omega);rw[Fb x k hx0]at RS;have HR:=kH R;have HG:=kH G;have HS:Hid (qB (wr.setCell ⟨w'.heap.size,a+k,none⟩ (.int .u8 (x/256^k%256))) w'.heap.size n (put l a x (k+1))):=RS;have HB:Hid (x/2 ^ (8*k)%256=x/256^k%256):=Fb x k hx0;clear R G RS R0 hB2 hp;go_wp2;go_roundw
   case rel=>exact⟨k+1,by omega,by go_num,by have:=HS.out;rw[<-HB.out]at this;exact this,HG.out.setCell (apn _) _⟩
   case measure=>simp[intOf];omega
  ·obtain rfl:k=gG op:=by omega
   have HR:=kH R;have HG:=kH G;go_wp2;go_ret2;exact⟨rfl,HR.out,HG.out⟩
theorem Ii (cap:Nat)(op a x:Int)(M:Mem w ao n l)(hn:n<=140737488351232)(h0:0<=a)(h1:a<4294967296)(hx0:0<=x)(hx1:x<4294967296):Calls prog 189 #[.slice ao n cap,.int .i64 op,.int .u32 a,.int .u32 x] w fun e w'=> ∃QQ n' cap',e=.returned (.tuple #[.slice QQ n' cap',.bool (dX l op a)])/\Mem w' QQ n' (il l op a x)/\Gr w w'/\∀ad,QQ=some ad->w.heap.size<=ad.block:=by
 have hl:=M.len;cases hok:qy n (gG op) a with
 |false=>
  have e1:dX l op a=false:=by unfold dX;rw[hl];exact hok
  have e2:il l op a x=[]:=by unfold il;rw[e1];rfl
  rw[e1,e2];refine(lD ao n cap op a x w hn h0 h1 hok).mono ?_;rintro e w' ⟨rfl,rfl⟩;exact⟨none,0,0,rfl,Mem.none _,Gr.refl _,fun ad h=>by cases h⟩
 |true=>
  have e1:dX l op a=true:=by unfold dX;rw[hl];exact hok
  have e2:il l op a x=put l a.toNat x (gG op):=by unfold il;rw[e1];rfl
  rw[e1,e2];obtain⟨b,o,rfl,hb,hc⟩:=M.spot (xY hok h0);obtain⟨a,rfl⟩:=apt h0;refine(iZ b o n cap l op x a w hn hl (by omega) hb hx0 hx1 hc hok).mono ?_;rintro e w' ⟨rfl,R,G⟩;refine⟨_,_,_,rfl,?_,G,fun ad h=>by cases h;exact apn _⟩;have:=R.row.mem;rwa[iR,hl]at this
theorem dO (cap:Nat)(op a x:Int)(M:Mem w ao n l)(hn:n<=140737488351232)(h0:0<=a)(h1:a<4294967296)(hx0:0<=x)(hx1:x<4294967296):Calls prog 189 #[.slice ao n cap,.int .i64 op,.int .u32 a,.int .u32 x] w fun e w'=> ∃QQ n' cap',e=.returned (.tuple #[.slice QQ n' cap',.bool (dX l op a)])/\Mem w' QQ n' (il l op a x)/\Gr w w':=by refine(Ii cap op a x M hn h0 h1 hx0 hx1).mono ?_;rintro e w' ⟨a1,n1,c1,rfl,M1,G1,_⟩;exact⟨a1,n1,c1,rfl,M1,G1⟩
end Mm
end Go.Proofs.YtiadhbmnfjfioaaGreatDoor
