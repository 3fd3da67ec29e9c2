/- ours -/
import Derived.Test.YtiadhbmnfjfioaaGreatDoorX14
import Derived.Lib.AppendZerosOnto
set_option linter.unusedVariables false
set_option linter.unusedSimpArgs false
set_option maxHeartbeats 8000000
set_option maxRecDepth 100000
set_option linter.unusedSectionVars false
namespace Go.Proofs.YtiadhbmnfjfioaaGreatDoor
open Go.Proofs.Tryz hiding cs d1 d2 d3 t1 t2
open Go.ChangeShapes Go.WideShapes Go.ChangeAt Go.RowKit
variable{o q cs:Array Value}{fr':Bool}{K:IntKind}{s ps:List (Int×Int)}{L:List (List Nat)}{os:List Int}{l Wd:List Nat}{m' m:List UInt8}{i t k n N x hc b c e hn pn g B:Nat}{f:Nat×Nat}{ha na oa a ao ma ua pa:Option Addr}{r:Option Int}{v U' fr M H P U:Value}{w1 w w':World}
variable [Inhabited Hc.bN]
namespace Vp
open Mm Hh Hc Mc Ud
variable{w2:World}{ty:Nat}{M' H' P':Value}{p:Pl}
variable{hs':List Hv}
def fE (ty B:Nat) (w:World) (g:Nat) (M H P:Value) (r:Pl×List Nat) (e:Ending) (w':World):Prop:=e=.returned (As.str r.2)/\∃M' H' P' U',Pr ty B w' g M' H' P' U' r.1/\Fx (Dm g M H P) (Dm g M' H' P') w w'
theorem aaZ (a b:List UInt8):bc (a++b)=bc a++bc b:=by simp[bc]
theorem Pr.open (X:Pr ty B w g M H P U p):∃ma mc ha hc pa pc ua un uc,M=.slice ma p.m.length mc/\H=.slice ha p.hs.length hc/\P=.slice pa p.ps.length pc/\U=.slice ua un uc/\Mem w ma p.m.length p.m/\(ma=none->mc=0)/\Hs w ha p.hs.length p.hs/\Ps w pa p.ps.length p.ps:=by obtain⟨ma,mc,ha,hc,e1,e2,h1,h2,h3⟩:=X.mx.read;obtain⟨N,_,_,h4,_⟩:=X.row;obtain⟨pa,pc,e3,h5⟩:=aaY h4;obtain⟨ua,un,uc,e4⟩:=X.un;exact⟨ma,mc,ha,hc,pa,pc,ua,un,uc,e1,e2,e3,e4,h1,h2,h3,h5⟩
theorem dx {v:Value}{i:Nat}(hb:w.heap[g]?=some (.cells o ty (0,0)))(ht:t≠ty)(e:w.heap[k]?=some (.cells q t f)):(w.setCell ⟨g,i,none⟩ v).heap[k]?=w.heap[k]?:=hso (by exact aa e hb ht)
theorem Pr.aie {l:List UInt8}{n:Nat}(X:Pr ty B w g M H P U p)(hf:p.fr=false)(hn:l.length=n)(h4:p.m.length+n<=4096)(q:w.grownBy w2 M.ownBlock)(O:w2.ownsRow B 5 1 M' (p.m.length+n) (bc p.m++bc l))(hat:∀k,M'.ownBlock=some k->M.ownBlock=some k\/w.heap.size<=k):w2.heap[g]?=some (.cells #[M,H,P,U,.bool p.fr] ty (0,0))/\Pr ty B (w2.setCell ⟨g,0,none⟩ M') g M' H P U { p with m:=p.m++l }/\Fx (Dm g M H P) (Dm g M' H P) w (w2.setCell ⟨g,0,none⟩ M'):=by
 obtain⟨N,n1,n2,n3,_⟩:=X.row;have kp:∀{t:Nat},t≠5->∀{k:Nat} {o:Array Value} {f:Nat×Nat},w.heap[k]?=some (.cells o t f)->w2.heap[k]?=w.heap[k]?:=by intro t ht k o f e;exact eF X.mx.mem q ht e
 have hb:=(kp X.oU.1 X.blk).trans X.blk;refine⟨hb,⟨X.oU,X.bg,by rw[hss hb];simp,⟨?_,?_,X.mx.ok⟩,?_,⟨N,n1,by have:=q.size;simp;omega,?_,fun h=>by rw[show p.fr=true from h]at hf;cases hf⟩,X.un⟩,?_⟩
 ·rw[apo,hn,aaZ];exact aj O fun k o f e=>dx hb X.oU.1.symm e
 ·exact aj (aj X.mx.hrt fun k o f e=>kp an e) fun k o f e=>dx hb X.oU.2.1.symm e
 ·exact⟨by show(p.m++l).length<=4096;rw[apo];omega,X.ok.h4,X.ok.hok,X.ok.p3,X.ok.pk,fun h=>(by rw[show p.fr=true from h]at hf;cases hf),fun h=>by rw[show p.fr=true from h]at hf;cases hf⟩
 ·exact aj (aj n3 fun k o f e=>kp an e) fun k o f e=>dx hb X.oU.2.2.symm e
 ·refine(Fx.grown q (fun k e=>.inr (.inl e)) (D':=Dm g M' H P) ?_).trans (Fx.set (.inl rfl));rintro k (h|h|h|h)
  ·exact .inl (.inl h)
  ·rcases hat k h with h|h
   ·exact .inl (.inr (.inl h))
   ·exact .inr h
  ·exact .inl (.inr (.inr (.inl h)))
  ·exact .inl (.inr (.inr (.inr h)))
theorem Pr.aif {h:Hv}(X:Pr ty B w g M H P U p)(hf:p.fr=false)(o:h.Ok/\may h=true)(h4:p.hs.length+1<=4)(q:w.grownBy w2 H.ownBlock)(O:w2.ownsRow B 43 37 H' (p.hs.length+1) (hC p.hs++hL h))(hat:∀k,H'.ownBlock=some k->H.ownBlock=some k\/w.heap.size<=k):w2.heap[g]?=some (.cells #[M,H,P,U,.bool p.fr] ty (0,0))/\Pr ty B (w2.setCell ⟨g,1,none⟩ H') g M H' P U { p with hs:=p.hs++[h] }/\Fx (Dm g M H P) (Dm g M H' P) w (w2.setCell ⟨g,1,none⟩ H'):=by
 obtain⟨N,n1,n2,n3,_⟩:=X.row;have kp:∀{t:Nat},t≠43->∀{k:Nat} {o:Array Value} {f:Nat×Nat},w.heap[k]?=some (.cells o t f)->w2.heap[k]?=w.heap[k]?:=by intro t ht k o f e;exact eF X.mx.hrt q ht e
 have hb:=(kp X.oU.2.1 X.blk).trans X.blk;have Y:=X.mx.aic o.1 q O;refine⟨hb,⟨X.oU,X.bg,by rw[hss hb];simp,⟨?_,?_,Y.ok⟩,?_,⟨N,n1,by have:=q.size;simp;omega,?_,fun h=>by rw[show p.fr=true from h]at hf;cases hf⟩,X.un⟩,?_⟩
 ·exact aj Y.mem fun k o f e=>dx hb X.oU.1.symm e
 ·exact aj Y.hrt fun k o f e=>dx hb X.oU.2.1.symm e
 ·refine⟨X.ok.m4,by show(p.hs++[h]).length<=4;rw[apo,apW];omega,fun k hk=>?_,X.ok.p3,X.ok.pk,fun h=>(by rw[show p.fr=true from h]at hf;cases hf),fun h=>by rw[show p.fr=true from h]at hf;cases hf⟩;rcases apR.1 hk with hk|hk
  ·exact X.ok.hok k hk
  ·rw[apE.1 hk];exact o
 ·exact aj (aj n3 fun k o f e=>kp an e) fun k o f e=>dx hb X.oU.2.2.symm e
 ·refine(Fx.grown q (fun k e=>.inr (.inr (.inl e))) (D':=Dm g M H' P) ?_).trans (Fx.set (.inl rfl));rintro k (h|h|h|h)
  ·exact .inl (.inl h)
  ·exact .inl (.inr (.inl h))
  ·rcases hat k h with h|h
   ·exact .inl (.inr (.inr (.inl h)))
   ·exact .inr h
  ·exact .inl (.inr (.inr (.inr h)))
theorem Pr.pkA {s:Int×Int}(X:Pr ty B w g M H P U p)(n1:B<=N)(n2:N<=w.heap.size)(n3:w.ownsRow N 45 2 P p.ps.length (pC p.ps))(n4:p.fr=true->zV g N w U p.us)(hs:0<=s.1/\s.1<4294967296/\0<=s.2/\s.2<4294967296)(h4:p.ps.length+1<=300)(q:w.grownBy w2 P.ownBlock)(O:w2.ownsRow N 45 2 P' (p.ps.length+1) (pC p.ps++[.int .i64 s.1,.int .i64 s.2]))(hat:∀k,P'.ownBlock=some k->P.ownBlock=some k\/w.heap.size<=k):w2.heap[g]?=some (.cells #[M,H,P,U,.bool p.fr] ty (0,0))/\Pr ty B (w2.setCell ⟨g,2,none⟩ P') g M H P' U { p with ps:=p.ps++[s] }/\Fx (Dm g M H P) (Dm g M H P') w (w2.setCell ⟨g,2,none⟩ P'):=by
 have kp:∀{t:Nat},t≠45->∀{k:Nat} {o:Array Value} {f:Nat×Nat},w.heap[k]?=some (.cells o t f)->w2.heap[k]?=w.heap[k]?:=by intro t ht k o f e;exact eF n3 q ht e
 have hb:=(kp X.oU.2.2 X.blk).trans X.blk;have hz:=q.size;refine⟨hb,⟨X.oU,X.bg,by rw[hss hb];simp,X.mx.to fun k o t f ht e=>(dx hb (by rcases ht with rfl|rfl;exact X.oU.1.symm;exact X.oU.2.1.symm) ((kp (by rcases ht with rfl|rfl<;>decide) e).trans e)).trans (kp (by rcases ht with rfl|rfl<;>decide) e),?_,⟨N,n1,aE,?_,fun h=>(n4 h).step aE fun k hk hg=>(hso (by exact hg)).trans (q.block k ab (fun e=>by have:=(n3.lt k e.symm).1;omega))⟩,X.un⟩,?_⟩
 ·refine⟨X.ok.m4,X.ok.h4,X.ok.hok,by show(p.ps++[s]).length<=300;rw[apo,apW];omega,fun r hr=>?_,X.ok.un,X.ok.ne⟩;rcases apR.1 hr with hr|hr
  ·exact X.ok.pk r hr
  ·rw[apE.1 hr];exact hs
 ·rw[apo,apW,Vm];exact aj O fun k o f e=>dx hb X.oU.2.2.symm e
 ·refine(Fx.grown q (fun k e=>.inr (.inr (.inr e))) (D':=Dm g M H P') ?_).trans (Fx.set (.inl rfl));rintro k (h|h|h|h)
  ·exact .inl (.inl h)
  ·exact .inl (.inr (.inl h))
  ·exact .inl (.inr (.inr (.inl h)))
  ·rcases hat k h with h|h
   ·exact .inl (.inr (.inr (.inr h)))
   ·exact .inr h
theorem Pr.vM {k r gh:Nat}(X:Pr ty B w g M (.slice (some ⟨gh,0,none⟩) p.hs.length hc) P U p)(hf:p.fr=false)(hk:k<p.hs.length)(h1:1<=r)(h2:r<=31)(hx:x<4294967296):Pr ty B (w.setCell ⟨gh,k*37+r,none⟩ (.int .u32 x)) g M (.slice (some ⟨gh,0,none⟩) p.hs.length hc) P U { p with hs:=p.hs.set k { hAt p k with regs:=(hAt p k).regs.set r x } }/\ Fx (Dm g M (.slice (some ⟨gh,0,none⟩) p.hs.length hc) P) (Dm g M (.slice (some ⟨gh,0,none⟩) p.hs.length hc) P) w (w.setCell ⟨gh,k*37+r,none⟩ (.int .u32 x)):=by
 obtain⟨N,n1,n2,n3,_⟩:=X.row;obtain⟨o1,o2⟩:=X.ok.hok _ (sP hk);have hg:p.hs[k]?=some (hAt p k):=by unfold hAt;rw[apV,api hk];rfl
 obtain⟨hb,Y⟩:=X.mx.set hg (show r<37 by omega) (yc o1 (show r<32 by omega) (x:Int)) (GI o1 o2 h1 h2 hx).1;have hh:∃o,w.heap[gh]?=some (.cells o 43 (0,0)):=by
  rcases X.mx.hrt.2 with⟨h0,_⟩|⟨k',cap,cur,hv,_,he,_⟩
  ·cases h0
  ·injection hv with hv;injection hv with hv;injection hv with hv;subst hv;exact⟨_,he⟩
 obtain⟨oh,he⟩:=hh;refine⟨⟨X.oU,X.bg,(dx he X.oU.2.1 X.blk).trans X.blk,Y,?_,⟨N,n1,by simpa using n2,aj n3 fun k o f e=>dx he an e,fun h=>by rw[show p.fr=true from h]at hf;cases hf⟩,X.un⟩,Fx.set (.inr (.inr (.inl rfl)))⟩;refine⟨X.ok.m4,by show(p.hs.set k _).length<=4;rw[ap6];exact X.ok.h4,fun h hm=>?_,X.ok.p3,X.ok.pk,fun h=>(by rw[show p.fr=true from h]at hf;cases hf),fun h=>by rw[show p.fr=true from h]at hf;cases hf⟩;rcases List.mem_or_eq_of_mem_set hm with hm|rfl
 ·exact X.ok.hok h hm
 ·exact GI o1 o2 h1 h2 hx
theorem Pr.Xy (X:Pr ty B w g M H P U p):∀i v,w.cell? ⟨g,i,none⟩=some v->∀z,v≠.int .u8 z/\v≠.int .u32 z:=by
 obtain⟨ma,mc,ha,hc,pa,pc,ua,un,uc,rfl,rfl,rfl,rfl,_⟩:=X.open;intro i v hv z;rw[cr X.blk]at hv
 match i,hv with
 |0,hv=>simp at hv;subst hv;simp
 |1,hv=>simp at hv;subst hv;simp
 |2,hv=>simp at hv;subst hv;simp
 |3,hv=>simp at hv;subst hv;simp
 |4,hv=>simp at hv;subst hv;simp
 |i+5,hv=>simp at hv
theorem Pr.ran {kF:List Uv}(X:Pr ty B w g M H P U p)(G:Gr w w1)(Q:Ch g w1 w2)(hb:w2.heap[g]?=some (.cells #[M',H',.slice none 0 0,U',.bool fr'] ty (0,0)))(Y:Mx w1 w.heap.size M' H' m' hs')(ok:lg ⟨m',hs',[],kF,fr'⟩)(hu:fr'=true->∃ua uc,U'=.slice ua kF.length uc/\kF.length<=uc/\Un w1 ua kF.length kF)(un:∃ua n uc,U'=.slice ua n uc):Pr ty B w2 g M' H' (.slice none 0 0) U' ⟨m',hs',[],kF,fr'⟩/\Fx (Dm g M H P) (Dm g M' H' (.slice none 0 0)) w w2:=by
 have X1:=X.gr G;have kp:∀{t:Nat},t≠ty->∀{k:Nat} {o:Array Value} {f:Nat×Nat},w1.heap[k]?=some (.cells o t f)->w2.heap[k]?=w1.heap[k]?:=by intro t ht k o f e;exact Q.block k (gs e).1 (fun h=>by injection h with h;exact aa e X1.blk ht h)
 have h1:=aj Y.mem fun k o f e=>kp X.oU.1.symm e
 have h2:=aj Y.hrt fun k o f e=>kp X.oU.2.1.symm e
 have up:∀{e sz n:Nat} {v:Value} {xs:List Value},w2.ownsRow w.heap.size e sz v n xs->w2.ownsRow B e sz v n xs:=fun h=>by
  rcases h with⟨a,b|⟨k,cap,cur,hv,hk,r⟩⟩
  ·exact⟨a,.inl b⟩
  ·exact⟨a,.inr ⟨k,cap,cur,hv,apr X.le hk,r⟩⟩
 refine⟨⟨X.oU,X.bg,hb,⟨up h1,up h2,Y.ok⟩,ok,⟨w1.heap.size,apr X.le G.size,Q.size,aur _ _ _ _,fun hf=>?_⟩,un⟩,?_⟩
 ·obtain⟨ua,uc,e,h3,h4⟩:=hu hf;exact⟨w1,ua,uc,e,h3,rfl,Q.size,h4,X1.Xy,fun k hk hg=>.inl (Q.block k hk (fun h=>by injection h with h;exact hg h))⟩
 ·refine⟨Q.os.trans G.os,Q.tape.trans G.tape,Q.output.trans G.output,apr G.size Q.size,fun k hk hd=>(Q.block k (apq hk G.size) (fun h=>by injection h with h;exact hd (.inl h))).trans (G.block k hk),?_⟩;rintro k (h|h|h|h)
  ·exact .inl (.inl h)
  ·exact .inr (Y.mem.lt k h).1
  ·exact .inr (Y.hrt.lt k h).1
  ·cases h
theorem Pr.aa0 (X:Pr ty B w g M H P U p)(G:Gr w w1)(Q:Ch g w1 w2)(hb:w2.heap[g]?=some (.cells #[M',H',P,U,.bool false] ty (0,0)))(Y:Mx w1 w.heap.size M' H' m' hs')(ok:lg { p with m:=m',hs:=hs',fr:=false }):Pr ty B w2 g M' H' P U { p with m:=m',hs:=hs',fr:=false }/\Fx (Dm g M H P) (Dm g M' H' P) w w2:=by
 have X1:=X.gr G;obtain⟨N,n1,n2,n3,_⟩:=X1.row;have kp:∀{t:Nat},t≠ty->∀{k:Nat} {o:Array Value} {f:Nat×Nat},w1.heap[k]?=some (.cells o t f)->w2.heap[k]?=w1.heap[k]?:=by intro t ht k o f e;exact Q.block k (gs e).1 (fun h=>by injection h with h;exact aa e X1.blk ht h)
 have h1:=aj Y.mem fun k o f e=>kp X.oU.1.symm e
 have h2:=aj Y.hrt fun k o f e=>kp X.oU.2.1.symm e
 have up:∀{e sz n:Nat} {v:Value} {xs:List Value},w2.ownsRow w.heap.size e sz v n xs->w2.ownsRow B e sz v n xs:=fun h=>by
  rcases h with⟨a,b|⟨k,cap,cur,hv,hk,r⟩⟩
  ·exact⟨a,.inl b⟩
  ·exact⟨a,.inr ⟨k,cap,cur,hv,apr X.le hk,r⟩⟩
 refine⟨⟨X.oU,X.bg,hb,⟨up h1,up h2,Y.ok⟩,ok,⟨N,n1,apr n2 Q.size,aj n3 fun k o f e=>kp X.oU.2.2.symm e,fun hf=>by cases hf⟩,X.un⟩,?_⟩;refine⟨Q.os.trans G.os,Q.tape.trans G.tape,Q.output.trans G.output,apr G.size Q.size,fun k hk hd=>(Q.block k (apq hk G.size) (fun h=>by injection h with h;exact hd (.inl h))).trans (G.block k hk),?_⟩;rintro k (h|h|h|h)
 ·exact .inl (.inl h)
 ·exact .inr (Y.mem.lt k h).1
 ·exact .inr (Y.hrt.lt k h).1
 ·exact .inl (.inr (.inr (.inr h)))
end Vp
namespace Vp
open Mm Hh Hc Mc Ud As
structure Gs (w:World) (b m:Nat) (Ls:List (List (List Nat))):Prop where
 len:Ls.length=m
 lt:b<w.heap.size
 at_:∀(i:Nat) (L:List (List Nat)),Ls[i]?=some L->∃a n c,w.cell? ⟨b,i,none⟩=some (.slice a n c)/\Ts w a n L/\(a=none->c=0)
theorem Gs.of {b m:Nat}{Ls:List (List (List Nat))}(h:Gs w b m Ls)(G:Gr w w'):Gs w' b m Ls:=
 ⟨h.len,apq h.lt G.size,fun i L hi=>by
  obtain⟨a,n,c,e,t,k⟩:=h.at_ i L hi;exact⟨a,n,c,(G.cell _ (by exact h.lt)).trans e,t.of G,k⟩⟩
theorem PK (hn:n<=1000000)(w:World):Calls prog 105 #[.slice none 0 0,.int .i64 n] w fun e w'=>∃a c,e=.returned (.slice a 0 c)/\w'.ownsRow w.heap.size 9 1 (.slice a 0 c) 0 []/\Gr w w':=by
 by_cases h0:n=0
 ·subst h0;go_enter func105,ntmps105;go_wp2_with fail;go_ret;exact⟨none,0,rfl,aur _ _ _ _,Gr.refl _⟩
 ·obtain⟨i0,hi,hz0,hz1,hz2⟩:=auz Cj;have hrz:∀ty,(Builtin.append_ #[22,3] ty #[.slice none 0 0,.int .i64 (n:Int)]).run prog w=.ok (.slice (some ⟨w.heap.size,0,none⟩) (0+n) (grownCap w (0+n) 0 9)) (w.drew.alloc (.cells ((#[]:Array Value)++Builtin.zeroCells (Value.string ⟨#[]⟩).cells n++Builtin.zeroCells (Value.string ⟨#[]⟩).cells (grownCap w (0+n) 0 9-(0+n))) 9)):=fun ty=>
   Lib.run_append_grow_zeros w 22 3 ty 9 i0 (.string ⟨#[]⟩) .i64 .i64 underlying22 underlying3 hi hz0 none 0 0 [] (run_firstCells_none w.drew i0.size 0 0 0) n ab ab ab ab (by rw[hz2];omega) (by rw[hz2];exact growslice_fits ab ab)
  have hle:Hid _:=grownCap_le_maxLen w (0+n) 0 9 bj;have hge:Hid (0+n<=grownCap w (0+n) 0 9):=grownCap_ge w _ _ _;rw[apu]at *
  generalize grownCap w n 0 9=C at *
  have hcs:Hid (((#[]:Array Value)++Builtin.zeroCells (Value.string ⟨#[]⟩).cells n++Builtin.zeroCells (Value.string ⟨#[]⟩).cells (C-n)).size=C*1):=by
   have:=hge.out;unfold Hid Builtin.zeroCells;simp[Value.cells];omega
  generalize((#[]:Array Value)++Builtin.zeroCells (Value.string ⟨#[]⟩).cells n++Builtin.zeroCells (Value.string ⟨#[]⟩).cells (C-n))=cells at *
  go_enter func105,ntmps105;go_wp2_with (at_builtin;refine Lib.wpList_append_run _ rfl _ _ _ _ rfl _ _ rfl rfl _ _ (hrz _) ?_);go_ret;exact⟨_,_,rfl,avf w.drew cells C (apn _) hle hcs,Below.drew ((Gr.refl w).alloc _)⟩
def fl (Ls:List (List (List Nat))) (k:Nat):Nat:=(Ls.take k).flatten.length
def fm (Ls:List (List (List Nat))) (k:Nat):List Value:=(Ls.take k).flatten.map str
theorem xN {Ls:List (List (List Nat))}(h:Ls[k]?=some L):(Ls.take (k+1)).flatten=(Ls.take k).flatten++L:=by rw[apU,h];simp
theorem zH {Ls:List (List (List Nat))}(k:Nat):(Ls.take k).flatten.length<=Ls.flatten.length:=by
 conv=>rhs;rw[<-aqd k Ls,List.flatten_append,apo]
 omega
theorem ES {m:Nat}{Ls:List (List (List Nat))}(S:Gs w b m Ls)(hz:Ls.flatten.length<=1000000)(hm:m<=1000000):Calls prog 81 #[.slice (some ⟨b,0,none⟩) m c] w fun e w'=>∃a k,e=.returned (.slice a (fl Ls m) k)/\w'.ownsRow w.heap.size 9 1 (.slice a (fl Ls m) k) (fl Ls m) (fm Ls m)/\Gr w w':=by
 obtain⟨i0,hi,hz0,hz1,hz2⟩:=auz Cj;have HS:=kH S;have HZ:=kH hz;go_enter func81,ntmps81;go_wp2_with fail;go_loopw [3,11] (fun s i wr=>∃k:Nat,k<=m/\i=.int .i64 k/\s=.int .i64 (fl Ls k:Nat)/\w=wr) (fun _ i _=>m-(intOf i).toNat)
 case atStart=>exact⟨0,apF _,rfl,rfl,rfl⟩
 case round=>
  obtain⟨k,hk,rfl,rfl,rfl⟩:=hrel;by_cases hlt:k<m
  ·obtain⟨L,hL⟩:∃L,Ls[k]?=some L:=⟨_,api (by rw[HS.out.len];exact hlt)⟩;obtain⟨a,n,cc,e,t,_⟩:=HS.at_ k L hL;have hf:=xN hL;have h1:(fl Ls (k+1))<=Ls.flatten.length:=zH (Ls:=Ls) (k+1);have hn:=t.len;have hl:(fl Ls (k+1))=(fl Ls k)+n:=by unfold fl;rw[hf,apo,hn]
   have h2:=HZ;have HR:=kH hl;rw[hl]at h1;generalize(fl Ls k)=q at *
   have q1:q+n<=1000000:=ab;have hw:IntKind.i64.wrap ((q:Int)+(n:Int))=(q:Int)+(n:Int):=by rw[auQ];omega
   have hd:decide ((q:Int)+(n:Int)<0)=false:=auh ab;go_wp2_with fail;go_roundw
   case rel=>exact⟨k+1,ab,by go_num,by rw[HR.out];go_num,by first|exact rfl|trivial⟩
   case measure=>simp[intOf];omega
  ·have e0:k=m:=ab;subst e0;have HZ2:Hid _:=apr (zH k) HZ;have Xb:Hid (∀W:World,_):=fun W=>PK HZ2 W
   go_wp2_with fail;refine(Xb _).mono ?_;rintro e w1 ⟨a0,c0,rfl,O0,G0⟩;have HO0:=kH O0;have oJ:=kH G0;go_wp2_with fail;go_loopw [6,27] (fun s i wr=>∃j:Nat,j<=k/\i=.int .i64 j/\(∃a c,s=.slice a (fl Ls j) c)/\wr.ownsRow w.heap.size 9 1 s (fl Ls j) (fm Ls j)/\Gr w wr) (fun _ i _=>k-(intOf i).toNat)
   case atStart=>exact⟨0,apF _,rfl,⟨a0,c0,rfl⟩,HO0,oJ⟩
   case round=>
    obtain⟨j,hj,rfl,⟨a1,c1,rfl⟩,O,G⟩:=hrel;have HG:=kH G;by_cases hlt2:j<k
    ·obtain⟨L,hL⟩:∃L,Ls[j]?=some L:=⟨_,api (by rw[HS.out.len];exact hlt2)⟩;obtain⟨a,n,cc,e,t,hcn⟩:=HS.at_ j L hL;have k1:=(G.cell _ (by exact HS.lt)).trans e;have hf:=xN hL;have h1:(fl Ls (j+1))<=Ls.flatten.length:=zH (Ls:=Ls) (j+1);have hn:=t.len;have hl:(fl Ls (j+1))=(fl Ls j)+n:=by unfold fl;rw[hf,apo,hn]
     have h2:=HZ;have HR:=kH hl;have HF:Hid (fm Ls (j+1)=fm Ls j++L.map str):=by unfold Hid fm;rw[hf,aqb]
     rw[hl]at h1;have HO:=kH O;have HT:Hid _:=aaz (t.of G) hcn;have H1:Hid _:=UW L;generalize fm Ls j=old at *
     generalize(fl Ls j)=q at *
     generalize L.map str=news at *
     have q1:q+n<=1000000:=ab;go_wp2_with (at_builtin;refine pY rfl (.tmp 31) (.tmp 32) rfl underlying22 hi hz0 hz1 hz2 rfl an (v:=.slice a1 q c1) (vx:=.slice a n cc) rfl rfl HO HT H1 bj ab (HG.size) ?_;intro v' w2 hown hgrow;obtain⟨_,_,a2,c2,rfl⟩:=az hown);have kY:=kH hown;have HG2:=kH (HG.grown hgrow (fun b hb=>(HO.lt b hb).1));go_wp2_with fail;go_roundw
     case rel=>exact⟨j+1,ab,by go_num,⟨a2,c2,by rw[HR.out]⟩,by rw[HR.out,HF.out];exact kY,HG2⟩
     case measure=>simp[intOf];omega
    ·have e0:j=k:=ab;subst e0;have HO:=kH O;go_wp2_with fail;go_ret;exact⟨a1,c1,rfl,HO,HG⟩
def jn:List (List Nat)→List Nat
 | []=>[]
 |a::r=>r.foldl (fun t x=>t++32::x) a
theorem xO:∀(r:List (List Nat)) (a:List Nat),r.foldl (fun t x=>t++32::x) a=a++(r.map (32::·)).flatten
 | [],a=>aq
 |x::r,a=>by
  rw[List.foldl_cons,xO r];simp
theorem Hd (a:List Nat)(r:List (List Nat)):jn (a::r)=a++(r.map (32::·)).flatten:=xO r a
theorem He (L:List (List Nat)):Lib.join ((L.map bs).map (·.data.toList)) [32]=(jn L).map UInt8.ofNat:=by
 cases L with
 |nil=>rfl
 |cons a r=>
  rw[aqo,aqo,Lib.join_cons,bU];unfold Lib.joinTail;rw[Hd,aqb];congr 1;induction r with
  |nil=>rfl
  |cons x r ih=>
   simp only[aqo,aqz,aqb]at ih ⊢;rw[ih,bU];rfl
theorem aa1 (h:∀x∈L,x.length<=40):(jn L).length<=41*L.length:=by
 cases L with
 |nil=>simp[jn]
 |cons a r=>
  rw[Hd,apo];have h1:=h a aq;have h2:∀r:List (List Nat),(∀x∈r,x.length<=40)->((r.map (32::·)).flatten).length<=41*r.length:=by
   intro r;induction r with
   |nil=>simp
   |cons x r ih=>
    intro h;have h3:=h x aq;have h4:=ih (fun y hy=>h y (by simp[hy]));simp only[aqo,aqz,apo,apH];omega
  have h3:=h2 r (fun x hx=>h x (by simp[hx]));simp only[apH];omega
theorem sS (W:List Nat)(l:List Nat):bH W l=jn (W::l.map dg):=by
 unfold bH;show _=(l.map dg).foldl (fun t x=>t++32::x) W
 rw[List.foldl_map]
theorem Vn (Ls:List (List (List Nat))){m:Nat}(h:Ls.length=m):fl Ls m=Ls.flatten.length/\fm Ls m=Ls.flatten.map str:=by unfold fl fm;rw[ap0 ab];exact⟨rfl,rfl⟩
theorem jv {m c:Nat}{Ls:List (List (List Nat))}(S:Gs w b m Ls)(hz:Ls.flatten.length<=1000000)(hm:m<=1000000)(h0:0<Ls.flatten.length)(hx:∀x∈Ls.flatten,x.length<=40):Calls prog 51 #[.slice (some ⟨b,0,none⟩) m c] w fun e w'=>e=.returned (str (jn Ls.flatten))/\Gr w w':=by
 have HC:Hid (Calls prog 81 #[.slice (some ⟨b,0,none⟩) m c] w fun e w'=>∃g n k,e=.returned (.slice (some ⟨g,0,none⟩) n k)/\(∀W,Gr w' W->Calls prog 80 #[.slice (some ⟨g,0,none⟩) n k,.string ⟨#[32]⟩] W fun e w2=>e=.returned (str (jn Ls.flatten))/\Gr W w2)/\Gr w w'):=(ES S hz hm).mono fun e w' ⟨a,k,he,O,G⟩=>by
  obtain⟨e1,e2⟩:=Vn Ls S.len;rw[e1]at he O;rw[e2]at O;have hlen:=aa1 hx;obtain⟨_,h⟩:=O;rcases h with⟨h1,h2⟩|⟨g,cap,cur,hv,_,hg,hc,_,hz,ht⟩
  ·omega
  ·injection hv with hv _ hk;subst hv hk;refine⟨g,_,_,he,fun W GW=>?_,G⟩;have hj:=Tryz.strings_Join g 0 k (Ls.flatten.map bs) ⟨#[32]⟩ W (fun j x hj=>by
    rw[apT]at hj;obtain⟨y,hy,rfl⟩:=aqv.1 hj;rw[apu];refine(GW.cell _ (by exact(gs hg).1)).trans ?_;rw[cr hg];have e:=congrArg (fun l=>l[j]?) ht;simp only[apT,hy,ap7]at e;rw[apS]at e;split at e
    ·rw[aqD]at e;exact e
    ·cases e) (apq (gs hg).1 GW.size) (by rw[apY];omega) (by rw[apY];exact hc) (by
     show(Lib.join _ [32]).length<=_
     rw[He,apY];omega)
   rw[apY]at hj;refine hj.mono fun e w2 ⟨he,G2⟩=>⟨?_,G2⟩
   rw[he];show Ending.returned (.string ⟨(Lib.join _ [32]).toArray⟩)=_
   rw[He];rfl
 generalize str (jn Ls.flatten)=V at *
 go_enter func51,ntmps51;go_wp2_with fail;refine HC.mono ?_;rintro e w1 ⟨g,n,k,rfl,HJ,G1⟩;have HJ2:=kH (HJ w1 (Gr.refl _));go_wp2_with fail;refine HJ2.mono ?_;rintro e w2 ⟨rfl,G2⟩;go_wp2_with fail;go_ret;exact⟨rfl,G1.trans G2⟩
theorem oP {W:List Nat}(h:w.heap[b]?=some (.cells #[str W] t f)):Ts w (some ⟨b,0,none⟩) 1 [W]:=
 ⟨rfl,fun _=>⟨b,0,rfl,(gs h).1,fun i x hi=>by
  obtain rfl:i=0:=by
   have:=(apj.1 hi).1;simp at this;omega
  simp only[apw,auj]at hi;subst hi;exact iE h⟩⟩
theorem Vy {c:Nat}{W:List Nat}(N:Ns .i64 w ao n l)(hl:∀x∈l,x<9223372036854775808)(hn:n<=100000)(hW:W.length<=40)(T:gz w):Calls prog 76 #[str W,.slice ao n c] w fun e w'=>e=.returned (str (bH W l))/\Gr w w':=by
 have HT:Hid (∀x,Calls prog 52 #[.slice ao n c] (w.alloc x) fun e w'=>∃a k,e=.returned (.slice a n k)/\(Ts w' a n (l.map dg)/\(a=none->k=0))/\Gr (w.alloc x) w'):=fun x=>(OY (N.of ((Gr.refl _).alloc x)) hl ab (T.of ((Gr.refl _).alloc x))).mono fun e w' ⟨a,k,he,O,G⟩=>⟨a,k,he,⟨Ts.own O,mh O⟩,G⟩
 have HJ:Hid (∀(W0:World) (b:Nat),Gs W0 b 2 [[W],l.map dg]->Calls prog 51 #[.slice (some ⟨b,0,none⟩) 2 2] W0 fun e w'=>e=.returned (str (bH W l))/\Gr W0 w'):=fun W0 b S=>by
  have hl2:l.length<=100000:=by have:=N.len;omega
  have:=jv (c:=2) S aE ab aq (fun x hx=>by
   simp only[aqz,aqT,apz,apR,apE,apK]at hx;rcases hx with rfl|⟨y,hy,rfl⟩
   ·exact hW
   ·have:=x8 19 y (by have:=hl y hy;omega);omega)
  rw[sS];simpa using this
 rw[show str W=.string (bs W)from rfl]at *
 have HB:Hid (∀(b:Nat) (w:World) (t:Nat) (f:Nat×Nat),w.heap[b]?=some (.cells #[.string (bs W)] t f)->_):=fun b w t f h=>oP h
 generalize bs W=B at *
 generalize str (bH W l)=V at *
 go_enter func76,ntmps76;go_wp2_with fail;refine(HT _).mono ?_;rintro e w1 ⟨a,k,rfl,HTs,G1⟩;have aU:=kH (br.trans G1);have HT1:Hid _:=HB _ _ _ _ (Hr.ae G1 (at5 w _));have HT2:=kH HTs;have HGs:Hid (Gs (w1.alloc (.cells #[.slice (some ⟨w.heap.size,0,none⟩) 1 1,.slice a n k] 22)) w1.heap.size 2 [[W],l.map dg]):=by
  have hb:=at5 w1 (.cells #[.slice (some ⟨w.heap.size,0,none⟩) 1 1,.slice a n k] 22);refine⟨rfl,(gs hb).1,fun i L hi=>?_⟩
  match i,hi with
  |0,hi=>
   simp only[apw,auj]at hi;subst hi;exact⟨_,_,_,iE hb,HT1.of br,fun h=>by cases h⟩
  |1,hi=>
   simp only[apI,apw,auj]at hi;subst hi;exact⟨_,_,_,iY hb,HT2.1.of br,HT2.2⟩
 go_wp2_with fail;refine(HJ _ _ HGs).mono ?_;rintro e w2 ⟨rfl,G2⟩;go_wp2_with fail;go_ret;exact⟨rfl,(aU.alloc _).trans G2⟩
theorem VA {c:Nat}{W:List Nat}(N:Ns .i64 w ao n l)(hl:∀x∈l,x<9223372036854775808)(hn:n<=100000)(hW:W.length<=40)(T:gz w):Calls prog 103 #[str W,.slice ao n c] w fun e w'=>e=.returned (str (bH W l))/\Gr w w':=by
 have HT:Hid (∀x,Calls prog 128 #[.slice ao n c] (w.alloc x) fun e w'=>∃a k,e=.returned (.slice a n k)/\(Ts w' a n (l.map dg)/\(a=none->k=0))/\Gr (w.alloc x) w'):=fun x=>(aaB (N.of ((Gr.refl _).alloc x)) hl ab (T.of ((Gr.refl _).alloc x))).mono fun e w' ⟨a,k,he,O,G⟩=>⟨a,k,he,⟨Ts.own O,mh O⟩,G⟩
 have HJ:Hid (∀(W0:World) (b:Nat),Gs W0 b 2 [[W],l.map dg]->Calls prog 51 #[.slice (some ⟨b,0,none⟩) 2 2] W0 fun e w'=>e=.returned (str (bH W l))/\Gr W0 w'):=fun W0 b S=>by
  have hl2:l.length<=100000:=by have:=N.len;omega
  have:=jv (c:=2) S aE ab aq (fun x hx=>by
   simp only[aqz,aqT,apz,apR,apE,apK]at hx;rcases hx with rfl|⟨y,hy,rfl⟩
   ·exact hW
   ·have:=x8 19 y (by have:=hl y hy;omega);omega)
  rw[sS];simpa using this
 rw[show str W=.string (bs W)from rfl]at *
 have HB:Hid (∀(b:Nat) (w:World) (t:Nat) (f:Nat×Nat),w.heap[b]?=some (.cells #[.string (bs W)] t f)->_):=fun b w t f h=>oP h
 generalize bs W=B at *
 generalize str (bH W l)=V at *
 go_enter func103,ntmps103;go_wp2_with fail;refine(HT _).mono ?_;rintro e w1 ⟨a,k,rfl,HTs,G1⟩;have aU:=kH (br.trans G1);have HT1:Hid _:=HB _ _ _ _ (Hr.ae G1 (at5 w _));have HT2:=kH HTs;have HGs:Hid (Gs (w1.alloc (.cells #[.slice (some ⟨w.heap.size,0,none⟩) 1 1,.slice a n k] 22)) w1.heap.size 2 [[W],l.map dg]):=by
  have hb:=at5 w1 (.cells #[.slice (some ⟨w.heap.size,0,none⟩) 1 1,.slice a n k] 22);refine⟨rfl,(gs hb).1,fun i L hi=>?_⟩
  match i,hi with
  |0,hi=>
   simp only[apw,auj]at hi;subst hi;exact⟨_,_,_,iE hb,HT1.of br,fun h=>by cases h⟩
  |1,hi=>
   simp only[apI,apw,auj]at hi;subst hi;exact⟨_,_,_,iY hb,HT2.1.of br,HT2.2⟩
 go_wp2_with fail;refine(HJ _ _ HGs).mono ?_;rintro e w2 ⟨rfl,G2⟩;go_wp2_with fail;go_ret;exact⟨rfl,(aU.alloc _).trans G2⟩
end Vp
namespace Vp
open Mm Hh Hc Mc Ud As
variable{w w':World}{g B:Nat}{M H P U:Value}{p:Pl}
theorem fE.mk {ty:Nat}{e:Ending}{M' H' P' U':Value}{r:Pl×List Nat}{w1:World}(he:e=.returned (str r.2))(X:Pr ty B w1 g M' H' P' U' r.1)(F:Fx (Dm g M H P) (Dm g M' H' P') w w1)(G:Gr w1 w'):fE ty B w g M H P r e w':=⟨he,M',H',P',U',X.gr G,F.gr G⟩
theorem dE (X:Pr 71 B w g M H P U p):Calls prog 77 #[.pointer (some ⟨g,0,none⟩),.int .u32 k] w fun e w'=>e=.returned (.bool (decide (k<p.hs.length)))/\w=w':=by
 obtain⟨ma,mc,ha,hc,pa,pc,ua,un,uc,rfl,rfl,rfl,rfl,_⟩:=X.open;have h4:=X.ok.h4;have z1:=iY X.blk;have hw:IntKind.u32.wrap (p.hs.length:Int)=(p.hs.length:Int):=by rw[IntKind.wrap_u32];omega
 have hd:decide ((k:Int)<(p.hs.length:Int))=decide (k<p.hs.length):=aq;generalize p.hs.length=n at *
 go_enter func77,ntmps77;go_wp2_with fail;go_ret;exact⟨aq,rfl⟩
theorem aa2:(prog.info? 43).map (fun i=>(i.zero,i.size,i.bytes))=some (some (.agg (hA ⟨List.replicate 32 0,0,false,0,0,0⟩)),37,160):=al
theorem PM (h:Hv):∀u∈hL h,u.oneCell'=true:=by
 intro u hu;unfold hL at hu;rcases apR.1 hu with hu|hu
 ·obtain⟨b,_,rfl⟩:=apK.1 hu;rfl
 ·simp only[apx,apB,auw]at hu;rcases hu with rfl|rfl|rfl|rfl|rfl<;>rfl
theorem PN (w:World)(a:Addr)(v:Value)(o:Obj):((w.setCell a v).alloc o).heap[w.heap.size]?=some o:=by have:=at5 (w.setCell a v) o;rwa[show(w.setCell a v).heap.size=w.heap.size by simp]at this
theorem iHz:(prog.info? 43).map (fun i=>(i.zero.isSome,i.size))=some (true,37):=al
theorem J9 (x:Int):prog.built 43 [(1,.int .u32 x)]=some (hA ⟨List.replicate 32 0,x,false,0,0,0⟩):=al
theorem rq (h:w.heap[b]?=some (.cells #[.int K x] t f)):Ns K w (some ⟨b,0,none⟩) 1 [x]:=
 ⟨rfl,fun _=>⟨b,0,rfl,(gs h).1,fun i y hi=>by
  obtain rfl:i=0:=by
   have:=(apj.1 hi).1;simp at this;omega
  simp only[apw,auj]at hi;subst hi;exact iE h⟩⟩
theorem ET {x:Nat}(hx:x<=1000000){W:World}(h:W.heap[b]?=some (.cells #[.int .i64 x] t f))(T:gz W):Calls prog 76 #[.string ⟨#[111,107]⟩,.slice (some ⟨b,0,none⟩) 1 1] W fun e w'=>e=.returned (str (bH Cf [x]))/\Gr W w':=Vy (c:=1) (rq h) (fun y hy=>by rw[apE.1 hy];omega) ab an T
theorem PO (hx:x<4294967296)(X:Pr 71 B w g M H P U p)(T:∀{W:World},Below B w W->gz W):Calls prog 44 #[.pointer (some ⟨g,0,none⟩),.int .u32 x] w (fE 71 B w g M H P (uV p [x])):=by
 have h4:=X.ok.h4;by_cases hc:p.hs.length<4
 ·obtain⟨ma,mc,ha,hc0,pa,pc,ua,un,uc,rfl,rfl,rfl,rfl,_⟩:=X.open;obtain⟨i0,hi,hz0,hz1,hz2⟩:=auz aa2;obtain⟨X1,F1⟩:=X.down;have ok1:=UT hx;have e:uV p [x]=({ p with hs:=p.hs++[jr x],fr:=false },bH Cf [p.hs.length+1]):=by simp only[uV,at7 hc]
  rw[e];have z1:=iY X.blk;have f4:w.frozen? ⟨g,4,none⟩=false:=lh X.blk;have y1:=iY X1.blk;have z4:=E9 X.blk;have kL:=kH X1;have rY:=kH F1;have HT:Hid (∀{W:World},Below B w W->gz W):=T;have hlen:(hA (jr x)).size=37:=by show(hL _).toArray.size=37;rw[ap2];exact aD ok1.1
  have KW:=kH hlen;have HBT:=kH (J9 x);have HON:=kH (PM (jr x));have zR:=kH ok1;have HLE:Hid (p.hs.length+1<=4):=by unfold Hid;omega
  have HBL:=kH X.le;have ZH:=kH X.dom;have HN:Hid (∀(W:World) (b:Nat),Below B w W->W.heap[b]?=some (.cells #[.int .i64 ((p.hs.length:Int)+1)] 3 (0,0))->_):=fun W b hb h=>ET (x:=p.hs.length+1) ab h (HT.out hb)
  have HOW:Hid (∀o,_):=fun o=>aC kL.mx.hrt ((Gr.refl _).alloc o)
  have aik:Hid (∀(W:World) (j:Nat) (u:Value),(hL (jr x))[j]?=some u->(W.alloc (.cells (hA (jr x)) 43)).cell? ((⟨W.heap.size,0,none⟩:Addr).add j)=some u):=fun W j u hj=>by
   rw[cz,apu,cr (at5 W _)];show(hL (jr x)).toArray[j]?=some u
   rw[apm];exact hj
  have xD:=kH (aD zR.1);have HAP:Hid (∀(o:Obj) (w2:World) (H':Value),((w.setCell ⟨g,4,none⟩ (.bool false)).alloc o).grownBy w2 (Value.slice ha p.hs.length hc0).ownBlock->w2.ownsRow B 43 37 H' (p.hs.length+1) (hC p.hs++hL (jr x))->(∀k,H'.ownBlock=some k->(Value.slice ha p.hs.length hc0).ownBlock=some k\/((w.setCell ⟨g,4,none⟩ (.bool false)).alloc o).heap.size<=k)->
    w2.heap[g]?=some (.cells #[.slice ma p.m.length mc,.slice ha p.hs.length hc0,.slice pa p.ps.length pc,.slice ua un uc,.bool false] 71 (0,0))/\Pr 71 B (w2.setCell ⟨g,1,none⟩ H') g (.slice ma p.m.length mc) H' (.slice pa p.ps.length pc) (.slice ua un uc) { p with hs:=p.hs++[jr x],fr:=false }/\Fx (Dm g (.slice ma p.m.length mc) (.slice ha p.hs.length hc0) (.slice pa p.ps.length pc)) (Dm g (.slice ma p.m.length mc) H' (.slice pa p.ps.length pc)) w (w2.setCell ⟨g,1,none⟩ H')):=fun o w2 H' q O hat=>by
   obtain⟨a,b,c⟩:=(kL.gr ((Gr.refl _).alloc o)).aif rfl zR HLE q O hat;exact⟨a,b,(rY.gr ((Gr.refl _).alloc o)).trans c⟩
  have hq1:=HLE;generalize p.hs.length=q at *
  have HZ:Hid (B<=(w.setCell ⟨g,4,none⟩ (.bool false)).heap.size):=by have:=HBL.out;unfold Hid;simpa using this
  go_enter func44,ntmps44
  go_wp2_with (first
   |(refine au9 rfl 43 _ rfl _ rfl (hA (jr x)) (by have:=HBT;simp[Act.eval,Act.put];exact this) ?_)
   |(refine vS rfl 26 43 (.tmp 22) rfl (hA (jr x)) 37 rfl KW underlying26 iHz an an ?_)
   |(at_builtin;refine gU rfl (.tmp 20) (.tmp 23) rfl underlying26 hi hz0 hz1 hz2 rfl an (.slice ha q hc0) (hC p.hs) rfl (HOW.out _) ⟨(w.setCell ⟨g,4,none⟩ (.bool false)).heap.size,0,none⟩ 1 1 (hL (jr x)) rfl (by rw[xD.out]) (aik.out _) HON.out bj ab (by have:=HZ.out;simp at this ⊢;omega) ?_;intro v' w2 hown hgrow hat;obtain⟨_,_,a2,c2,rfl⟩:=az hown;obtain⟨hb2,X2,F2⟩:=HAP.out _ _ _ hgrow hown hat;have HX2:Hid _:=X2;have pX:Hid (Fx _ _ _ _):=F2;have j1:=iY hb2;have j2:w2.frozen? ⟨g,1,none⟩=false:=lh hb2;clear hown hgrow hat hb2 X2 F2))
  refine(HN.out _ _ ((pX.out.gr br).below (fun k hk=>(ZH.out k hk).1) HBL.out) (PN _ _ _ _)).mono ?_;rintro e w3 ⟨rfl,G3⟩;go_wp2_with fail;go_ret;exact fE.mk rfl HX2 pX (br.trans G3)
 ·have e:uV p [x]=(p,aQ):=by simp only[uV,at6 hc]
  rw[e];obtain⟨ma,mc,ha,hc0,pa,pc,ua,un,uc,rfl,rfl,rfl,rfl,_⟩:=X.open;have z1:=iY X.blk;have HX:=kH X;generalize hq:p.hs.length=n at *
  have h5:n=4:=ab;go_enter func44,ntmps44;go_wp2_with fail;go_ret;exact⟨rfl,_,_,_,_,HX,Fx.refl _ _⟩
theorem Hg {hs:List Hv}(h:w.ownsRow B 43 37 (.slice ha n c) n (hC hs))(hn:0<n):∃gh o,ha=some ⟨gh,0,none⟩/\w.heap[gh]?=some (.cells o 43 (0,0)):=by
 rcases h.2 with⟨_,h0⟩|⟨k,cap,cur,hv,_,he,_⟩
 ·omega
 ·injection hv with hv;exact⟨k,cur,hv,he⟩
theorem VB {r:Nat}(hx:x<4294967296)(X:Pr 71 B w g M H P U p)(hk:k<p.hs.length)(h1:1<=r)(h2:r<=31):Calls prog 45 #[.pointer (some ⟨g,0,none⟩),.int .u32 k,.int .u32 r,.int .u32 x] w (fE 71 B w g M H P (Cg p [k,r,x])):=by
 have e:Cg p [k,r,x]=({ p with hs:=p.hs.set k { hAt p k with regs:=(hAt p k).regs.set r x },fr:=false },Cf):=by simp only[Cg,at7 (show k<p.hs.length/\1<=r/\r<=31 from⟨hk,h1,h2⟩)]
 rw[e];have h4:=X.ok.h4;obtain⟨ma,mc,ha,hc0,pa,pc,ua,un,uc,rfl,rfl,rfl,rfl,_,_,hH,_⟩:=X.open;obtain⟨gh,oh,rfl,he⟩:=Hg X.mx.hrt ab;have GU:Hid (∀W:World,Pr 71 B W g (.slice ma p.m.length mc) (.slice (some ⟨gh,0,none⟩) p.hs.length hc0) (.slice pa p.ps.length pc) (.slice ua un uc) { p with fr:=false }->Calls prog 77 #[.pointer (some ⟨g,0,none⟩),.int .u32 k] W fun e w'=>e=.returned (.bool true)/\W=w'):=fun W Y=>(dE Y).mono fun e w' ⟨a,b⟩=>⟨by rw[a];exact congrArg (fun t=>Ending.returned (.bool t)) (auq hk),b⟩
 obtain⟨X1,F1⟩:=X.down;obtain⟨X2,F2⟩:=Pr.vM (p:={ p with fr:=false }) (k:=k) X1 rfl hk h1 h2 hx;have f4:w.frozen? ⟨g,4,none⟩=false:=lh X.blk;have z4:=E9 X.blk;have y1:=iY X1.blk;have he1:=(dx (i:=4) (v:=.bool false) X.blk an he).trans he;have fh:(w.setCell ⟨g,4,none⟩ (.bool false)).frozen? ⟨gh,k*37+r,none⟩=false:=lh he1;obtain⟨v0,hv0⟩:∃v0,(w.setCell ⟨g,4,none⟩ (.bool false)).cell? ⟨gh,k*37+r,none⟩=some v0:=by
  obtain⟨b,o,e2,_,hc⟩:=hH.spot ab;injection e2 with e2;injection e2 with e3 e4;subst e3 e4;have h5:=lC (hH.ok _ (sP hk)) (show r<32 by omega);have h6:=hc k (hAt p k) (by unfold hAt;rw[apV,api hk];rfl) r _ h5;rw[apu]at h6;exact⟨_,(aui (a:=⟨gh,k*37+r,none⟩) (dx (i:=4) (v:=.bool false) X.blk an he)).trans h6⟩
 have d1:decide ((r:Int)<1)=false:=auh ab;have d2:decide ((r:Int) > 31)=false:=auh ab;have d3:decide ((31:Int)<r)=false:=auh ab;have k0:(k:Int)<(p.hs.length:Int):=ab;have r0:(r:Int)<32:=ab;have kL:=kH X1;have HX2:=kH X2;have pX:=kH (F1.trans F2);generalize p.hs.length=n at *
 go_enter func45,ntmps45;go_wp2_with fail;refine(GU _ kL).mono ?_;rintro e w1 ⟨rfl,rfl⟩;go_wp2_with fail;go_ret;exact fE.mk rfl HX2 pX (Gr.refl _)
theorem aa5 {r:Nat}(X:Pr 71 B w g M H P U p)(hn:¬(k<p.hs.length/\1<=r/\r<=31)):Calls prog 45 #[.pointer (some ⟨g,0,none⟩),.int .u32 k,.int .u32 r,.int .u32 x] w (fE 71 B w g M H P (Cg p [k,r,x])):=by
 have e:Cg p [k,r,x]=({ p with fr:=false },aQ):=by simp only[Cg,at6 hn]
 rw[e];have GU:Hid (∀W:World,Pr 71 B W g M H P U { p with fr:=false }->Calls prog 77 #[.pointer (some ⟨g,0,none⟩),.int .u32 k] W fun e w'=>e=.returned (.bool (decide (k<p.hs.length)))/\W=w'):=fun W Y=>(dE Y).mono fun e w' ⟨a,b⟩=>⟨a,b⟩
 obtain⟨X1,F1⟩:=X.down;have f4:w.frozen? ⟨g,4,none⟩=false:=lh X.blk;have z4:=E9 X.blk;have kL:=kH X1;have rY:=kH F1;by_cases hk:k<p.hs.length
 ·rw[auq hk]at GU;by_cases h1:1<=r
  ·have d1:decide ((r:Int)<1)=false:=auh ab;have d2:decide ((r:Int) > 31)=true:=auq ab;have d3:decide ((31:Int)<r)=true:=auq ab;go_enter func45,ntmps45;go_wp2_with fail;refine(GU _ kL).mono ?_;rintro e w1 ⟨rfl,rfl⟩;go_wp2_with fail;go_ret;exact fE.mk rfl kL rY (Gr.refl _)
  ·have d1:decide ((r:Int)<1)=true:=auq ab;go_enter func45,ntmps45;go_wp2_with fail;refine(GU _ kL).mono ?_;rintro e w1 ⟨rfl,rfl⟩;go_wp2_with fail;go_ret;exact fE.mk rfl kL rY (Gr.refl _)
 ·rw[auh hk]at GU;go_enter func45,ntmps45;go_wp2_with fail;refine(GU _ kL).mono ?_;rintro e w1 ⟨rfl,rfl⟩;go_wp2_with fail;go_ret;exact fE.mk rfl kL rY (Gr.refl _)
theorem aa6:(prog.info? 45).map (fun i=>(i.zero,i.size,i.bytes))=some (some (.agg #[.int .i64 0,.int .i64 0]),2,16):=al
theorem VC {x y:Value}(h:w.heap[b]?=some (.cells #[x,y] t f)):∀j u,([x,y]:List Value)[j]?=some u->w.cell? ((⟨b,0,none⟩:Addr).add j)=some u:=by intro j u hj;rw[cz,apu,cr h];simpa using hj
theorem PQ (x y:Int):∀u∈[Value.int .i64 x,.int .i64 y],u.oneCell'=true:=by intro u hu;simp only[apx,apB,auw]at hu;rcases hu with rfl|rfl<;>rfl
theorem PR (hk:k<4294967296)(hn:n<4294967296)(X:Pr 71 B w g M H P U p)(T:∀{W:World},Below B w W->gz W):Calls prog 46 #[.pointer (some ⟨g,0,none⟩),.int .u32 k,.int .u32 n] w (fE 71 B w g M H P (uW p [k,n])):=by
 obtain⟨ma,mc,ha,hc0,pa,pc,ua,un,uc,rfl,rfl,rfl,rfl,_⟩:=X.open;have z2:=E8 X.blk;have p3:=X.ok.p3;by_cases hc:p.ps.length<300
 ·have e:uW p [k,n]=({ p with ps:=p.ps++[((k:Int),(n:Int))] },bH Cf [p.ps.length+1]):=by simp only[uW,at7 hc]
  rw[e];obtain⟨i0,hi,hz0,hz1,hz2⟩:=auz aa6;obtain⟨N,n1,n2,n3,n4⟩:=X.row;have HBL:=kH X.le;have ZH:=kH X.dom;have HN:Hid (∀(W:World) (b:Nat),Below B w W->W.heap[b]?=some (.cells #[.int .i64 ((p.ps.length:Int)+1)] 3 (0,0))->_):=fun W b hb h=>ET (x:=p.ps.length+1) ab h (T hb)
  have HOW:Hid (∀o,_):=fun o=>aC n3 ((Gr.refl _).alloc o)
  have HAP:Hid (∀(o:Obj) (w2:World) (P':Value),(w.alloc o).grownBy w2 (Value.slice pa p.ps.length pc).ownBlock->w2.ownsRow N 45 2 P' (p.ps.length+1) (pC p.ps++[.int .i64 (k:Int),.int .i64 (n:Int)])->(∀q,P'.ownBlock=some q->(Value.slice pa p.ps.length pc).ownBlock=some q\/(w.alloc o).heap.size<=q)->
    w2.heap[g]?=some (.cells #[.slice ma p.m.length mc,.slice ha p.hs.length hc0,.slice pa p.ps.length pc,.slice ua un uc,.bool p.fr] 71 (0,0))/\Pr 71 B (w2.setCell ⟨g,2,none⟩ P') g (.slice ma p.m.length mc) (.slice ha p.hs.length hc0) P' (.slice ua un uc) { p with ps:=p.ps++[((k:Int),(n:Int))] }/\Fx (Dm g (.slice ma p.m.length mc) (.slice ha p.hs.length hc0) (.slice pa p.ps.length pc)) (Dm g (.slice ma p.m.length mc) (.slice ha p.hs.length hc0) P') w (w2.setCell ⟨g,2,none⟩ P')):=fun o w2 P' q O hat=>by
   have G:=(Gr.refl w).alloc o;obtain⟨a,b,c⟩:=(X.gr G).pkA (s:=((k:Int),(n:Int))) n1 (apr n2 G.size) (aC n3 G) (fun h=>(n4 h).step G.size fun j hj _=>G.block j ab) ⟨bl,bl,bl,bl⟩ ab q O hat;exact⟨a,b,(Fx.bD G).trans c⟩
  have HN2:=kH n2;have hq1:p.ps.length+1<=300:=ab;have w1:IntKind.i64.wrap (k:Int)=(k:Int):=by rw[auQ];omega
  have w3:IntKind.i64.wrap (n:Int)=(n:Int):=by rw[auQ];omega
  generalize p.ps.length=q at *
  go_enter func46,ntmps46;go_wp2_with (at_builtin;refine gU rfl (.tmp 17) (.tmp 23) rfl underlying29 hi hz0 hz1 hz2 rfl an (.slice pa q pc) (pC p.ps) rfl (HOW _) ⟨w.heap.size,0,none⟩ 1 1 [.int .i64 (k:Int),.int .i64 (n:Int)] rfl rfl (VC (at5 w _)) (PQ _ _) bj ab (by have:=HN2;simp at this ⊢;omega) ?_;intro v' w2 hown hgrow hat;obtain⟨_,_,a2,c2,rfl⟩:=az hown;obtain⟨hb2,X2,F2⟩:=HAP _ _ _ hgrow hown hat;have HX2:Hid _:=X2;have pX:Hid (Fx _ _ _ _):=F2;have j1:=E8 hb2;have j2:w2.frozen? ⟨g,2,none⟩=false:=lh hb2;clear hown hgrow hat hb2 X2 F2);refine(HN _ _ ((pX.gr br).below (fun k hk=>(ZH k hk).1) HBL) (PN _ _ _ _)).mono ?_;rintro e w4 ⟨rfl,G3⟩;go_wp2_with fail;go_ret;exact fE.mk rfl HX2 pX (br.trans G3)
 ·have e:uW p [k,n]=(p,aQ):=by simp only[uW,at6 hc]
  rw[e];have HX:=kH X;have h5:p.ps.length=300:=ab;generalize hq:p.ps.length=q at *
  go_enter func46,ntmps46;go_wp2_with fail;go_ret;exact⟨rfl,_,_,_,_,HX,Fx.refl _ _⟩
end Vp
namespace Vp
open Mm Hh Hc Mc Ud As
variable{p:Pl}
theorem aeA (hx:x<4294967296):bc (w4 x)=[.int .u8 ((x:Int)%256),.int .u8 ((x:Int)/256%256),.int .u8 ((x:Int)/65536%256),.int .u8 ((x:Int)/16777216)]:=by
 have e:∀y:Nat,((UInt8.ofNat (y%256)).toNat:Int)=(y:Int)%256:=fun y=>by rw[auG];omega
 unfold bc w4;simp only[aqo,aru];rw[e,e,e,e];have h1:((x/16777216:Nat):Int)%256=(x:Int)/16777216:=ab;simp only[List.cons.injEq,Value.int.injEq,au7,and_true];refine⟨?_,?_,?_⟩<;>omega
theorem PS {a0 a1 a2 a3:Value}(h:w.heap[b]?=some (.cells #[a0,a1,a2,a3] t f)):∀j u,([a0,a1,a2,a3]:List Value)[j]?=some u->w.cell? ((⟨b,0,none⟩:Addr).add j)=some u:=by intro j u hj;rw[cz,apu,cr h];simpa using hj
def wP (p:Pl) (l:List Nat) (k:Nat):Pl:={ p with m:=p.m++(l.take k).flatMap w4,fr:=false }
theorem aa7 (p:Pl)(l:List Nat)(hk:k<=l.length):(wP p l k).m.length=p.m.length+4*k:=by
 show(p.m++_).length=_
 rw[apo,GJ,ap5,arA hk]
theorem VD (p:Pl)(h:l[k]?=some x):wP p l (k+1)={ wP p l k with m:=(wP p l k).m++w4 x }:=by unfold wP;rw[apU,h];simp
theorem Ka (X:Pr 71 B w g M H P U p)(N:Ns .u32 w na n l)(hl:∀x∈l,x<4294967296)(hna:∀b o,na=some ⟨b,o,none⟩->¬Dm g M H P b)(T:∀{W:World},Below B w W->gz W)(h4:p.m.length+4*l.length<=4096):Calls prog 43 #[.pointer (some ⟨g,0,none⟩),.slice na n c] w (fE 71 B w g M H P (iL p l)):=by
 have e:iL p l=(wP p l l.length,bH Cf [p.m.length+4*l.length]):=by
  unfold iL wP;rw[ak,ap9]
 rw[e];obtain⟨i0,hi,hz0,hz1,hz2⟩:=auz info5;obtain⟨X1,F1⟩:=X.down;obtain⟨ma,mc,ha,hc0,pa,pc,ua,un,uc,rfl,rfl,rfl,rfl,_⟩:=X.open;have z0:=iE X.blk;have f4:w.frozen? ⟨g,4,none⟩=false:=lh X.blk;have z4:=E9 X.blk;have HX0:Hid (Pr 71 B (w.setCell ⟨g,4,none⟩ (.bool false)) g (.slice ma p.m.length mc) (.slice ha p.hs.length hc0) (.slice pa p.ps.length pc) (.slice ua un uc) (wP p l 0)):=by
  have:wP p l 0={ p with fr:=false }:=by unfold wP;simp
  unfold Hid;rw[this];exact X1
 have HF0:Hid _:=F1;have HN:=kH N;have HL:=kH hl;have HNA:=kH hna;have ZH:=kH X.dom;have HBL:=kH X.le;have HT:Hid (∀{W:World},Below B w W->gz W):=T;have hln:=N.len;have KW:=kH hln;have HLE:=kH h4;rw[hln]at h4 ⊢;have lU:p.m.length<=4096:=ab;have hD0:=kH F1;go_enter func43,ntmps43;go_wp2_with fail;go_loopw [23] (fun i wr=>∃k:Nat,k<=n/\i=.int .i64 k/\∃M',Pr 71 B wr g M' (.slice ha p.hs.length hc0) (.slice pa p.ps.length pc) (.slice ua un uc) (wP p l k)/\Fx (Dm g (.slice ma p.m.length mc) (.slice ha p.hs.length hc0) (.slice pa p.ps.length pc)) (Dm g M' (.slice ha p.hs.length hc0) (.slice pa p.ps.length pc)) w wr) (fun i _=>n-(intOf i).toNat)
 case atStart=>exact⟨0,apF _,rfl,_,HX0,hD0⟩
 case round=>
  obtain⟨k,hk,rfl,M1,X,F⟩:=hrel;obtain⟨va,vc,_,_,_,_,_,_,_,rfl,_⟩:=X.open;have hlk:=aa7 p l (k:=k) (by rw[KW.out];exact hk);have z0:=iE X.blk;have f0:wr.frozen? ⟨g,0,none⟩=false:=lh X.blk;have HOW:Hid (∀o,_):=fun o=>aC X.mx.mem ((Gr.refl _).alloc o)
  have HX:=kH X;have HF:=kH F;obtain⟨s,hs⟩:∃s,(wP p l k).m.length=s:=⟨_,rfl⟩;have HS:=kH hs;rw[hs]at hlk HOW z0 HF HX;have hs4:s<=4096:=ab;have HLK:=kH hlk;by_cases hlt:k<n
  ·obtain⟨b,o,rfl,hb,hc⟩:=HN.spot ab;obtain⟨x,hx⟩:∃x,l[k]?=some x:=⟨_,api (by rw[KW.out];exact hlt)⟩;have hx1:=HL x (aps hx);have k1:=(aui (a:=⟨b,o+k,none⟩) (F.keep b hb (HNA b o rfl))).trans (hc k x hx);have hbc:Hid _:=aeA hx1;have ZE:Hid _:=VD p hx;have x0:(0:Int)<=(x:Int):=ab;have x1:(x:Int)<4294967296:=ab;have s5:s+4<=4096:=ab;have HAP:Hid (∀(o:Obj) (w2:World) (M':Value),(wr.alloc o).grownBy w2 (Value.slice va s vc).ownBlock->w2.ownsRow B 5 1 M' (s+4) (bc (wP p l k).m++[.int .u8 ((x:Int)%256),.int .u8 ((x:Int)/256%256),.int .u8 ((x:Int)/65536%256),.int .u8 ((x:Int)/16777216)])->(∀q,M'.ownBlock=some q->(Value.slice va s vc).ownBlock=some q\/(wr.alloc o).heap.size<=q)->
     w2.heap[g]?=some (.cells #[.slice va s vc,.slice ha p.hs.length hc0,.slice pa p.ps.length pc,.slice ua un uc,.bool false] 71 (0,0))/\Pr 71 B (w2.setCell ⟨g,0,none⟩ M') g M' (.slice ha p.hs.length hc0) (.slice pa p.ps.length pc) (.slice ua un uc) (wP p l (k+1))/\Fx (Dm g (.slice ma p.m.length mc) (.slice ha p.hs.length hc0) (.slice pa p.ps.length pc)) (Dm g M' (.slice ha p.hs.length hc0) (.slice pa p.ps.length pc)) w (w2.setCell ⟨g,0,none⟩ M')):=fun o w2 M' qq O hat=>by
    rw[ZE.out];obtain⟨a,b,c⟩:=Pr.aie (p:=wP p l k) (l:=w4 x) (n:=4) (HX.gr ((Gr.refl _).alloc o)) rfl rfl (by rw[HS.out];exact s5) qq (by rw[hbc.out,HS.out];exact O) hat;exact⟨a,b,(HF.gr ((Gr.refl _).alloc o)).trans c⟩
   have HBS:Hid _:=apr HBL F.size;clear X F hs hlk hc hx hb HX HF hx1;generalize bc (wP p l k).m=old at *
   go_wp2_with (at_builtin;refine gU rfl (.tmp 32) (.tmp 44) rfl underlying25 hi hz0 hz1 hz2 rfl an (.slice va s vc) old rfl (HOW.out _) ⟨wr.heap.size,0,none⟩ 4 4 [.int .u8 ((x:Int)%256),.int .u8 ((x:Int)/256%256),.int .u8 ((x:Int)/65536%256),.int .u8 ((x:Int)/16777216)] rfl rfl (PS (at5 wr _)) (by rw[<-hbc.out];exact xX _) bj ab (by have:=HBS.out;simp at this ⊢;omega) ?_;intro v' w2 hown hgrow hat;obtain⟨_,_,a2,c2,rfl⟩:=az hown;obtain⟨hb2,X2,F2⟩:=HAP.out _ _ _ hgrow hown hat;have HX2:Hid _:=X2;have pX:Hid (Fx _ _ _ _):=F2;have j1:=iE hb2;have j2:w2.frozen? ⟨g,0,none⟩=false:=lh hb2;clear hown hgrow hat hb2 X2 F2);go_roundw
   case rel=>exact⟨k+1,ab,by go_num,_,HX2,pX⟩
   case measure=>simp[intOf];omega
  ·have e0:k=n:=ab;subst e0;have HNM:Hid (∀(W:World) (b:Nat),Gr wr W->W.heap[b]?=some (.cells #[.int .i64 (s:Int)] 3 (0,0))->_):=fun W b G h=>ET (x:=s) ab h (HT ((HF.gr G).below (fun q hq=>(ZH q hq).1) HBL))
   have HE:=kH hlk;clear X F hs hlk;go_wp2_with fail;refine(HNM _ _ br (at5 _ _)).mono ?_;rintro e w3 ⟨rfl,G3⟩;go_wp2_with fail;go_ret;exact fE.mk (U':=.slice ua un uc) (by show Ending.returned (str (bH Cf [s]))=_;rw[HE.out]) HX HF (br.trans G3)
theorem PT (X:Pr 71 B w g M H P U p)(h4:4096<p.m.length+4*l.length):Calls prog 43 #[.pointer (some ⟨g,0,none⟩),.slice na l.length c] w (fE 71 B w g M H P (iL p l)):=by
 have e:iL p l=({ p with fr:=false },aQ):=by
  unfold iL;rw[at7 h4]
 rw[e];have m4:=X.ok.m4;obtain⟨X1,F1⟩:=X.down;obtain⟨ma,mc,ha,hc0,pa,pc,ua,un,uc,rfl,rfl,rfl,rfl,_⟩:=X.open;have z0:=iE X.blk;have f4:w.frozen? ⟨g,4,none⟩=false:=lh X.blk;have z4:=E9 X.blk;have kL:=kH X1;have rY:=kH F1;generalize l.length=n at *
 go_enter func43,ntmps43;go_wp2_with fail;go_ret;exact fE.mk rfl kL rY (Gr.refl _)
end Vp
namespace Vp
open Hh Mc Ud As
theorem dW {h h':Hv}:∀x∈(⟨h',m,[],s,r⟩:Ev).out,x=Hh.rg h 10:=fun x hx=>absurd hx aq
theorem VE (h:Hv)(l:List UInt8)(op a b n:Int):∀x∈(fT h l op a b n).out,x=Hh.rg h 10:=by
 have h1:∀x∈(bF h l op (Wd.lo (a+n))).out,x=Hh.rg h 10:=by unfold bF;split<;>exact dW
 have h2:∀x∈(aH h l op (Wd.lo (a+n)) b).out,x=Hh.rg h 10:=by unfold aH;split<;>exact dW
 have h3:∀x∈(aK h l op a b).out,x=Hh.rg h 10:=by
  unfold aK;split
  ·unfold gB;split<;>exact dW
  ·split
   ·unfold eU;split
    ·split<;>exact dW
    ·exact dW
   ·unfold iN;split<;>exact dW
 have h4:∀x∈(bA h l).out,x=Hh.rg h 10:=by
  unfold bA;split
  ·exact dW
  ·split
   ·exact fun x hx=>apE.1 hx
   ·exact dW
 unfold fT;split
 ·exact dW
 split
 ·exact dW
 split
 ·exact dW
 split
 ·exact h1
 split
 ·exact h2
 split
 ·exact dW
 split
 ·exact dW
 split
 ·exact h3
 split
 ·exact h4
 split<;>exact dW
theorem VF {h:Hv}(o:h.Ok)(l:List UInt8):∀x∈(dV h l).out,0<=x/\x<4294967296:=by
 intro x hx;have:x=Hh.rg h 10:=by
  unfold dV oW ins done at hx;split at hx
  ·split at hx
   ·cases hx
   ·exact VE _ _ _ _ _ _ x hx
  ·cases hx
 rw[this];exact o.reg 10
structure Og (s:Sh) (t:Nat):Prop where
 few:s.out.length<=s.steps
 st:s.steps<=t
 w:∀x∈s.out,0<=x/\x<4294967296
theorem VG {s:Sh}(f:Fit s c n)(hk:k<c)(hr:(at' s k).state=0)(o:Og s t):Og (bW s k) (t+1):=by
 have hl:k<s.hs.length:=by rw[f.len];exact hk
 have eh:s.hs[k]?=some (at' s k):=by unfold at';rw[api hl];simp[List.getD,hl]
 obtain⟨ok,mk⟩:=f.ok _ (aps eh);have g:=lJ (Al mk hr) s.m;have h1:=o.few;have h2:=o.st;have h3:=g.2.2.2.1;refine⟨?_,by show s.steps+1<=t+1;omega,fun x hx=>?_⟩
 ·show(s.out++(dV (at' s k) s.m).out).length<=s.steps+1
  rw[apo];omega
 ·rcases apR.1 (show x∈s.out++(dV (at' s k) s.m).out from hx)with hx|hx
  ·exact o.w x hx
  ·exact VF ok s.m x hx
theorem Hl {c n k:Nat}(hk:k<c):∀(m:Nat) {s:Sh} {t:Nat},Fit s c n→Og s t→Og (runs s k m) (t+m)
 |0,s,t,f,o=>o
 |m+1,s,t,f,o=>by
  unfold runs;split
  ·have:=Hl hk m (kg f hk bo) (VG f hk bo o);rwa[show t+1+m=t+(m+1)by omega]at this
  ·exact⟨o.few,by have:=o.st;omega,o.w⟩
theorem Hm {c n:Nat}:∀(sc:List (Nat×Nat)) {s:Sh} {t:Nat},(∀p∈sc,p.1<c∧p.2≤400)→Fit s c n→Og s t→Og (aL s sc) (t+400*sc.length)
 | [],s,t,_,f,o=>o
 |p::r,s,t,h,f,o=>by
  rw[jc];have hp:=h p aq;have:=Hm r (fun q hq=>h q (by simp[hq])) (pK hp.1 p.2 f) (Hl hp.1 p.2 f o);refine⟨this.few,apr this.st ?_,this.w⟩;simp only[apH];omega
theorem PU {p:Pl}(o:lg p)(hw:wrong p.m p.hs p.ps=0):Og (aL (ik p) (nums p.ps)) 120000:=by
 obtain⟨_,_,_,_,am4,hp⟩:=kE hw;obtain⟨F,_,_⟩:=GK o hw;have:=Hm (nums p.ps) (t:=0) (fun q hq=>by
  obtain⟨r,hr,rfl⟩:=apK.1 hq;have:=hp r hr;show r.1.toNat<p.hs.length/\r.2.toNat<=400
  omega) F ⟨apn _,apn _,fun x hx=>(by cases hx)⟩
 refine⟨this.few,apr this.st ?_,this.w⟩;have:(nums p.ps).length=p.ps.length:=by unfold nums;rw[apY]
 omega
theorem mI (m:List UInt8)(hs:List Hv)(ps:List (Int×Int)):0<=wrong m hs ps/\wrong m hs ps<=10:=by
 unfold wrong;repeat' split
 all_goals omega
end Vp
namespace Vp
open Mm Hh Hc Mc Ud As
theorem aeB (W:Wm w oa n os)(h:∀x∈os,0<=x):Ns .u32 w oa n (os.map Int.toNat):=
 ⟨by rw[apY];exact W.len,fun hn=>by
  obtain⟨b,o,e,hb,hc⟩:=W.spot hn;refine⟨b,o,e,hb,fun t x hx=>?_⟩;rw[apT]at hx;obtain⟨y,hy,rfl⟩:=aqv.1 hx;have ht:t<n:=by rw[<-W.len];exact(apj.1 hy).1
  have h0:=h y (aps hy);rw[hc t ht,apV,hy,aqw,show((y.toNat:Nat):Int)=y by omega]⟩
theorem gs3 {a1 a2 a3:Option Addr}{n1 n2 n3 c1 c2 c3:Nat}{L1 L2 L3:List (List Nat)}(h:w.heap[b]?=some (.cells #[.slice a1 n1 c1,.slice a2 n2 c2,.slice a3 n3 c3] t f))(h1:Ts w a1 n1 L1/\(a1=none->c1=0))(h2:Ts w a2 n2 L2/\(a2=none->c2=0))(h3:Ts w a3 n3 L3/\(a3=none->c3=0)):Gs w b 3 [L1,L2,L3]:=
 ⟨rfl,(gs h).1,fun i L hi=>by
  match i,hi with
  |0,hi=>
   simp only[apw,auj]at hi;subst hi;exact⟨_,_,_,iE h,h1.1,h1.2⟩
  |1,hi=>
   simp only[apI,apw,auj]at hi;subst hi;exact⟨_,_,_,iY h,h2.1,h2.2⟩
  |2,hi=>
   simp only[apI,apw,auj]at hi;subst hi;exact⟨_,_,_,E8 h,h3.1,h3.2⟩⟩
theorem fP (h:Ts w a n L/\(a=none->c=0))(G:Gr w w'):Ts w' a n L/\(a=none->c=0):=⟨h.1.of G,h.2⟩
theorem Hq {c:Nat}{l:List Nat}(N:Ns .i64 w ao n l)(hl:∀x∈l,x<9223372036854775808)(hn:n<=1000000)(T:gz w):Calls prog 52 #[.slice ao n c] w fun e w'=>∃a k,e=.returned (.slice a n k)/\(Ts w' a n (l.map dg)/\(a=none->k=0))/\Gr w w':=(OY N hl hn T).mono fun e w' ⟨a,k,he,O,G⟩=>⟨a,k,he,⟨Ts.own O,mh O⟩,G⟩
theorem Ht {l:List Nat}(N:Ns .u32 w ao n l)(hl:∀x∈l,x<4294967296)(hn:n<=1000000)(T:gz w):Calls prog 79 #[.slice ao n c] w fun e w'=>∃a k,e=.returned (.slice a n k)/\(Ts w' a n (l.map dg)/\(a=none->k=0))/\Gr w w':=(aaA N hl hn T).mono fun e w' ⟨a,k,he,O,G⟩=>⟨a,k,he,⟨Ts.own O,mh O⟩,G⟩
theorem nR {x:Nat}(h:x<9223372036854775808):(dg x).length<=40:=by have:=x8 19 x ab;omega
theorem Xz {k l:List Nat}(S:Gs w b 3 [[Wd],k.map dg,l.map dg])(hW:Wd.length<=40)(hk:∀x∈k,x<9223372036854775808)(hl:∀x∈l,x<9223372036854775808)(hn:k.length+l.length<=500000):Calls prog 51 #[.slice (some ⟨b,0,none⟩) 3 3] w fun e w'=>e=.returned (str (bH Wd (k++l)))/\Gr w w':=by
 have:=jv (c:=3) S aE ab aq (fun x hx=>by
  simp only[aqz,aqT,apz,apR,apE,apK]at hx;rcases hx with rfl|⟨y,hy,rfl⟩|⟨y,hy,rfl⟩
  ·exact hW
  ·exact nR (hk y hy)
  ·exact nR (hl y hy))
 rw[sS];simpa using this
theorem aa9 {v0 v1 v2 v3:Value}(h0:e≠0)(h1:e<=100)(hv:v0.oneCell'=true/\v1.oneCell'=true/\v2.oneCell'=true/\v3.oneCell'=true)(T:∀{W:World},Gr w W->gz W):Calls prog 78 #[.pointer (some ⟨g,0,none⟩),.agg #[v0,v1,v2,v3],.int .i64 e] w fun e' w'=>e'=.returned (str (bH zu [e]))/\Gr w w':=by
 have hE:((e:Int) !=0)=true:=by simp;omega
 have HN:Hid (∀(W:World) (b:Nat) (t:Nat) (f:Nat×Nat),Gr w W->W.heap[b]?=some (.cells #[.int .i64 (e:Int)] t f)->Calls prog 103 #[.string ⟨#[98,97,100]⟩,.slice (some ⟨b,0,none⟩) 1 1] W fun e' w'=>e'=.returned (str (bH zu [e]))/\Gr W w'):=fun W b t f G h=>VA (c:=1) (rq h) (fun y hy=>by rw[apE.1 hy];omega) ab an (T G)
 obtain⟨u0,u1,u2,u3⟩:=hv;go_enter func78,ntmps78;go_wp2_with fail;refine(HN _ _ _ _ (br.alloc _) (Kc.Iq w _ _)).mono ?_;rintro e' w1 ⟨rfl,G1⟩;go_wp2_with fail;go_ret;exact⟨rfl,(br.alloc _).trans G1⟩
theorem VH {oc st:Nat}{mn mc:Nat}(hb:w.heap[g]?=some (.cells #[M,H,P,U,fr] 71 (0,0)))(N:Ns .u32 w oa n l)(hx:∀b o,oa=some ⟨b,o,none⟩->0<n->b≠g)(hl:∀x∈l,x<4294967296)(hnn:n<=200000)(hst:st<=200000)(T:∀{W:World},Ch g w W->gz W):Calls prog 78 #[.pointer (some ⟨g,0,none⟩),.agg #[(.slice ma mn mc),(.slice ha hn hc),.slice oa n oc,.int .i64 st],.int .i64 0] w fun e w'=>e=.returned (str (bH JQ (st::l)))/\w'.heap[g]?=some (.cells #[(.slice ma mn mc),(.slice ha hn hc),.slice none 0 0,U,fr] 71 (0,0))/\Ch g w w':=by
 have hgl:=(gs hb).1
 -- the world behind the stores
 have HW:Hid (∀W:World,W=((((w.setCell ⟨g,0,none⟩ (.slice ma mn mc)).setCell ⟨g,1,none⟩ (.slice ha hn hc)).setCell ⟨g,2,none⟩ (.slice none 0 0)).alloc (.cells #[(.slice ma mn mc),(.slice ha hn hc),.slice oa n oc,.int .i64 st] 47))->W.heap[g]?=some (.cells #[(.slice ma mn mc),(.slice ha hn hc),.slice none 0 0,U,fr] 71 (0,0))/\W.heap[w.heap.size]?=some (.cells #[(.slice ma mn mc),(.slice ha hn hc),.slice oa n oc,.int .i64 st] 47 (0,0))/\Ch g w W/\Ns .u32 W oa n l):=by
  rintro W rfl;have e1:=hss (i:=0) (v:=(.slice ma mn mc)) hb;have e2:=hss (i:=1) (v:=(.slice ha hn hc)) e1;have e3:=hss (i:=2) (v:=.slice none 0 0) e2;have Q:Ch g w ((((w.setCell ⟨g,0,none⟩ (.slice ma mn mc)).setCell ⟨g,1,none⟩ (.slice ha hn hc)).setCell ⟨g,2,none⟩ (.slice none 0 0)).alloc (.cells #[(.slice ma mn mc),(.slice ha hn hc),.slice oa n oc,.int .i64 st] 47)):=Ch.gr ((((Ch.refl g w).setCell 0 (.slice ma mn mc)).setCell 1 (.slice ha hn hc)).setCell 2 _) br;refine⟨Hr.ae br (by rw[e3];simp),?_,Q,N.len,fun h0=>?_⟩
  ·have:=at5 (((w.setCell ⟨g,0,none⟩ (.slice ma mn mc)).setCell ⟨g,1,none⟩ (.slice ha hn hc)).setCell ⟨g,2,none⟩ (.slice none 0 0)) (.cells #[(.slice ma mn mc),(.slice ha hn hc),.slice oa n oc,.int .i64 st] 47);rwa[show(((w.setCell ⟨g,0,none⟩ (.slice ma mn mc)).setCell ⟨g,1,none⟩ (.slice ha hn hc)).setCell ⟨g,2,none⟩ (.slice none 0 0)).heap.size=w.heap.size by simp]at this
  ·obtain⟨b,o,e,h1,h2⟩:=N.spot h0;exact⟨b,o,e,apq h1 Q.size,fun t x hx'=>(aui (a:=⟨b,o+t,none⟩) (Q.block b h1 (fun h=>by injection h with h;exact hx b o e h0 h))).trans (h2 t x hx')⟩
 have HTI:Hid (∀(W:World) (b t:Nat) (f:Nat×Nat),Ch g w W->W.heap[b]?=some (.cells #[.int .i64 (st:Int)] t f)->Calls prog 52 #[.slice (some ⟨b,0,none⟩) 1 1] W fun e w'=>∃a k,e=.returned (.slice a 1 k)/\(Ts w' a 1 [dg st]/\(a=none->k=0))/\Gr W w'):=fun W b t f Q h=>Hq (l:=[st]) (rq h) (fun y hy=>by rw[apE.1 hy];omega) ab (T Q)
 have HTW:Hid (∀(W:World),Ch g w W->Ns .u32 W oa n l->Calls prog 79 #[.slice oa n oc] W fun e w'=>∃a k,e=.returned (.slice a n k)/\(Ts w' a n (l.map dg)/\(a=none->k=0))/\Gr W w'):=fun W Q N=>Ht N hl ab (T Q)
 have hll:=N.len;have HJ:Hid (∀(W:World) (b:Nat),Gs W b 3 [[JQ],[dg st],l.map dg]->Calls prog 51 #[.slice (some ⟨b,0,none⟩) 3 3] W fun e w'=>e=.returned (str (bH JQ (st::l)))/\Gr W w'):=fun W b S=>Xz (k:=[st]) S an (fun y hy=>by rw[apE.1 hy];omega) (fun y hy=>by have:=hl y hy;omega) aE
 have z0:=iE hb;have z1:=iY hb;have z2:=E8 hb;have f0:w.frozen? ⟨g,0,none⟩=false:=lh hb;have f1:w.frozen? ⟨g,1,none⟩=false:=lh hb;have f2:w.frozen? ⟨g,2,none⟩=false:=lh hb;have HGL:=kH hgl;have am5:g≠w.heap.size:=ab;generalize str (bH JQ (st::l))=V at *
 go_enter func78,ntmps78;go_wp2_with fail;refine aT (fun W=>W.heap[g]?=some (.cells #[(.slice ma mn mc),(.slice ha hn hc),.slice none 0 0,U,fr] 71 (0,0))/\W.heap[w.heap.size]?=some (.cells #[(.slice ma mn mc),(.slice ha hn hc),.slice oa n oc,.int .i64 st] 47 (0,0))/\Ch g w W/\Ns .u32 W oa n l) (HW _ rfl) ?_;rintro w4 ⟨b1,b2,Q4,N4⟩;have HB1:=kH b1;have PW:=kH Q4;have HN4:=kH N4;have y2:=E8 b2;have y3:=QQ b2;have hw4:=(gs b2).1;refine aut (S:=fun W=>Gr w4 W) al (Gr.refl w4).drew (fun hHeld=>?_);have aY:=kH hHeld;refine aT (fun W=>Gr w4 W) aY ?_;rintro w5 G5;have rO:=kH G5;refine tK 1 (.pointer (some ⟨w.heap.size,3,none⟩)) rO ?_;refine auF (i:=2) (v:=.int .i64 st) rfl al al al (fun _ _ _ h=>h) (Or.inl ⟨by rfl,fun W hW=>by have y2:=(hW.cell _ (by exact hw4)).trans y2;have y3:=(hW.cell _ (by exact hw4)).trans y3;go_simp⟩) rO ?_;simp only[apN,apP,apQ,Act.put,apl,apC,apy];refine tK 5 (.pointer (some ⟨w.heap.size,2,none⟩)) rO ?_;refine auF (i:=6) (v:=.slice oa n oc) rfl al al al (fun _ _ _ h=>h) (Or.inl ⟨by rfl,fun W hW=>by have y2:=(hW.cell _ (by exact hw4)).trans y2;have y3:=(hW.cell _ (by exact hw4)).trans y3;go_simp⟩) rO ?_;simp only[apN,apP,apQ,Act.put,apl,apC,apy];refine aue (rs:=[0,3]) al aq ?_;refine aua rfl (fun K hK=>?_) (aua rfl (fun K hK=>?_) aud)
 ·skip
  go_simp;refine hK.out _ _ (rO.alloc _) (fun hx=>?_);refine aT (fun W=>W.heap[w5.heap.size]?=some (.cells #[.string ⟨#[114,97,110]⟩] 9 (0,0))/\Gr w5 W) ⟨at5 w5 _,(Gr.refl _).alloc _⟩ ?_;rintro w6 ⟨hb,G⟩;have sN:=kH hb;have Rm:=kH G;have HS9:=kH (rO.trans G);refine aue (rs:=[3]) al aq ?_;refine aua rfl (fun K hK=>?_) aud;go_simp;refine hK.out _ _ (HS9.alloc _) (fun hx=>?_);refine aT (fun W=>W.heap[w6.heap.size]?=some (.cells #[.int .i64 (st:Int)] 3 (0,0))/\Gr w6 W) ⟨at5 w6 _,(Gr.refl _).alloc _⟩ ?_;rintro w10 ⟨hb,G⟩;have ail:=kH hb;have aeD:=kH G;have kv:=kH (HS9.trans G);refine aue (rs:=[4]) al aq ?_;refine aua rfl (fun K hK=>?_) aud;go_simp;refine(HTI _ _ _ _ (PW.gr kv) (cu (Gr.refl _) ail)).mono ?_;rintro e w14 ⟨a15,k16,rfl,ht,G⟩;have aim:=kH ht;have ain:=kH G;have VI:=kH (kv.trans G);refine hK.out _ _ VI (fun hx=>?_);refine aue (rs:=[7]) al aq ?_;refine aua rfl (fun K hK=>?_) aud;go_simp;refine(HTW _ (PW.gr VI) (HN4.of VI)).mono ?_;rintro e w20 ⟨a21,k22,rfl,ht,G⟩;have aip:=kH ht;have VJ:=kH G;have PX:=kH (VI.trans G);refine hK.out _ _ PX (fun hx=>?_);refine aue (rs:=[8]) al aq ?_;refine aua rfl (fun K hK=>?_) aud;go_simp;refine hK.out _ _ (PX.alloc _) (fun hx=>?_);refine aT (fun W=>W.heap[w20.heap.size]?=some (.cells #[.slice (some ⟨w5.heap.size,0,none⟩) 1 1,.slice a15 1 k16,.slice a21 n k22] 22 (0,0))/\Gr w20 W) ⟨at5 w20 _,(Gr.refl _).alloc _⟩ ?_;rintro w26 ⟨hb,G⟩;have aiq:=kH hb;have aba:=kH G;have air:=kH (PX.trans G);refine aue (rs:=[9]) al aq ?_;refine aua rfl (fun K hK=>?_) aud;go_simp;refine(HJ _ _ (gs3 (cu (Gr.refl _) aiq) (fP ⟨oP sN,fun h=>by cases h⟩ (((aeD.trans ain).trans VJ).trans aba)) (fP aim (VJ.trans aba)) (fP aip aba))).mono ?_;rintro e w30 ⟨rfl,G⟩;have am7:=kH G;have VK:=kH (air.trans G);refine hK.out _ _ VK (fun hx=>?_);refine tK 10 V VK ?_;refine auy al ?_ _;go_wp2_with fail;go_ret;exact⟨rfl,cu VK HB1,PW.gr VK⟩
 ·skip
  go_simp;refine hK.out _ _ (rO.alloc _) (fun hx=>?_);refine aT (fun W=>W.heap[w5.heap.size]?=some (.cells #[.int .i64 (st:Int)] 3 (0,0))/\Gr w5 W) ⟨at5 w5 _,(Gr.refl _).alloc _⟩ ?_;rintro w33 ⟨hb,G⟩;have aeE:=kH hb;have am8:=kH G;have VL:=kH (rO.trans G);refine aue (rs:=[0,4]) al aq ?_;refine aua rfl (fun K hK=>?_) (aua rfl (fun K hK=>?_) aud)
  ·skip
   go_simp;refine hK.out _ _ (VL.alloc _) (fun hx=>?_);refine aT (fun W=>W.heap[w33.heap.size]?=some (.cells #[.string ⟨#[114,97,110]⟩] 9 (0,0))/\Gr w33 W) ⟨at5 w33 _,(Gr.refl _).alloc _⟩ ?_;rintro w37 ⟨hb,G⟩;have ais:=kH hb;have ait:=kH G;have aeF:=kH (VL.trans G);refine aue (rs:=[4]) al aq ?_;refine aua rfl (fun K hK=>?_) aud;go_simp;refine(HTI _ _ _ _ (PW.gr aeF) (cu ait aeE)).mono ?_;rintro e w41 ⟨a42,k43,rfl,ht,G⟩;have aiu:=kH ht;have aiv:=kH G;have VM:=kH (aeF.trans G);refine hK.out _ _ VM (fun hx=>?_);refine aue (rs:=[7]) al aq ?_;refine aua rfl (fun K hK=>?_) aud;go_simp;refine(HTW _ (PW.gr VM) (HN4.of VM)).mono ?_;rintro e w47 ⟨a48,k49,rfl,ht,G⟩;have aix:=kH ht;have aeG:=kH G;have abb:=kH (VM.trans G);refine hK.out _ _ abb (fun hx=>?_);refine aue (rs:=[8]) al aq ?_;refine aua rfl (fun K hK=>?_) aud;go_simp;refine hK.out _ _ (abb.alloc _) (fun hx=>?_);refine aT (fun W=>W.heap[w47.heap.size]?=some (.cells #[.slice (some ⟨w33.heap.size,0,none⟩) 1 1,.slice a42 1 k43,.slice a48 n k49] 22 (0,0))/\Gr w47 W) ⟨at5 w47 _,(Gr.refl _).alloc _⟩ ?_;rintro w53 ⟨hb,G⟩;have aiy:=kH hb;have abd:=kH G;have aiz:=kH (abb.trans G);refine aue (rs:=[9]) al aq ?_;refine aua rfl (fun K hK=>?_) aud;go_simp;refine(HJ _ _ (gs3 (cu (Gr.refl _) aiy) (fP ⟨oP ais,fun h=>by cases h⟩ ((aiv.trans aeG).trans abd)) (fP aiu (aeG.trans abd)) (fP aix abd))).mono ?_;rintro e w57 ⟨rfl,G⟩;have anb:=kH G;have VN:=kH (aiz.trans G);refine hK.out _ _ VN (fun hx=>?_);refine tK 10 V VN ?_;refine auy al ?_ _;go_wp2_with fail;go_ret;exact⟨rfl,cu VN HB1,PW.gr VN⟩
  ·skip
   go_simp;refine(HTI _ _ _ _ (PW.gr VL) (cu (Gr.refl _) aeE)).mono ?_;rintro e w60 ⟨a61,k62,rfl,ht,G⟩;have aeH:=kH ht;have anc:=kH G;have Kb:=kH (VL.trans G);refine hK.out _ _ Kb (fun hx=>?_);refine aue (rs:=[0,7]) al aq ?_;refine aua rfl (fun K hK=>?_) (aua rfl (fun K hK=>?_) aud)
   ·skip
    go_simp;refine hK.out _ _ (Kb.alloc _) (fun hx=>?_);refine aT (fun W=>W.heap[w60.heap.size]?=some (.cells #[.string ⟨#[114,97,110]⟩] 9 (0,0))/\Gr w60 W) ⟨at5 w60 _,(Gr.refl _).alloc _⟩ ?_;rintro w66 ⟨hb,G⟩;have aiA:=kH hb;have aiB:=kH G;have abe:=kH (Kb.trans G);refine aue (rs:=[7]) al aq ?_;refine aua rfl (fun K hK=>?_) aud;go_simp;refine(HTW _ (PW.gr abe) (HN4.of abe)).mono ?_;rintro e w70 ⟨a71,k72,rfl,ht,G⟩;have aiD:=kH ht;have aeI:=kH G;have abf:=kH (abe.trans G);refine hK.out _ _ abf (fun hx=>?_);refine aue (rs:=[8]) al aq ?_;refine aua rfl (fun K hK=>?_) aud;go_simp;refine hK.out _ _ (abf.alloc _) (fun hx=>?_);refine aT (fun W=>W.heap[w70.heap.size]?=some (.cells #[.slice (some ⟨w60.heap.size,0,none⟩) 1 1,.slice a61 1 k62,.slice a71 n k72] 22 (0,0))/\Gr w70 W) ⟨at5 w70 _,(Gr.refl _).alloc _⟩ ?_;rintro w76 ⟨hb,G⟩;have aiE:=kH hb;have abg:=kH G;have aiF:=kH (abf.trans G);refine aue (rs:=[9]) al aq ?_;refine aua rfl (fun K hK=>?_) aud;go_simp;refine(HJ _ _ (gs3 (cu (Gr.refl _) aiE) (fP ⟨oP aiA,fun h=>by cases h⟩ (aeI.trans abg)) (fP aeH ((aiB.trans aeI).trans abg)) (fP aiD abg))).mono ?_;rintro e w80 ⟨rfl,G⟩;have anf:=kH G;have VO:=kH (aiF.trans G);refine hK.out _ _ VO (fun hx=>?_);refine tK 10 V VO ?_;refine auy al ?_ _;go_wp2_with fail;go_ret;exact⟨rfl,cu VO HB1,PW.gr VO⟩
   ·skip
    go_simp;refine(HTW _ (PW.gr Kb) (HN4.of Kb)).mono ?_;rintro e w83 ⟨a84,k85,rfl,ht,G⟩;have aiG:=kH ht;have aiH:=kH G;have abh:=kH (Kb.trans G);refine hK.out _ _ abh (fun hx=>?_);refine aue (rs:=[0]) al aq ?_;refine aua rfl (fun K hK=>?_) aud;go_simp;refine hK.out _ _ (abh.alloc _) (fun hx=>?_);refine aT (fun W=>W.heap[w83.heap.size]?=some (.cells #[.string ⟨#[114,97,110]⟩] 9 (0,0))/\Gr w83 W) ⟨at5 w83 _,(Gr.refl _).alloc _⟩ ?_;rintro w89 ⟨hb,G⟩;have aiJ:=kH hb;have aeJ:=kH G;have aeK:=kH (abh.trans G);refine aue (rs:=[8]) al aq ?_;refine aua rfl (fun K hK=>?_) aud;go_simp;refine hK.out _ _ (aeK.alloc _) (fun hx=>?_);refine aT (fun W=>W.heap[w89.heap.size]?=some (.cells #[.slice (some ⟨w83.heap.size,0,none⟩) 1 1,.slice a61 1 k62,.slice a84 n k85] 22 (0,0))/\Gr w89 W) ⟨at5 w89 _,(Gr.refl _).alloc _⟩ ?_;rintro w93 ⟨hb,G⟩;have aiK:=kH hb;have abj:=kH G;have aiL:=kH (aeK.trans G);refine aue (rs:=[9]) al aq ?_;refine aua rfl (fun K hK=>?_) aud;go_simp;refine(HJ _ _ (gs3 (cu (Gr.refl _) aiK) (fP ⟨oP aiJ,fun h=>by cases h⟩ abj) (fP aeH ((aiH.trans aeJ).trans abj)) (fP aiG (aeJ.trans abj)))).mono ?_;rintro e w97 ⟨rfl,G⟩;have anh:=kH G;have VQ:=kH (aiL.trans G);refine hK.out _ _ VQ (fun hx=>?_);refine tK 10 V VQ ?_;refine auy al ?_ _;go_wp2_with fail;go_ret;exact⟨rfl,cu VQ HB1,PW.gr VQ⟩
end Vp
namespace Vp
open Mm Hh Hc Mc Ud As En
variable{w w':World}{B:Nat}{M H P:Value}{p:Pl}
variable{hs:List Hv}
def Tz (B:Nat) (w:World):Prop:=(∃w0:World,w0.heap.size=B/\nI B w0/\gz w0/\Lj w0/\Gr w0 w)/\Hc.mb<w.heap.size
theorem Tz.below (T:Tz B w)(h:Below B w w'):Tz B w':=by obtain⟨⟨w0,rfl,h1,h2,h3,G⟩,hm⟩:=T;exact⟨⟨w0,rfl,h1,h2,h3,auI G h⟩,apq hm h.size⟩
theorem Tz.le (T:Tz B w):B<=w.heap.size:=by obtain⟨⟨w0,rfl,h1,h2,h3,G⟩,hm⟩:=T;exact G.size
theorem Tz.gr (T:Tz B w)(G:Gr w w'):Tz B w':=T.below (aun G T.le)
theorem Tz.PY (T:Tz B w):gz w:=by obtain⟨⟨w0,rfl,h1,h2,h3,G⟩,hm⟩:=T;exact h2.of G
theorem Tz.ers (T:Tz B w):Lj w:=by obtain⟨⟨w0,rfl,h1,h2,h3,G⟩,hm⟩:=T;exact h3.of G
theorem Tz.aeL (T:Tz B w):nI w.heap.size w:=by obtain⟨⟨w0,rfl,h1,h2,h3,G⟩,hm⟩:=T;have h:=h1.below G;have s:=G.size;exact⟨h.tt' s,h.tr,apq h.trb s,h.ts' s,h.tq,apq h.tqb s⟩
structure Ry (w:World) (K:Nat) (M H:Value) (oa:Option Addr) (S:Sh):Prop where
 mx:Mx w K M H S.m S.hs
 out:Wm w oa S.out.length S.out
theorem Ry.gr {K:Nat}{oa:Option Addr}{S:Sh}(R:Ry w K M H oa S)(G:Gr w w'):Ry w' K M H oa S:=⟨R.mx.of G,R.out.of G⟩
def Nb (w:World) (b:Nat):Prop:=∀i v,w.cell? ⟨b,i,none⟩=some v->∀z,v≠.int .u8 z/\v≠.int .u32 z
theorem abk (hs:Nb w b)(hk:∀k,k<w.heap.size->k≠b->w'.heap[k]?=w.heap[k]?)(W:Wm w oa n os):Wm w' oa n os:=⟨W.len,W.nil,fun ad e t ht=>uY hs hk (.inr rfl) (W.cell ad e t ht)⟩
theorem Ry.row {K b:Nat}{oa:Option Addr}{S:Sh}{o cs:Array Value}{t:Nat}(R:Ry w K M H oa S)(hb:w.heap[b]?=some (.cells o t (0,0)))(t1:t≠5)(t2:t≠43)(hs:Nb w b):Ry (w.setRow b cs) K M H oa S:=⟨R.mx.to fun k q t' f ht e=>sV (by rcases ht with rfl|rfl;exact aa e hb t1.symm;exact aa e hb t2.symm),abk hs (fun k _ hk=>sV hk) R.out⟩
theorem abl {us:List Uv}(R:Un w ua n us)(hs:Nb w b):Un (w.setRow b cs) ua n us:=
 R.keep (aaW hs (fun k _ hk=>sV hk) aq R.us) fun b' o e hn=>by
  obtain⟨b2,o2,e2,hb2,hc⟩:=R.us.spot hn;rw[e]at e2;injection e2 with e2;injection e2 with e3 e4;subst e3 e4;obtain⟨u0,hu0⟩:=aaX (l:=us) (by have:=R.us.len;omega);obtain⟨x,⟨ba,bn,bc,la,ln,lc,ex,ou,_⟩,h2⟩:=hc 0 u0 hu0;have h0:=h2 1 (.int .u32 (Hh.rg u0.was 0)) (by rw[ex];exact(q9 ou.was (j:=0) ab).trans (lC ou.was ab));exact sV (zF hs (fun k _ hk=>sV (cs:=cs) hk) (.inr rfl) h0)
theorem ru {K:Nat}(X:Mx w K M H m hs):∃ma mc ha hc,M=.slice ma m.length mc/\H=.slice ha hs.length hc:=by obtain⟨_,_,ma,mc,e1⟩:=az X.mem;obtain⟨_,_,ha,hc,e2⟩:=az X.hrt;exact⟨ma,mc,ha,hc,e1,e2⟩
theorem PZ (mc hc pc:Nat)(mn:Nat)(T:Tz B w)(Mm:Mem w ma mn m)(hcap:ma=none->mc=0)(H:Hs w ha hn hs)(P:Ps w pa pn ps)(hy:wrong m hs ps=0):Calls prog 10 #[.agg #[.slice ma mn mc,.slice ha hn hc],.slice pa pn pc] w fun e w'=>∃xB mc' ha' hc' oa oc ua uc,e=.returned (.tuple #[.agg #[.slice xB (aL ⟨hs,m,[],0⟩ (nums ps)).m.length mc',.slice ha' (aL ⟨hs,m,[],0⟩ (nums ps)).hs.length hc',.slice oa (aL ⟨hs,m,[],0⟩ (nums ps)).out.length oc,.int .i64 (aL ⟨hs,m,[],0⟩ (nums ps)).steps],.slice ua (gD ⟨hs,m,[],0⟩ (jS ⟨hs,m,[],0⟩ (nums ps))).length uc,.int .i64 0])/\ Ry w' w.heap.size (.slice xB (aL ⟨hs,m,[],0⟩ (nums ps)).m.length mc') (.slice ha' (aL ⟨hs,m,[],0⟩ (nums ps)).hs.length hc') oa (aL ⟨hs,m,[],0⟩ (nums ps))/\Un w' ua (gD ⟨hs,m,[],0⟩ (jS ⟨hs,m,[],0⟩ (nums ps))).length (gD ⟨hs,m,[],0⟩ (jS ⟨hs,m,[],0⟩ (nums ps)))/\(gD ⟨hs,m,[],0⟩ (jS ⟨hs,m,[],0⟩ (nums ps))).length<=uc/\Gr w w':=by
 have hmb:=T.2;have tt:=T.aeL.tt;have H0:Calls prog 10 #[.agg #[.slice ma mn mc,.slice ha hn hc],.slice pa pn pc] w fun e w'=>∃xB mc' ha' hc' oa oc ua uc,e=.returned (.tuple #[.agg #[.slice xB (aL ⟨hs,m,[],0⟩ (nums ps)).m.length mc',.slice ha' (aL ⟨hs,m,[],0⟩ (nums ps)).hs.length hc',.slice oa (aL ⟨hs,m,[],0⟩ (nums ps)).out.length oc,.int .i64 (aL ⟨hs,m,[],0⟩ (nums ps)).steps],.slice ua (gD ⟨hs,m,[],0⟩ (jS ⟨hs,m,[],0⟩ (nums ps))).length uc,.int .i64 0])/\Ry w' w.heap.size (.slice xB (aL ⟨hs,m,[],0⟩ (nums ps)).m.length mc') (.slice ha' (aL ⟨hs,m,[],0⟩ (nums ps)).hs.length hc') oa (aL ⟨hs,m,[],0⟩ (nums ps))/\(Us w' ua (gD ⟨hs,m,[],0⟩ (jS ⟨hs,m,[],0⟩ (nums ps))).length (gD ⟨hs,m,[],0⟩ (jS ⟨hs,m,[],0⟩ (nums ps)))/\UsL w' w.heap.size ua (gD ⟨hs,m,[],0⟩ (jS ⟨hs,m,[],0⟩ (nums ps))).length)/\(gD ⟨hs,m,[],0⟩ (jS ⟨hs,m,[],0⟩ (nums ps))).length<=uc/\Gr w w':=by
  letI:Inhabited Hc.bN:=⟨⟨w.heap.size⟩⟩
  refine(Pz mc hc pc mn tt Mm hcap H P hy (apn _)).mono ?_;rintro e w' ⟨v,ua,un,uc,rfl,h1,h2,h3,G⟩;obtain⟨M',H',oa,oc,rfl,X,W⟩:=PH h1;obtain⟨xB,mc',ha',hc',rfl,rfl⟩:=ru X;have hl:=h2.1.len;subst hl;exact⟨_,_,_,_,oa,oc,ua,uc,rfl,⟨X,W⟩,h2,h3,G⟩
 refine H0.mono ?_;rintro e w' ⟨xB,mc',ha',hc',oa,oc,ua,uc,he,R,⟨h2,h2L⟩,h3,G⟩;exact⟨xB,mc',ha',hc',oa,oc,ua,uc,he,R,⟨h2,fun b o e j hj=>by
  obtain⟨q1,q2,q3⟩:=h2L b o e j hj;refine⟨ab,fun ba bn bc hc _ ad hb=>?_,fun la ln lc hc _ ad hb=>?_⟩
  ·have h:=q2 ba bn bc hc ad hb;omega
  ·have h:=q3 la ln lc hc ad hb;omega⟩,h3,G⟩
theorem P5 (mc hc pc:Nat)(mn:Nat){room:Int}(T:Tz B w)(Mm:Mem w ma mn m)(hcap:ma=none->mc=0)(H:Hs w ha hn hs)(P:Ps w pa pn ps)(hy:wrong m hs ps=0)(r0:0<=room)(r1:room<=64):Calls prog 12 #[.agg #[.slice ma mn mc,.slice ha hn hc],.slice pa pn pc,.int .i64 room] w fun e w'=>∃xB mc' ha' hc' oa oc c1 c2 c3 c4 c5 c6,e=.returned (.tuple #[.agg #[.slice xB (aL ⟨hs,m,[],0⟩ (nums ps)).m.length mc',.slice ha' (aL ⟨hs,m,[],0⟩ (nums ps)).hs.length hc',.slice oa (aL ⟨hs,m,[],0⟩ (nums ps)).out.length oc,.int .i64 (aL ⟨hs,m,[],0⟩ (nums ps)).steps],.agg #[.int .i64 c1,.slice c2 c3 c4,.int .i64 c5,.int .i64 c6],.int .i64 0])/\ Ry w' w.heap.size (.slice xB (aL ⟨hs,m,[],0⟩ (nums ps)).m.length mc') (.slice ha' (aL ⟨hs,m,[],0⟩ (nums ps)).hs.length hc') oa (aL ⟨hs,m,[],0⟩ (nums ps))/\Gr w w':=by
 have tt:=T.aeL
 letI:Inhabited Hc.bN:=⟨⟨w.heap.size⟩⟩
 refine(UL mc hc pc mn room tt Mm hcap H P hy r0 r1 (apn _) w (Gr.refl _)).mono ?_;rintro e w' ⟨v,a,n,c,pu,sl,L,rfl,h1,_,G⟩;obtain⟨M',H',oa,oc,rfl,X,W⟩:=PH h1;obtain⟨xB,mc',ha',hc',rfl,rfl⟩:=ru X;exact⟨_,_,_,_,oa,oc,_,_,_,_,_,_,rfl,⟨X,W⟩,G⟩
def EU (p:Pl) (room:Nat):Nat:=if wrong p.m p.hs p.ps=0 then(if 64<room then 3 else 0)else(wrong p.m p.hs p.ps).toNat
end Vp
end Go.Proofs.YtiadhbmnfjfioaaGreatDoor
