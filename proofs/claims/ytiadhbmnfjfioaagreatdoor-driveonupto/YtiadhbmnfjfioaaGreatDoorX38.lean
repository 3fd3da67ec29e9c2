/- ours -/
import Derived.Lib.AppendZerosOnto
import Derived.Test.YtiadhbmnfjfioaaGreatDoorX37
set_option linter.unusedVariables false
set_option linter.unusedSimpArgs false
set_option maxHeartbeats 8000000
set_option maxRecDepth 100000
set_option linter.unusedSectionVars false
namespace Go.Proofs.YtiadhbmnfjfioaaGreatDoor
open Go.Proofs.Tryz hiding d1 d2 d3
open Go.ChangeShapes Go.WideShapes Go.ChangeAt Go.RowKit
variable [Inhabited Hc.bN]
namespace Vp
open Mm Hh Hc Mc Ud As

variable {w w' :World} {ao :Option Addr} {n :Nat}

structure Gs (w:World) (b m:Nat) (Ls:List (List (List Nat))):Prop where
 len:Ls.length=m
 lt:b<w.heap.size
 at_:∀(i:Nat) (L:List (List Nat)),Ls[i]?=some L->∃a n c,w.cell? ⟨b,i,none⟩=some (.slice a n c)/\Ts w a n L/\(a=none->c=0)
theorem Gs.of {b m:Nat}{Ls:List (List (List Nat))}(h:Gs w b m Ls)(G:Gr w w'):Gs w' b m Ls:=
 ⟨h.len,apq h.lt G.size,fun i L hi=>by
  obtain⟨a,n,c,e,t,k⟩:=h.at_ i L hi;exact⟨a,n,c,(G.cell _ (by exact h.lt)).trans e,t.of G,k⟩⟩
theorem PI {n:Nat}(hn:n<=1000000)(w:World):Calls prog 105 #[.slice none 0 0,.int .i64 n] w fun e w'=>∃a c,e=.returned (.slice a 0 c)/\w'.ownsRow w.heap.size 9 1 (.slice a 0 c) 0 []/\Gr w w':=by
 by_cases h0:n=0
 ·subst h0;go_enter func105,ntmps105;go_wp2_with fail;go_ret;exact⟨none,0,rfl,aur _ _ _ _,Gr.refl _⟩
 ·obtain⟨i0,hi,hz0,hz1,hz2⟩:=auz Ci;have hrz:∀ty,(Builtin.append_ #[22,3] ty #[.slice none 0 0,.int .i64 (n:Int)]).run prog w=.ok (.slice (some ⟨w.heap.size,0,none⟩) (0+n) (grownCap w (0+n) 0 9)) (w.drew.alloc (.cells ((#[]:Array Value)++Builtin.zeroCells (Value.string ⟨#[]⟩).cells n++Builtin.zeroCells (Value.string ⟨#[]⟩).cells (grownCap w (0+n) 0 9-(0+n))) 9)):=fun ty=>
   Lib.run_append_grow_zeros w 22 3 ty 9 i0 (.string ⟨#[]⟩) .i64 .i64 underlying22 underlying3 hi hz0 none 0 0 [] (run_firstCells_none w.drew i0.size 0 0 0) n (by omega) (by omega) (by omega) (by omega) (by rw[hz2];omega) (by rw[hz2];exact growslice_fits (by omega) (by omega))
  have hle:Hid _:=grownCap_le_maxLen w (0+n) 0 9 (by unfold maxLen;omega);have hge:Hid (0+n<=grownCap w (0+n) 0 9):=grownCap_ge w _ _ _;rw[apu]at *
  generalize grownCap w n 0 9=C at *
  have hcs:Hid (((#[]:Array Value)++Builtin.zeroCells (Value.string ⟨#[]⟩).cells n++Builtin.zeroCells (Value.string ⟨#[]⟩).cells (C-n)).size=C*1):=by
   have:=hge.out;unfold Hid Builtin.zeroCells;simp[Value.cells];omega
  generalize((#[]:Array Value)++Builtin.zeroCells (Value.string ⟨#[]⟩).cells n++Builtin.zeroCells (Value.string ⟨#[]⟩).cells (C-n))=cells at *
  go_enter func105,ntmps105;go_wp2_with (at_builtin;refine Lib.wpList_append_run _ rfl _ _ _ _ rfl _ _ rfl rfl _ _ (hrz _) ?_);go_ret;exact⟨_,_,rfl,avf w.drew cells C (apn _) hle.out hcs.out,Below.drew ((Gr.refl w).alloc _)⟩
def fl (Ls:List (List (List Nat))) (k:Nat):Nat:=(Ls.take k).flatten.length
def fm (Ls:List (List (List Nat))) (k:Nat):List Value:=(Ls.take k).flatten.map str
theorem xN {Ls:List (List (List Nat))}{k:Nat}{L:List (List Nat)}(h:Ls[k]?=some L):(Ls.take (k+1)).flatten=(Ls.take k).flatten++L:=by rw[apU,h];simp
theorem zH {Ls:List (List (List Nat))}(k:Nat):(Ls.take k).flatten.length<=Ls.flatten.length:=by
 conv=>rhs;rw[<-aqd k Ls,List.flatten_append,apo]
 omega
theorem ER {b m c:Nat}{Ls:List (List (List Nat))}(S:Gs w b m Ls)(hz:Ls.flatten.length<=1000000)(hm:m<=1000000):Calls prog 81 #[.slice (some ⟨b,0,none⟩) m c] w fun e w'=>∃a k,e=.returned (.slice a (fl Ls m) k)/\w'.ownsRow w.heap.size 9 1 (.slice a (fl Ls m) k) (fl Ls m) (fm Ls m)/\Gr w w':=by
 obtain⟨i0,hi,hz0,hz1,hz2⟩:=auz Ci;have HS:=kH S;have HZ:=kH hz;go_enter func81,ntmps81;go_wp2_with fail;go_loopw [3,11] (fun s i wr=>∃k:Nat,k<=m/\i=.int .i64 k/\s=.int .i64 (fl Ls k:Nat)/\w=wr) (fun _ i _=>m-(intOf i).toNat)
 case atStart=>exact⟨0,apF _,rfl,rfl,rfl⟩
 case round=>
  obtain⟨k,hk,rfl,rfl,rfl⟩:=hrel;by_cases hlt:k<m
  ·obtain⟨L,hL⟩:∃L,Ls[k]?=some L:=⟨_,api (by rw[HS.out.len];exact hlt)⟩;obtain⟨a,n,cc,e,t,_⟩:=HS.out.at_ k L hL;have hf:=xN hL;have h1:(fl Ls (k+1))<=Ls.flatten.length:=zH (Ls:=Ls) (k+1);have hn:=t.len;have hl:(fl Ls (k+1))=(fl Ls k)+n:=by unfold fl;rw[hf,apo,hn]
   have h2:=HZ.out;have HR:=kH hl;rw[hl]at h1;generalize(fl Ls k)=q at *
   have q1:q+n<=1000000:=by omega
   have hw:IntKind.i64.wrap ((q:Int)+(n:Int))=(q:Int)+(n:Int):=by rw[auQ];omega
   have hd:decide ((q:Int)+(n:Int)<0)=false:=auh (by omega);go_wp2_with fail;go_roundw
   case rel=>exact⟨k+1,by omega,by go_num,by rw[HR.out];go_num,by first|exact rfl|trivial⟩
   case measure=>simp[intOf];omega
  ·have e0:k=m:=by omega
   subst e0;have HZ2:Hid _:=apr (zH k) HZ.out;have WZ:Hid (∀W:World,_):=fun W=>PI HZ2.out W
   go_wp2_with fail;refine(WZ.out _).mono ?_;rintro e w1 ⟨a0,c0,rfl,O0,G0⟩;have HO0:=kH O0;have oJ:=kH G0;go_wp2_with fail;go_loopw [6,27] (fun s i wr=>∃j:Nat,j<=k/\i=.int .i64 j/\(∃a c,s=.slice a (fl Ls j) c)/\wr.ownsRow w.heap.size 9 1 s (fl Ls j) (fm Ls j)/\Gr w wr) (fun _ i _=>k-(intOf i).toNat)
   case atStart=>exact⟨0,apF _,rfl,⟨a0,c0,rfl⟩,HO0.out,oJ.out⟩
   case round=>
    obtain⟨j,hj,rfl,⟨a1,c1,rfl⟩,O,G⟩:=hrel;have HG:=kH G;by_cases hlt2:j<k
    ·obtain⟨L,hL⟩:∃L,Ls[j]?=some L:=⟨_,api (by rw[HS.out.len];exact hlt2)⟩;obtain⟨a,n,cc,e,t,hcn⟩:=HS.out.at_ j L hL;have k1:=(G.cell _ (by exact HS.out.lt)).trans e;have hf:=xN hL;have h1:(fl Ls (j+1))<=Ls.flatten.length:=zH (Ls:=Ls) (j+1);have hn:=t.len;have hl:(fl Ls (j+1))=(fl Ls j)+n:=by unfold fl;rw[hf,apo,hn]
     have h2:=HZ.out;have HR:=kH hl;have HF:Hid (fm Ls (j+1)=fm Ls j++L.map str):=by unfold Hid fm;rw[hf,aqb]
     rw[hl]at h1;have HO:=kH O;have HT:Hid _:=aax (t.of G) hcn;have H1:Hid _:=UT L;generalize fm Ls j=old at *
     generalize(fl Ls j)=q at *
     generalize L.map str=news at *
     have q1:q+n<=1000000:=by omega
     go_wp2_with (at_builtin;refine pY rfl (.tmp 31) (.tmp 32) rfl underlying22 hi hz0 hz1 hz2 rfl (by decide) (v:=.slice a1 q c1) (vx:=.slice a n cc) rfl rfl HO.out HT.out H1.out (by unfold maxLen;omega) (by omega) (HG.out.size) ?_;intro v' w2 hown hgrow;obtain⟨_,_,a2,c2,rfl⟩:=az hown);have kY:=kH hown;have HG2:=kH (HG.out.grown hgrow (fun b hb=>(HO.out.lt b hb).1));go_wp2_with fail;go_roundw
     case rel=>exact⟨j+1,by omega,by go_num,⟨a2,c2,by rw[HR.out]⟩,by rw[HR.out,HF.out];exact kY.out,HG2.out⟩
     case measure=>simp[intOf];omega
    ·have e0:j=k:=by omega
     subst e0;have HO:=kH O;go_wp2_with fail;go_ret;exact⟨a1,c1,rfl,HO.out,HG.out⟩
def jn:List (List Nat)→List Nat
 | []=>[]
 |a::r=>r.foldl (fun t x=>t++32::x) a
theorem xO:∀(r:List (List Nat)) (a:List Nat),r.foldl (fun t x=>t++32::x) a=a++(r.map (32::·)).flatten
 | [],a=>by simp
 |x::r,a=>by
  rw[List.foldl_cons,xO r];simp
theorem GZ (a:List Nat)(r:List (List Nat)):jn (a::r)=a++(r.map (32::·)).flatten:=xO r a
theorem Hd (L:List (List Nat)):Lib.join ((L.map bs).map (·.data.toList)) [32]=(jn L).map UInt8.ofNat:=by
 cases L with
 |nil=>rfl
 |cons a r=>
  rw[aqo,aqo,Lib.join_cons,bU];unfold Lib.joinTail;rw[GZ,aqb];congr 1;induction r with
  |nil=>rfl
  |cons x r ih=>
   simp only[aqo,aqz,aqb]at ih ⊢;rw[ih,bU];rfl
theorem aaZ {L:List (List Nat)}(h:∀x∈L,x.length<=40):(jn L).length<=41*L.length:=by
 cases L with
 |nil=>simp[jn]
 |cons a r=>
  rw[GZ,apo];have h1:=h a (by simp);have h2:∀r:List (List Nat),(∀x∈r,x.length<=40)->((r.map (32::·)).flatten).length<=41*r.length:=by
   intro r;induction r with
   |nil=>simp
   |cons x r ih=>
    intro h;have h3:=h x (by simp);have h4:=ih (fun y hy=>h y (by simp[hy]));simp only[aqo,aqz,apo,apH];omega
  have h3:=h2 r (fun x hx=>h x (by simp[hx]));simp only[apH];omega
theorem sS (W:List Nat)(l:List Nat):bH W l=jn (W::l.map dg):=by
 unfold bH;show _=(l.map dg).foldl (fun t x=>t++32::x) W
 rw[List.foldl_map]
theorem U9 (Ls:List (List (List Nat))){m:Nat}(h:Ls.length=m):fl Ls m=Ls.flatten.length/\fm Ls m=Ls.flatten.map str:=by unfold fl fm;rw[ap0 (by omega)];exact⟨rfl,rfl⟩
theorem jv {b m c:Nat}{Ls:List (List (List Nat))}(S:Gs w b m Ls)(hz:Ls.flatten.length<=1000000)(hm:m<=1000000)(h0:0<Ls.flatten.length)(hx:∀x∈Ls.flatten,x.length<=40):Calls prog 51 #[.slice (some ⟨b,0,none⟩) m c] w fun e w'=>e=.returned (str (jn Ls.flatten))/\Gr w w':=by
 have HC:Hid (Calls prog 81 #[.slice (some ⟨b,0,none⟩) m c] w fun e w'=>∃g n k,e=.returned (.slice (some ⟨g,0,none⟩) n k)/\(∀W,Gr w' W->Calls prog 80 #[.slice (some ⟨g,0,none⟩) n k,.string ⟨#[32]⟩] W fun e w2=>e=.returned (str (jn Ls.flatten))/\Gr W w2)/\Gr w w'):=(ER S hz hm).mono fun e w' ⟨a,k,he,O,G⟩=>by
  obtain⟨e1,e2⟩:=U9 Ls S.len;rw[e1]at he O;rw[e2]at O;have hlen:=aaZ hx;obtain⟨_,h⟩:=O;rcases h with⟨h1,h2⟩|⟨g,cap,cur,hv,_,hg,hc,_,hz,ht⟩
  ·omega
  ·injection hv with hv _ hk;subst hv hk;refine⟨g,_,_,he,fun W GW=>?_,G⟩;have hj:=Tryz.strings_Join g 0 k (Ls.flatten.map bs) ⟨#[32]⟩ W (fun j x hj=>by
    rw[apT]at hj;obtain⟨y,hy,rfl⟩:=aqv.1 hj;rw[apu];refine(GW.cell _ (by exact(gs hg).1)).trans ?_;rw[cr hg];have e:=congrArg (fun l=>l[j]?) ht;simp only[apT,hy,ap7]at e;rw[apS]at e;split at e
    ·rw[aqD]at e;exact e
    ·cases e) (apq (gs hg).1 GW.size) (by rw[apY];omega) (by rw[apY];exact hc) (by
     show(Lib.join _ [32]).length<=_
     rw[Hd,apY];omega)
   rw[apY]at hj;refine hj.mono fun e w2 ⟨he,G2⟩=>⟨?_,G2⟩
   rw[he];show Ending.returned (.string ⟨(Lib.join _ [32]).toArray⟩)=_
   rw[Hd];rfl
 generalize str (jn Ls.flatten)=V at *
 go_enter func51,ntmps51;go_wp2_with fail;refine HC.out.mono ?_;rintro e w1 ⟨g,n,k,rfl,HJ,G1⟩;have HJ2:=kH (HJ w1 (Gr.refl _));go_wp2_with fail;refine HJ2.out.mono ?_;rintro e w2 ⟨rfl,G2⟩;go_wp2_with fail;go_ret;exact⟨rfl,G1.trans G2⟩
theorem oP {b:Nat}{W:List Nat}{f:Nat×Nat}{t:Nat}(h:w.heap[b]?=some (.cells #[str W] t f)):Ts w (some ⟨b,0,none⟩) 1 [W]:=
 ⟨rfl,fun _=>⟨b,0,rfl,(gs h).1,fun i x hi=>by
  obtain rfl:i=0:=by
   have:=(apj.1 hi).1;simp at this;omega
  simp only[apw,auj]at hi;subst hi;exact iE h⟩⟩
theorem Vm {c:Nat}{l W:List Nat}(N:Ns .i64 w ao n l)(hl:∀x∈l,x<9223372036854775808)(hn:n<=100000)(hW:W.length<=40)(T:gz w):Calls prog 76 #[str W,.slice ao n c] w fun e w'=>e=.returned (str (bH W l))/\Gr w w':=by
 have HT:Hid (∀x,Calls prog 52 #[.slice ao n c] (w.alloc x) fun e w'=>∃a k,e=.returned (.slice a n k)/\(Ts w' a n (l.map dg)/\(a=none->k=0))/\Gr (w.alloc x) w'):=fun x=>(OX (N.of ((Gr.refl _).alloc x)) hl (by omega) (T.of ((Gr.refl _).alloc x))).mono fun e w' ⟨a,k,he,O,G⟩=>⟨a,k,he,⟨Ts.own O,mh O⟩,G⟩
 have HJ:Hid (∀(W0:World) (b:Nat),Gs W0 b 2 [[W],l.map dg]->Calls prog 51 #[.slice (some ⟨b,0,none⟩) 2 2] W0 fun e w'=>e=.returned (str (bH W l))/\Gr W0 w'):=fun W0 b S=>by
  have hl2:l.length<=100000:=by have:=N.len;omega
  have:=jv (c:=2) S (by simp;omega) (by omega) (by simp) (fun x hx=>by
   simp only[aqz,aqT,apz,apR,apE,apK]at hx;rcases hx with rfl|⟨y,hy,rfl⟩
   ·exact hW
   ·have:=x8 19 y (by have:=hl y hy;omega);omega)
  rw[sS];simpa using this
 rw[show str W=.string (bs W)from rfl]at *
 have HB:Hid (∀(b:Nat) (w:World) (t:Nat) (f:Nat×Nat),w.heap[b]?=some (.cells #[.string (bs W)] t f)->_):=fun b w t f h=>oP h
 generalize bs W=B at *
 generalize str (bH W l)=V at *
 go_enter func76,ntmps76;go_wp2_with fail;refine(HT.out _).mono ?_;rintro e w1 ⟨a,k,rfl,HTs,G1⟩;have aU:=kH (((Gr.refl _).alloc _).trans G1);have HT1:Hid _:=HB.out _ _ _ _ (Hr.ae G1 (at5 w _));have HT2:=kH HTs;have HGs:Hid (Gs (w1.alloc (.cells #[.slice (some ⟨w.heap.size,0,none⟩) 1 1,.slice a n k] 22)) w1.heap.size 2 [[W],l.map dg]):=by
  have hb:=at5 w1 (.cells #[.slice (some ⟨w.heap.size,0,none⟩) 1 1,.slice a n k] 22);refine⟨rfl,(gs hb).1,fun i L hi=>?_⟩
  match i,hi with
  |0,hi=>
   simp only[apw,auj]at hi;subst hi;exact⟨_,_,_,iE hb,HT1.out.of ((Gr.refl _).alloc _),fun h=>by cases h⟩
  |1,hi=>
   simp only[apI,apw,auj]at hi;subst hi;exact⟨_,_,_,iY hb,HT2.out.1.of ((Gr.refl _).alloc _),HT2.out.2⟩
 go_wp2_with fail;refine(HJ.out _ _ HGs.out).mono ?_;rintro e w2 ⟨rfl,G2⟩;go_wp2_with fail;go_ret;exact⟨rfl,(aU.out.alloc _).trans G2⟩
theorem Vn {c:Nat}{l W:List Nat}(N:Ns .i64 w ao n l)(hl:∀x∈l,x<9223372036854775808)(hn:n<=100000)(hW:W.length<=40)(T:gz w):Calls prog 103 #[str W,.slice ao n c] w fun e w'=>e=.returned (str (bH W l))/\Gr w w':=by
 have HT:Hid (∀x,Calls prog 128 #[.slice ao n c] (w.alloc x) fun e w'=>∃a k,e=.returned (.slice a n k)/\(Ts w' a n (l.map dg)/\(a=none->k=0))/\Gr (w.alloc x) w'):=fun x=>(aaz (N.of ((Gr.refl _).alloc x)) hl (by omega) (T.of ((Gr.refl _).alloc x))).mono fun e w' ⟨a,k,he,O,G⟩=>⟨a,k,he,⟨Ts.own O,mh O⟩,G⟩
 have HJ:Hid (∀(W0:World) (b:Nat),Gs W0 b 2 [[W],l.map dg]->Calls prog 51 #[.slice (some ⟨b,0,none⟩) 2 2] W0 fun e w'=>e=.returned (str (bH W l))/\Gr W0 w'):=fun W0 b S=>by
  have hl2:l.length<=100000:=by have:=N.len;omega
  have:=jv (c:=2) S (by simp;omega) (by omega) (by simp) (fun x hx=>by
   simp only[aqz,aqT,apz,apR,apE,apK]at hx;rcases hx with rfl|⟨y,hy,rfl⟩
   ·exact hW
   ·have:=x8 19 y (by have:=hl y hy;omega);omega)
  rw[sS];simpa using this
 rw[show str W=.string (bs W)from rfl]at *
 have HB:Hid (∀(b:Nat) (w:World) (t:Nat) (f:Nat×Nat),w.heap[b]?=some (.cells #[.string (bs W)] t f)->_):=fun b w t f h=>oP h
 generalize bs W=B at *
 generalize str (bH W l)=V at *
 go_enter func103,ntmps103;go_wp2_with fail;refine(HT.out _).mono ?_;rintro e w1 ⟨a,k,rfl,HTs,G1⟩;have aU:=kH (((Gr.refl _).alloc _).trans G1);have HT1:Hid _:=HB.out _ _ _ _ (Hr.ae G1 (at5 w _));have HT2:=kH HTs;have HGs:Hid (Gs (w1.alloc (.cells #[.slice (some ⟨w.heap.size,0,none⟩) 1 1,.slice a n k] 22)) w1.heap.size 2 [[W],l.map dg]):=by
  have hb:=at5 w1 (.cells #[.slice (some ⟨w.heap.size,0,none⟩) 1 1,.slice a n k] 22);refine⟨rfl,(gs hb).1,fun i L hi=>?_⟩
  match i,hi with
  |0,hi=>
   simp only[apw,auj]at hi;subst hi;exact⟨_,_,_,iE hb,HT1.out.of ((Gr.refl _).alloc _),fun h=>by cases h⟩
  |1,hi=>
   simp only[apI,apw,auj]at hi;subst hi;exact⟨_,_,_,iY hb,HT2.out.1.of ((Gr.refl _).alloc _),HT2.out.2⟩
 go_wp2_with fail;refine(HJ.out _ _ HGs.out).mono ?_;rintro e w2 ⟨rfl,G2⟩;go_wp2_with fail;go_ret;exact⟨rfl,(aU.out.alloc _).trans G2⟩
end Vp
namespace Vp
open Mm Hh Hc Mc Ud As

variable {w w' :World} {g B :Nat} {M H P U :Value} {p :Pl}
theorem fE.mk {ty:Nat}{e:Ending}{M' H' P' U':Value}{r:Pl×List Nat}{w1:World}(he:e=.returned (str r.2))(X:Pr ty B w1 g M' H' P' U' r.1)(F:Fx (Dm g M H P) (Dm g M' H' P') w w1)(G:Gr w1 w'):fE ty B w g M H P r e w':=⟨he,M',H',P',U',X.gr G,F.gr G⟩
theorem dE {k:Nat}(X:Pr 71 B w g M H P U p):Calls prog 77 #[.pointer (some ⟨g,0,none⟩),.int .u32 k] w fun e w'=>e=.returned (.bool (decide (k<p.hs.length)))/\w=w':=by
 obtain⟨ma,mc,ha,hc,pa,pc,ua,un,uc,rfl,rfl,rfl,rfl,_⟩:=X.open;have h4:=X.ok.h4;have z1:=iY X.blk;have hw:IntKind.u32.wrap (p.hs.length:Int)=(p.hs.length:Int):=by rw[IntKind.wrap_u32];omega
 have hd:decide ((k:Int)<(p.hs.length:Int))=decide (k<p.hs.length):=by simp
 generalize p.hs.length=n at *
 go_enter func77,ntmps77;go_wp2_with fail;go_ret;exact⟨by simp,rfl⟩
theorem aa0:(prog.info? 43).map (fun i=>(i.zero,i.size,i.bytes))=some (some (.agg (hA ⟨List.replicate 32 0,0,false,0,0,0⟩)),37,160):=by kernel_rfl
theorem PK (h:Hv):∀u∈hL h,u.oneCell'=true:=by
 intro u hu;unfold hL at hu;rcases apR.1 hu with hu|hu
 ·obtain⟨b,_,rfl⟩:=apK.1 hu;rfl
 ·simp only[apx,apB,auw]at hu;rcases hu with rfl|rfl|rfl|rfl|rfl<;>rfl
theorem PM (w:World)(a:Addr)(v:Value)(o:Obj):((w.setCell a v).alloc o).heap[w.heap.size]?=some o:=by have:=at5 (w.setCell a v) o;rwa[show(w.setCell a v).heap.size=w.heap.size by simp]at this
theorem iHz:(prog.info? 43).map (fun i=>(i.zero.isSome,i.size))=some (true,37):=by kernel_rfl
theorem J8 (x:Int):prog.built 43 [(1,.int .u32 x)]=some (hA ⟨List.replicate 32 0,x,false,0,0,0⟩):=by kernel_rfl
theorem rq {b:Nat}{K:IntKind}{x:Nat}{t:Nat}{f:Nat×Nat}(h:w.heap[b]?=some (.cells #[.int K x] t f)):Ns K w (some ⟨b,0,none⟩) 1 [x]:=
 ⟨rfl,fun _=>⟨b,0,rfl,(gs h).1,fun i y hi=>by
  obtain rfl:i=0:=by
   have:=(apj.1 hi).1;simp at this;omega
  simp only[apw,auj]at hi;subst hi;exact iE h⟩⟩
theorem ES {x:Nat}(hx:x<=1000000){b:Nat}{t:Nat}{f:Nat×Nat}{W:World}(h:W.heap[b]?=some (.cells #[.int .i64 x] t f))(T:gz W):Calls prog 76 #[.string ⟨#[111,107]⟩,.slice (some ⟨b,0,none⟩) 1 1] W fun e w'=>e=.returned (str (bH Ce [x]))/\Gr W w':=Vm (c:=1) (rq h) (fun y hy=>by rw[apE.1 hy];omega) (by omega) (by decide) T
theorem PN {x:Nat}(hx:x<4294967296)(X:Pr 71 B w g M H P U p)(T:∀{W:World},Below B w W->gz W):Calls prog 44 #[.pointer (some ⟨g,0,none⟩),.int .u32 x] w (fE 71 B w g M H P (uV p [x])):=by
 have h4:=X.ok.h4;by_cases hc:p.hs.length<4
 ·obtain⟨ma,mc,ha,hc0,pa,pc,ua,un,uc,rfl,rfl,rfl,rfl,_⟩:=X.open;obtain⟨i0,hi,hz0,hz1,hz2⟩:=auz aa0;obtain⟨X1,F1⟩:=X.down;have ok1:=UQ hx;have e:uV p [x]=({ p with hs:=p.hs++[jr x],fr:=false },bH Ce [p.hs.length+1]):=by simp only[uV,at7 hc]
  rw[e];have z1:=iY X.blk;have f4:w.frozen? ⟨g,4,none⟩=false:=lh X.blk;have y1:=iY X1.blk;have z4:=E8 X.blk;have kL:=kH X1;have rY:=kH F1;have HT:Hid (∀{W:World},Below B w W->gz W):=T;have hlen:(hA (jr x)).size=37:=by show(hL _).toArray.size=37;rw[ap2];exact aD ok1.1
  have KV:=kH hlen;have HBT:=kH (J8 x);have HON:=kH (PK (jr x));have zR:=kH ok1;have HLE:Hid (p.hs.length+1<=4):=by unfold Hid;omega
  have HBL:=kH X.le;have ZF:=kH X.dom;have HN:Hid (∀(W:World) (b:Nat),Below B w W->W.heap[b]?=some (.cells #[.int .i64 ((p.hs.length:Int)+1)] 3 (0,0))->_):=fun W b hb h=>ES (x:=p.hs.length+1) (by omega) h (HT.out hb)
  have HOW:Hid (∀o,_):=fun o=>aC kL.out.mx.hrt ((Gr.refl _).alloc o)
  have aif:Hid (∀(W:World) (j:Nat) (u:Value),(hL (jr x))[j]?=some u->(W.alloc (.cells (hA (jr x)) 43)).cell? ((⟨W.heap.size,0,none⟩:Addr).add j)=some u):=fun W j u hj=>by
   rw[cz,apu,cr (at5 W _)];show(hL (jr x)).toArray[j]?=some u
   rw[apm];exact hj
  have xD:=kH (aD zR.out.1);have HAP:Hid (∀(o:Obj) (w2:World) (H':Value),((w.setCell ⟨g,4,none⟩ (.bool false)).alloc o).grownBy w2 (Value.slice ha p.hs.length hc0).ownBlock->w2.ownsRow B 43 37 H' (p.hs.length+1) (hC p.hs++hL (jr x))->(∀k,H'.ownBlock=some k->(Value.slice ha p.hs.length hc0).ownBlock=some k\/((w.setCell ⟨g,4,none⟩ (.bool false)).alloc o).heap.size<=k)->
    w2.heap[g]?=some (.cells #[.slice ma p.m.length mc,.slice ha p.hs.length hc0,.slice pa p.ps.length pc,.slice ua un uc,.bool false] 71 (0,0))/\Pr 71 B (w2.setCell ⟨g,1,none⟩ H') g (.slice ma p.m.length mc) H' (.slice pa p.ps.length pc) (.slice ua un uc) { p with hs:=p.hs++[jr x],fr:=false }/\Fx (Dm g (.slice ma p.m.length mc) (.slice ha p.hs.length hc0) (.slice pa p.ps.length pc)) (Dm g (.slice ma p.m.length mc) H' (.slice pa p.ps.length pc)) w (w2.setCell ⟨g,1,none⟩ H')):=fun o w2 H' q O hat=>by
   obtain⟨a,b,c⟩:=(kL.out.gr ((Gr.refl _).alloc o)).aib rfl zR.out HLE.out q O hat;exact⟨a,b,(rY.out.gr ((Gr.refl _).alloc o)).trans c⟩
  have hq1:=HLE.out;generalize p.hs.length=q at *
  have HZ:Hid (B<=(w.setCell ⟨g,4,none⟩ (.bool false)).heap.size):=by have:=HBL.out;unfold Hid;simpa using this
  go_enter func44,ntmps44
  go_wp2_with (first
   |(refine au9 rfl 43 _ rfl _ rfl (hA (jr x)) (by have:=HBT.out;simp[Act.eval,Act.put];exact this) ?_)
   |(refine vT rfl 26 43 (.tmp 22) rfl (hA (jr x)) 37 rfl KV.out underlying26 iHz (by decide) (by decide) ?_)
   |(at_builtin;refine gU rfl (.tmp 20) (.tmp 23) rfl underlying26 hi hz0 hz1 hz2 rfl (by decide) (.slice ha q hc0) (hC p.hs) rfl (HOW.out _) ⟨(w.setCell ⟨g,4,none⟩ (.bool false)).heap.size,0,none⟩ 1 1 (hL (jr x)) rfl (by rw[xD.out]) (aif.out _) HON.out (by unfold maxLen;omega) (by omega) (by have:=HZ.out;simp at this ⊢;omega) ?_;intro v' w2 hown hgrow hat;obtain⟨_,_,a2,c2,rfl⟩:=az hown;obtain⟨hb2,X2,F2⟩:=HAP.out _ _ _ hgrow hown hat;have HX2:Hid _:=X2;have pX:Hid (Fx _ _ _ _):=F2;have j1:=iY hb2;have j2:w2.frozen? ⟨g,1,none⟩=false:=lh hb2;clear hown hgrow hat hb2 X2 F2))
  refine(HN.out _ _ ((pX.out.gr ((Gr.refl _).alloc _)).below (fun k hk=>(ZF.out k hk).1) HBL.out) (PM _ _ _ _)).mono ?_;rintro e w3 ⟨rfl,G3⟩;go_wp2_with fail;go_ret;exact fE.mk rfl HX2.out pX.out (((Gr.refl _).alloc _).trans G3)
 ·have e:uV p [x]=(p,aQ):=by simp only[uV,at6 hc]
  rw[e];obtain⟨ma,mc,ha,hc0,pa,pc,ua,un,uc,rfl,rfl,rfl,rfl,_⟩:=X.open;have z1:=iY X.blk;have HX:=kH X;generalize hq:p.hs.length=n at *
  have h5:n=4:=by omega
  go_enter func44,ntmps44;go_wp2_with fail;go_ret;exact⟨rfl,_,_,_,_,HX.out,Fx.refl _ _⟩
theorem He {n c:Nat}{ha:Option Addr}{hs:List Hv}(h:w.ownsRow B 43 37 (.slice ha n c) n (hC hs))(hn:0<n):∃gh o,ha=some ⟨gh,0,none⟩/\w.heap[gh]?=some (.cells o 43 (0,0)):=by
 rcases h.2 with⟨_,h0⟩|⟨k,cap,cur,hv,_,he,_⟩
 ·omega
 ·injection hv with hv;exact⟨k,cur,hv,he⟩
theorem Vy {k r x:Nat}(hx:x<4294967296)(X:Pr 71 B w g M H P U p)(hk:k<p.hs.length)(h1:1<=r)(h2:r<=31):Calls prog 45 #[.pointer (some ⟨g,0,none⟩),.int .u32 k,.int .u32 r,.int .u32 x] w (fE 71 B w g M H P (Cf p [k,r,x])):=by
 have e:Cf p [k,r,x]=({ p with hs:=p.hs.set k { hAt p k with regs:=(hAt p k).regs.set r x },fr:=false },Ce):=by simp only[Cf,at7 (show k<p.hs.length/\1<=r/\r<=31 from⟨hk,h1,h2⟩)]
 rw[e];have h4:=X.ok.h4;obtain⟨ma,mc,ha,hc0,pa,pc,ua,un,uc,rfl,rfl,rfl,rfl,_,_,hH,_⟩:=X.open;obtain⟨gh,oh,rfl,he⟩:=He X.mx.hrt (by omega);have GR:Hid (∀W:World,Pr 71 B W g (.slice ma p.m.length mc) (.slice (some ⟨gh,0,none⟩) p.hs.length hc0) (.slice pa p.ps.length pc) (.slice ua un uc) { p with fr:=false }->Calls prog 77 #[.pointer (some ⟨g,0,none⟩),.int .u32 k] W fun e w'=>e=.returned (.bool true)/\W=w'):=fun W Y=>(dE Y).mono fun e w' ⟨a,b⟩=>⟨by rw[a];exact congrArg (fun t=>Ending.returned (.bool t)) (auq hk),b⟩
 obtain⟨X1,F1⟩:=X.down;obtain⟨X2,F2⟩:=Pr.vM (p:={ p with fr:=false }) (k:=k) X1 rfl hk h1 h2 hx;have f4:w.frozen? ⟨g,4,none⟩=false:=lh X.blk;have z4:=E8 X.blk;have y1:=iY X1.blk;have he1:=(dx (i:=4) (v:=.bool false) X.blk (by decide) he).trans he;have fh:(w.setCell ⟨g,4,none⟩ (.bool false)).frozen? ⟨gh,k*37+r,none⟩=false:=lh he1;obtain⟨v0,hv0⟩:∃v0,(w.setCell ⟨g,4,none⟩ (.bool false)).cell? ⟨gh,k*37+r,none⟩=some v0:=by
  obtain⟨b,o,e2,_,hc⟩:=hH.spot (by omega);injection e2 with e2;injection e2 with e3 e4;subst e3 e4;have h5:=lC (hH.ok _ (sP hk)) (show r<32 by omega);have h6:=hc k (hAt p k) (by unfold hAt;rw[apV,api hk];rfl) r _ h5;rw[apu]at h6;exact⟨_,(aui (a:=⟨gh,k*37+r,none⟩) (dx (i:=4) (v:=.bool false) X.blk (by decide) he)).trans h6⟩
 have d1:decide ((r:Int)<1)=false:=auh (by omega);have d2:decide ((r:Int) > 31)=false:=auh (by omega);have d3:decide ((31:Int)<r)=false:=auh (by omega);have k0:(k:Int)<(p.hs.length:Int):=by omega
 have r0:(r:Int)<32:=by omega
 have kL:=kH X1;have HX2:=kH X2;have pX:=kH (F1.trans F2);generalize p.hs.length=n at *
 go_enter func45,ntmps45;go_wp2_with fail;refine(GR.out _ kL.out).mono ?_;rintro e w1 ⟨rfl,rfl⟩;go_wp2_with fail;go_ret;exact fE.mk rfl HX2.out pX.out (Gr.refl _)
theorem aa3 {k r x:Nat}(X:Pr 71 B w g M H P U p)(hn:¬(k<p.hs.length/\1<=r/\r<=31)):Calls prog 45 #[.pointer (some ⟨g,0,none⟩),.int .u32 k,.int .u32 r,.int .u32 x] w (fE 71 B w g M H P (Cf p [k,r,x])):=by
 have e:Cf p [k,r,x]=({ p with fr:=false },aQ):=by simp only[Cf,at6 hn]
 rw[e];have GR:Hid (∀W:World,Pr 71 B W g M H P U { p with fr:=false }->Calls prog 77 #[.pointer (some ⟨g,0,none⟩),.int .u32 k] W fun e w'=>e=.returned (.bool (decide (k<p.hs.length)))/\W=w'):=fun W Y=>(dE Y).mono fun e w' ⟨a,b⟩=>⟨a,b⟩
 obtain⟨X1,F1⟩:=X.down;have f4:w.frozen? ⟨g,4,none⟩=false:=lh X.blk;have z4:=E8 X.blk;have kL:=kH X1;have rY:=kH F1;by_cases hk:k<p.hs.length
 ·rw[auq hk]at GR;by_cases h1:1<=r
  ·have d1:decide ((r:Int)<1)=false:=auh (by omega);have d2:decide ((r:Int) > 31)=true:=auq (by omega);have d3:decide ((31:Int)<r)=true:=auq (by omega);go_enter func45,ntmps45;go_wp2_with fail;refine(GR.out _ kL.out).mono ?_;rintro e w1 ⟨rfl,rfl⟩;go_wp2_with fail;go_ret;exact fE.mk rfl kL.out rY.out (Gr.refl _)
  ·have d1:decide ((r:Int)<1)=true:=auq (by omega);go_enter func45,ntmps45;go_wp2_with fail;refine(GR.out _ kL.out).mono ?_;rintro e w1 ⟨rfl,rfl⟩;go_wp2_with fail;go_ret;exact fE.mk rfl kL.out rY.out (Gr.refl _)
 ·rw[auh hk]at GR;go_enter func45,ntmps45;go_wp2_with fail;refine(GR.out _ kL.out).mono ?_;rintro e w1 ⟨rfl,rfl⟩;go_wp2_with fail;go_ret;exact fE.mk rfl kL.out rY.out (Gr.refl _)
theorem aa4:(prog.info? 45).map (fun i=>(i.zero,i.size,i.bytes))=some (some (.agg #[.int .i64 0,.int .i64 0]),2,16):=by kernel_rfl
theorem VA {b:Nat}{x y:Value}{t:Nat}{f:Nat×Nat}(h:w.heap[b]?=some (.cells #[x,y] t f)):∀j u,([x,y]:List Value)[j]?=some u->w.cell? ((⟨b,0,none⟩:Addr).add j)=some u:=by intro j u hj;rw[cz,apu,cr h];simpa using hj
theorem PO (x y:Int):∀u∈[Value.int .i64 x,.int .i64 y],u.oneCell'=true:=by intro u hu;simp only[apx,apB,auw]at hu;rcases hu with rfl|rfl<;>rfl
theorem PQ {k n:Nat}(hk:k<4294967296)(hn:n<4294967296)(X:Pr 71 B w g M H P U p)(T:∀{W:World},Below B w W->gz W):Calls prog 46 #[.pointer (some ⟨g,0,none⟩),.int .u32 k,.int .u32 n] w (fE 71 B w g M H P (uW p [k,n])):=by
 obtain⟨ma,mc,ha,hc0,pa,pc,ua,un,uc,rfl,rfl,rfl,rfl,_⟩:=X.open;have z2:=EZ X.blk;have p3:=X.ok.p3;by_cases hc:p.ps.length<300
 ·have e:uW p [k,n]=({ p with ps:=p.ps++[((k:Int),(n:Int))] },bH Ce [p.ps.length+1]):=by simp only[uW,at7 hc]
  rw[e];obtain⟨i0,hi,hz0,hz1,hz2⟩:=auz aa4;obtain⟨N,n1,n2,n3,n4⟩:=X.row;have HBL:=kH X.le;have ZF:=kH X.dom;have HN:Hid (∀(W:World) (b:Nat),Below B w W->W.heap[b]?=some (.cells #[.int .i64 ((p.ps.length:Int)+1)] 3 (0,0))->_):=fun W b hb h=>ES (x:=p.ps.length+1) (by omega) h (T hb)
  have HOW:Hid (∀o,_):=fun o=>aC n3 ((Gr.refl _).alloc o)
  have HAP:Hid (∀(o:Obj) (w2:World) (P':Value),(w.alloc o).grownBy w2 (Value.slice pa p.ps.length pc).ownBlock->w2.ownsRow N 45 2 P' (p.ps.length+1) (pC p.ps++[.int .i64 (k:Int),.int .i64 (n:Int)])->(∀q,P'.ownBlock=some q->(Value.slice pa p.ps.length pc).ownBlock=some q\/(w.alloc o).heap.size<=q)->
    w2.heap[g]?=some (.cells #[.slice ma p.m.length mc,.slice ha p.hs.length hc0,.slice pa p.ps.length pc,.slice ua un uc,.bool p.fr] 71 (0,0))/\Pr 71 B (w2.setCell ⟨g,2,none⟩ P') g (.slice ma p.m.length mc) (.slice ha p.hs.length hc0) P' (.slice ua un uc) { p with ps:=p.ps++[((k:Int),(n:Int))] }/\Fx (Dm g (.slice ma p.m.length mc) (.slice ha p.hs.length hc0) (.slice pa p.ps.length pc)) (Dm g (.slice ma p.m.length mc) (.slice ha p.hs.length hc0) P') w (w2.setCell ⟨g,2,none⟩ P')):=fun o w2 P' q O hat=>by
   have G:=(Gr.refl w).alloc o;obtain⟨a,b,c⟩:=(X.gr G).pkA (s:=((k:Int),(n:Int))) n1 (apr n2 G.size) (aC n3 G) (fun h=>(n4 h).step G.size fun j hj _=>G.block j (by omega)) ⟨by simp only;omega,by simp only;omega,by simp only;omega,by simp only;omega⟩ (by omega) q O hat;exact⟨a,b,(Fx.bD G).trans c⟩
  have HN2:=kH n2;have hq1:p.ps.length+1<=300:=by omega
  have w1:IntKind.i64.wrap (k:Int)=(k:Int):=by rw[auQ];omega
  have w3:IntKind.i64.wrap (n:Int)=(n:Int):=by rw[auQ];omega
  generalize p.ps.length=q at *
  go_enter func46,ntmps46;go_wp2_with (at_builtin;refine gU rfl (.tmp 17) (.tmp 23) rfl underlying29 hi hz0 hz1 hz2 rfl (by decide) (.slice pa q pc) (pC p.ps) rfl (HOW.out _) ⟨w.heap.size,0,none⟩ 1 1 [.int .i64 (k:Int),.int .i64 (n:Int)] rfl rfl (VA (at5 w _)) (PO _ _) (by unfold maxLen;omega) (by omega) (by have:=HN2.out;simp at this ⊢;omega) ?_;intro v' w2 hown hgrow hat;obtain⟨_,_,a2,c2,rfl⟩:=az hown;obtain⟨hb2,X2,F2⟩:=HAP.out _ _ _ hgrow hown hat;have HX2:Hid _:=X2;have pX:Hid (Fx _ _ _ _):=F2;have j1:=EZ hb2;have j2:w2.frozen? ⟨g,2,none⟩=false:=lh hb2;clear hown hgrow hat hb2 X2 F2);refine(HN.out _ _ ((pX.out.gr ((Gr.refl _).alloc _)).below (fun k hk=>(ZF.out k hk).1) HBL.out) (PM _ _ _ _)).mono ?_;rintro e w4 ⟨rfl,G3⟩;go_wp2_with fail;go_ret;exact fE.mk rfl HX2.out pX.out (((Gr.refl _).alloc _).trans G3)
 ·have e:uW p [k,n]=(p,aQ):=by simp only[uW,at6 hc]
  rw[e];have HX:=kH X;have h5:p.ps.length=300:=by omega
  generalize hq:p.ps.length=q at *
  go_enter func46,ntmps46;go_wp2_with fail;go_ret;exact⟨rfl,_,_,_,_,HX.out,Fx.refl _ _⟩
end Vp
namespace Vp
open Mm Hh Hc Mc Ud As

variable {w :World} {g B :Nat} {M H P U :Value} {p :Pl}
theorem aew {x:Nat}(hx:x<4294967296):bc (w4 x)=[.int .u8 ((x:Int)%256),.int .u8 ((x:Int)/256%256),.int .u8 ((x:Int)/65536%256),.int .u8 ((x:Int)/16777216)]:=by
 have e:∀y:Nat,((UInt8.ofNat (y%256)).toNat:Int)=(y:Int)%256:=fun y=>by rw[auG];omega
 unfold bc w4;simp only[aqo,aru];rw[e,e,e,e];have h1:((x/16777216:Nat):Int)%256=(x:Int)/16777216:=by omega
 simp only[List.cons.injEq,Value.int.injEq,au7,and_true];refine⟨?_,?_,?_⟩<;>omega
theorem PR {b:Nat}{a0 a1 a2 a3:Value}{t:Nat}{f:Nat×Nat}(h:w.heap[b]?=some (.cells #[a0,a1,a2,a3] t f)):∀j u,([a0,a1,a2,a3]:List Value)[j]?=some u->w.cell? ((⟨b,0,none⟩:Addr).add j)=some u:=by intro j u hj;rw[cz,apu,cr h];simpa using hj
def wP (p:Pl) (l:List Nat) (k:Nat):Pl:={ p with m:=p.m++(l.take k).flatMap w4,fr:=false }
theorem aa5 (p:Pl)(l:List Nat){k:Nat}(hk:k<=l.length):(wP p l k).m.length=p.m.length+4*k:=by
 show(p.m++_).length=_
 rw[apo,GI,ap5,arA hk]
theorem VB (p:Pl){l:List Nat}{k x:Nat}(h:l[k]?=some x):wP p l (k+1)={ wP p l k with m:=(wP p l k).m++w4 x }:=by unfold wP;rw[apU,h];simp
theorem J9 {na:Option Addr}{n c:Nat}{l:List Nat}(X:Pr 71 B w g M H P U p)(N:Ns .u32 w na n l)(hl:∀x∈l,x<4294967296)(hna:∀b o,na=some ⟨b,o,none⟩->¬Dm g M H P b)(T:∀{W:World},Below B w W->gz W)(h4:p.m.length+4*l.length<=4096):Calls prog 43 #[.pointer (some ⟨g,0,none⟩),.slice na n c] w (fE 71 B w g M H P (iL p l)):=by
 have e:iL p l=(wP p l l.length,bH Ce [p.m.length+4*l.length]):=by
  unfold iL wP;rw[ak,ap9]
 rw[e];obtain⟨i0,hi,hz0,hz1,hz2⟩:=auz info5;obtain⟨X1,F1⟩:=X.down;obtain⟨ma,mc,ha,hc0,pa,pc,ua,un,uc,rfl,rfl,rfl,rfl,_⟩:=X.open;have z0:=iE X.blk;have f4:w.frozen? ⟨g,4,none⟩=false:=lh X.blk;have z4:=E8 X.blk;have HX0:Hid (Pr 71 B (w.setCell ⟨g,4,none⟩ (.bool false)) g (.slice ma p.m.length mc) (.slice ha p.hs.length hc0) (.slice pa p.ps.length pc) (.slice ua un uc) (wP p l 0)):=by
  have:wP p l 0={ p with fr:=false }:=by unfold wP;simp
  unfold Hid;rw[this];exact X1
 have HF0:Hid _:=F1;have HN:=kH N;have HL:=kH hl;have HNA:=kH hna;have ZF:=kH X.dom;have HBL:=kH X.le;have HT:Hid (∀{W:World},Below B w W->gz W):=T;have hln:=N.len;have KV:=kH hln;have HLE:=kH h4;rw[hln]at h4 ⊢;have lU:p.m.length<=4096:=by omega
 have hD0:=kH F1;go_enter func43,ntmps43;go_wp2_with fail;go_loopw [23] (fun i wr=>∃k:Nat,k<=n/\i=.int .i64 k/\∃M',Pr 71 B wr g M' (.slice ha p.hs.length hc0) (.slice pa p.ps.length pc) (.slice ua un uc) (wP p l k)/\Fx (Dm g (.slice ma p.m.length mc) (.slice ha p.hs.length hc0) (.slice pa p.ps.length pc)) (Dm g M' (.slice ha p.hs.length hc0) (.slice pa p.ps.length pc)) w wr) (fun i _=>n-(intOf i).toNat)
 case atStart=>exact⟨0,apF _,rfl,_,HX0.out,hD0.out⟩
 case round=>
  obtain⟨k,hk,rfl,M1,X,F⟩:=hrel;obtain⟨va,vc,_,_,_,_,_,_,_,rfl,_⟩:=X.open;have hlk:=aa5 p l (k:=k) (by rw[KV.out];exact hk);have z0:=iE X.blk;have f0:wr.frozen? ⟨g,0,none⟩=false:=lh X.blk;have HOW:Hid (∀o,_):=fun o=>aC X.mx.mem ((Gr.refl _).alloc o)
  have HX:=kH X;have HF:=kH F;obtain⟨s,hs⟩:∃s,(wP p l k).m.length=s:=⟨_,rfl⟩;have HS:=kH hs;rw[hs]at hlk HOW z0 HF HX;have hs4:s<=4096:=by omega
  have HLK:=kH hlk;by_cases hlt:k<n
  ·obtain⟨b,o,rfl,hb,hc⟩:=HN.out.spot (by omega);obtain⟨x,hx⟩:∃x,l[k]?=some x:=⟨_,api (by rw[KV.out];exact hlt)⟩;have hx1:=HL.out x (aps hx);have k1:=(aui (a:=⟨b,o+k,none⟩) (F.keep b hb (HNA.out b o rfl))).trans (hc k x hx);have hbc:Hid _:=aew hx1;have ZB:Hid _:=VB p hx;have x0:(0:Int)<=(x:Int):=by omega
   have x1:(x:Int)<4294967296:=by omega
   have s5:s+4<=4096:=by omega
   have HAP:Hid (∀(o:Obj) (w2:World) (M':Value),(wr.alloc o).grownBy w2 (Value.slice va s vc).ownBlock->w2.ownsRow B 5 1 M' (s+4) (bc (wP p l k).m++[.int .u8 ((x:Int)%256),.int .u8 ((x:Int)/256%256),.int .u8 ((x:Int)/65536%256),.int .u8 ((x:Int)/16777216)])->(∀q,M'.ownBlock=some q->(Value.slice va s vc).ownBlock=some q\/(wr.alloc o).heap.size<=q)->
     w2.heap[g]?=some (.cells #[.slice va s vc,.slice ha p.hs.length hc0,.slice pa p.ps.length pc,.slice ua un uc,.bool false] 71 (0,0))/\Pr 71 B (w2.setCell ⟨g,0,none⟩ M') g M' (.slice ha p.hs.length hc0) (.slice pa p.ps.length pc) (.slice ua un uc) (wP p l (k+1))/\Fx (Dm g (.slice ma p.m.length mc) (.slice ha p.hs.length hc0) (.slice pa p.ps.length pc)) (Dm g M' (.slice ha p.hs.length hc0) (.slice pa p.ps.length pc)) w (w2.setCell ⟨g,0,none⟩ M')):=fun o w2 M' qq O hat=>by
    rw[ZB.out];obtain⟨a,b,c⟩:=Pr.aia (p:=wP p l k) (l:=w4 x) (n:=4) (HX.out.gr ((Gr.refl _).alloc o)) rfl rfl (by rw[HS.out];exact s5) qq (by rw[hbc.out,HS.out];exact O) hat;exact⟨a,b,(HF.out.gr ((Gr.refl _).alloc o)).trans c⟩
   have HBS:Hid _:=apr HBL.out F.size;clear X F hs hlk hc hx hb HX HF hx1;generalize bc (wP p l k).m=old at *
   go_wp2_with (at_builtin;refine gU rfl (.tmp 32) (.tmp 44) rfl underlying25 hi hz0 hz1 hz2 rfl (by decide) (.slice va s vc) old rfl (HOW.out _) ⟨wr.heap.size,0,none⟩ 4 4 [.int .u8 ((x:Int)%256),.int .u8 ((x:Int)/256%256),.int .u8 ((x:Int)/65536%256),.int .u8 ((x:Int)/16777216)] rfl rfl (PR (at5 wr _)) (by rw[<-hbc.out];exact xX _) (by unfold maxLen;omega) (by omega) (by have:=HBS.out;simp at this ⊢;omega) ?_;intro v' w2 hown hgrow hat;obtain⟨_,_,a2,c2,rfl⟩:=az hown;obtain⟨hb2,X2,F2⟩:=HAP.out _ _ _ hgrow hown hat;have HX2:Hid _:=X2;have pX:Hid (Fx _ _ _ _):=F2;have j1:=iE hb2;have j2:w2.frozen? ⟨g,0,none⟩=false:=lh hb2;clear hown hgrow hat hb2 X2 F2);go_roundw
   case rel=>exact⟨k+1,by omega,by go_num,_,HX2.out,pX.out⟩
   case measure=>simp[intOf];omega
  ·have e0:k=n:=by omega
   subst e0;have HNM:Hid (∀(W:World) (b:Nat),Gr wr W->W.heap[b]?=some (.cells #[.int .i64 (s:Int)] 3 (0,0))->_):=fun W b G h=>ES (x:=s) (by omega) h (HT.out ((HF.out.gr G).below (fun q hq=>(ZF.out q hq).1) HBL.out))
   have HE:=kH hlk;clear X F hs hlk;go_wp2_with fail;refine(HNM.out _ _ ((Gr.refl _).alloc _) (at5 _ _)).mono ?_;rintro e w3 ⟨rfl,G3⟩;go_wp2_with fail;go_ret;exact fE.mk (U':=.slice ua un uc) (by show Ending.returned (str (bH Ce [s]))=_;rw[HE.out]) HX.out HF.out (((Gr.refl _).alloc _).trans G3)
theorem PS {na:Option Addr}{c:Nat}{l:List Nat}(X:Pr 71 B w g M H P U p)(h4:4096<p.m.length+4*l.length):Calls prog 43 #[.pointer (some ⟨g,0,none⟩),.slice na l.length c] w (fE 71 B w g M H P (iL p l)):=by
 have e:iL p l=({ p with fr:=false },aQ):=by
  unfold iL;rw[at7 h4]
 rw[e];have m4:=X.ok.m4;obtain⟨X1,F1⟩:=X.down;obtain⟨ma,mc,ha,hc0,pa,pc,ua,un,uc,rfl,rfl,rfl,rfl,_⟩:=X.open;have z0:=iE X.blk;have f4:w.frozen? ⟨g,4,none⟩=false:=lh X.blk;have z4:=E8 X.blk;have kL:=kH X1;have rY:=kH F1;generalize l.length=n at *
 go_enter func43,ntmps43;go_wp2_with fail;go_ret;exact fE.mk rfl kL.out rY.out (Gr.refl _)
end Vp
end Go.Proofs.YtiadhbmnfjfioaaGreatDoor
