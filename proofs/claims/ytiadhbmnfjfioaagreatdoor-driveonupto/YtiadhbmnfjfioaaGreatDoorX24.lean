/- ours -/
import Derived.Test.YtiadhbmnfjfioaaGreatDoorX23
set_option linter.unusedVariables false
set_option linter.unusedSimpArgs false
set_option maxHeartbeats 8000000
set_option maxRecDepth 100000
set_option linter.unusedSectionVars false
namespace Go.Proofs.YtiadhbmnfjfioaaGreatDoor
open Go.Proofs.Tryz hiding d1
open Go.ChangeShapes Go.WideShapes Go.ChangeAt Go.RowKit
variable [Inhabited Hc.bN]
namespace Mi
open Mm Hh Hc

variable {base g n e sz :Nat} {w :World} {v :Value} {xs :List Value}
theorem xz (h:w.ownsRow base e sz v n xs):∃a c,v=.slice a n c:=by
 rcases h.2 with⟨rfl,rfl⟩|⟨g,cap,_,rfl,_⟩
 ·exact⟨none,0,rfl⟩
 ·exact⟨_,cap,rfl⟩
end Mi
namespace Mi
open Mm Hh Hc

variable {w w' :World} {k g :Nat}
theorem dI (g:Gr w w'){x:Obj}(h:w.heap[k]?=some x):w'.heap[k]?=some x:=by rw[au1 g k (gs h).1];exact h
end Mi
namespace Mi
open Mm Hh Hc

end Mi
namespace Mi
open Mm Hh Hc

variable {h :Hv} {n :Nat} {w :World} {r :Rn} {M O S :Value}
def gL (h:Hv) (M O:Value) (n:Int) (S:Value):List Value:=hL h++[M,O,.int .i64 n,S]
def gA (h:Hv) (M O:Value) (n:Int) (S:Value):Array Value:=(gL h M O n S).toArray
theorem ZM (o:h.Ok)(M O:Value)(n:Int)(S:Value):(gL h M O n S).length=41:=by simp[gL,aD o]
theorem Gl (o:h.Ok)(M O:Value)(n:Int)(S:Value):(gA h M O n S).size=41:=by simp[gA,ZM o]
theorem adJ:(prog.info? 142).bind (·.zero)=some (.agg (gA h0 ax ax 0 ax)):=by kernel_rfl
theorem Xi:(prog.info? 142).map (·.size)=some 41:=by kernel_rfl
theorem iHa:(prog.info? 43).map (·.size)=some 37:=by kernel_rfl
structure Dr (w:World) (r:Rn) (M O S:Value):Prop where
 ok:r.Ok
 mem:∃ao c,M=.slice ao r.m.length c/\Mem w ao r.m.length r.m
 out:∃b,w.ownsRow b 37 1 O r.out.length (r.out.map (Value.int .u32))
 av:∃b,w.ownsRow b 175 2 S r.av.length (rE r.av)
end Mi
namespace Mi
open Mm Hh Hc

variable {h :Hv} {M O S v :Value} {n :Int} {w :World}
theorem ZN {ss:List (Int×Int)}:∀{i:Nat} {p:Int×Int},ss[i]?=some p->(rE ss)[i*2]?=some (.int .u32 p.1)/\(rE ss)[i*2+1]?=some (.int .u32 (Wd.lo (p.1+p.2))):=by
 induction ss with
 |nil=>intro i p h;simp at h
 |cons q r ih=>
  intro i p h;have e:rE (q::r)=[.int .u32 q.1,.int .u32 (Wd.lo (q.1+q.2))]++rE r:=rfl
  match i,h with
  |0,h=>simp at h;subst h;exact⟨rfl,rfl⟩
  |i+1,h=>
   have ih:=ih (i:=i) (by simpa using h);rw[e,apv (by simp;omega),apv (by simp;omega)];simp only[apH,ap8];rw[show(i+1)*2-(0+1+1)=i*2 by omega,show(i+1)*2+1-(0+1+1)=i*2+1 by omega];exact ih
theorem Od (o:h.Ok)(j:Nat):(gA h M O n S)[37+j]?=[M,O,Value.int .i64 n,S][j]?:=by unfold gA gL;rw[apm,apv (by simp[aD o])];simp[aD o]
theorem ZO {base e sz n:Nat}{xs:List Value}(h:w.ownsRow base e sz v n xs)(hn:0<n):∃g c,v=.slice (some ⟨g,0,none⟩) n c/\g<w.heap.size/\∀j u,xs[j]?=some u->w.cell? ⟨g,j,none⟩=some u:=by obtain⟨g,c,rfl⟩:=dh h hn;refine⟨g,c,rfl,(h.lt g rfl).2,fun j u hu=>?_⟩;have:=h.cells (g:=g) rfl j u hu;rwa[cz,apu]at this
end Mi
namespace Mp
open Mm Hh Hc Mi

variable {w :World} {B g base j :Nat} {bf bt :Int} {sa :Option Addr} {ss :List (Int × Int)} {α :Type}
theorem Ug (kb:w.cell? ⟨B,0,none⟩=some (.pointer (some ⟨g,0,none⟩)))(Uh:w.cell? ⟨g,44,none⟩=some (.int .u32 bf))(Xj:w.cell? ⟨g,45,none⟩=some (.int .u32 bt))(x y:Int):Calls prog 201 #[.agg #[.int .u32 x,.int .u32 y],.pointer (some ⟨B,0,none⟩)] w fun e w'=>e=.returned (.bool (decide (max x bf<min y bt)))/\Gr w w':=by
 have G:∀x,Gr w (w.alloc x):=fun x=>(Gr.refl _).alloc _
 have hB:=aug w _ kb;have hg:=aug w _ Uh;have q1:∀x,(w.alloc x).cell? ⟨B,0,none⟩=some (.pointer (some ⟨g,0,none⟩)):=fun x=>((G x).cell _ (by exact hB)).trans kb
 have q2:∀x,(w.alloc x).cell? ⟨g,44,none⟩=some (.int .u32 bf):=fun x=>((G x).cell _ (by exact hg)).trans Uh
 have q3:∀x,(w.alloc x).cell? ⟨g,45,none⟩=some (.int .u32 bt):=fun x=>((G x).cell _ (by exact hg)).trans Xj
 go_enter func201,ntmps201;go_wp2;go_region;all_goals (try go_wp2)
 all_goals
  go_ret;refine⟨l7 ?_,((Gr.refl _).alloc _).drew⟩;rw[decide_eq_decide,Int.max_def,Int.min_def];all_goals ((repeat' split)<;>omega)
def Rs (w:World) (sa:Option Addr) (ss:List (Int×Int)):Prop:=∀i p,ss[i]?=some p->∃g1,sa=some ⟨g1,0,none⟩/\g1<w.heap.size/\w.cell? ⟨g1,i*2,none⟩=some (.int .u32 p.1)/\w.cell? ⟨g1,i*2+1,none⟩=some (.int .u32 (Wd.lo (p.1+p.2)))
theorem Rs.of {w':World}(h:Rs w sa ss)(G:Gr w w'):Rs w' sa ss:=fun i p hp=>by obtain⟨g1,e,l,c0,c1⟩:=h i p hp;exact⟨g1,e,apq l G.size,(G.cell _ (by exact l)).trans c0,(G.cell _ (by exact l)).trans c1⟩
theorem ZP {S:Value}(so:w.ownsRow base 175 2 S ss.length (rE ss)):∃sa sc,S=.slice sa ss.length sc/\Rs w sa ss:=by
 obtain⟨sa,sc,rfl⟩:=xz so;refine⟨sa,sc,rfl,fun i p hp=>?_⟩;have hn:0<ss.length:=by have:=(apj.1 hp).1;omega
 obtain⟨g1,d1,e1,l1,c1⟩:=ZO so hn;injection e1 with f1 _ _;have q:=ZN hp;exact⟨g1,f1,l1,c1 _ _ q.1,c1 _ _ q.2⟩
theorem Oe {f:α->Bool}{l:List α}{x:α}(h:l[j]?=some x):(l.take (j+1)).any f=((l.take j).any f ||f x):=by rw[apU,h,aq5];simp
theorem Er {f:α->Bool}{l:List α}{x:α}(h:l[j]?=some x)(hx:f x=true):l.any f=true:=List.any_eq_true.2 ⟨x,aps h,hx⟩
theorem Ui {w:World}{B g:Nat}{bf bt:Int}(kb:w.cell? ⟨B,0,none⟩=some (.pointer (some ⟨g,0,none⟩)))(Uh:w.cell? ⟨g,44,none⟩=some (.int .u32 bf))(Xj:w.cell? ⟨g,45,none⟩=some (.int .u32 bt)){sa:Option Addr}(sc:Nat){ss:List (Int×Int)}(R:Rs w sa ss)(hs:ss.length<=1000000):Calls prog 203 #[.slice sa ss.length sc,.func (.func 201) #[] #[.pointer (some ⟨B,0,none⟩)]] w fun e w'=>∃z:Int,e=.returned (.int .i64 z)/\decide (0<=z)=ownB bf bt ss/\Gr w w':=by
 have Cl:Hid (∀W:World,Gr w W->∀x y,Calls prog 201 #[.agg #[.int .u32 x,.int .u32 y],.pointer (some ⟨B,0,none⟩)] W fun e w'=>e=.returned (.bool (decide (max x bf<min y bt)))/\Gr W w'):=fun W G x y=>
  Ug ((G.cell _ (by exact aug w _ kb)).trans kb) ((G.cell _ (by exact aug w _ Uh)).trans Uh) ((G.cell _ (by exact aug w _ Xj)).trans Xj) x y
 have HR:=kH R;generalize hn:ss.length=n at *
 have HN:=kH hn;go_enter func203,ntmps203;go_wp2_with fail;go_loopw [8] (fun i wr=>∃j:Nat,j<=n/\i=.int .i64 j/\(ss.take j).any (meet bf bt)=false/\Gr w wr) (fun i _=>n-(intOf i).toNat)
 case atStart=>exact⟨0,apF _,rfl,rfl,Gr.refl _⟩
 case round=>
  obtain⟨j,hj,rfl,hno,G⟩:=hrel;have nY:=kH hno;have HG:=kH G;by_cases hlt:j<n
  ·obtain⟨p,hp⟩:∃p,ss[j]?=some p:=⟨_,api (by rw[HN.out];exact hlt)⟩;obtain⟨g1,rfl,l1,c0,c1⟩:=HR.out.of HG.out j p hp;have HY:Hid (meet bf bt p=true->_):=fun h=>Er hp h
   have HZ:Hid (meet bf bt p=false->(ss.take (j+1)).any (meet bf bt)=false):=fun h=>by rw[Oe hp,nY.out,h];rfl
   have wK:Hid (∀W:World,Gr w W->Calls prog 201 #[.agg #[.int .u32 p.1,.int .u32 (Wd.lo (p.1+p.2))],.pointer (some ⟨B,0,none⟩)] W fun e w'=>e=.returned (.bool (meet bf bt p))/\Gr W w'):=fun W G=>Cl.out W G _ _
   generalize meet bf bt p=m at *
   generalize Wd.lo (p.1+p.2)=y at *
   generalize p.1=x at *
   cases m with
   |true=>
    have KJ:Hid (ownB bf bt ss=true):=HY.out rfl;go_wp2_with fail;refine(wK.out _ HG.out).mono ?_;rintro e w1 ⟨rfl,G1⟩;have aU:Hid (Gr w w1):=HG.out.trans G1;clear wK G1 c0 c1;go_wp2_with fail;go_ret;exact⟨_,rfl,by rw[KJ.out];simp,aU.out⟩
   |false=>
    have HZ2:=kH (HZ.out rfl);go_wp2_with fail;refine(wK.out _ HG.out).mono ?_;rintro e w1 ⟨rfl,G1⟩;have aU:=kH (HG.out.trans G1);go_wp2_with fail;go_roundw
    case rel=>exact⟨j+1,by omega,by go_num,HZ2.out,aU.out⟩
    case measure=>simp[intOf];omega
  ·have ej:j=n:=by omega
   have HE:Hid (ownB bf bt ss=false):=by
    unfold Hid ownB;have:=nY.out;rwa[ej,<-HN.out,ap9]at this
   go_wp2_with fail;go_ret;exact⟨_,rfl,by rw[HE.out];rfl,HG.out⟩
theorem y8 (kb:w.cell? ⟨B,0,none⟩=some (.pointer (some ⟨g,0,none⟩)))(Uh:w.cell? ⟨g,44,none⟩=some (.int .u32 bf))(Xj:w.cell? ⟨g,45,none⟩=some (.int .u32 bt))(sc:Nat)(R:Rs w sa ss)(hs:ss.length<=1000000):Calls prog 200 #[.slice sa ss.length sc,.func (.func 201) #[] #[.pointer (some ⟨B,0,none⟩)]] w fun e w'=>e=.returned (.bool (ownB bf bt ss))/\Gr w w':=by
 have X:=kH (Ui kb Uh Xj sc R hs);generalize ownB bf bt ss=q at *
 generalize ss.length=n at *
 go_enter func200,ntmps200;go_wp2_with fail;refine X.out.mono ?_;rintro e w1 ⟨z,rfl,hz,G1⟩;have HZ:Hid _:=hz;have HG:Hid _:=G1;clear X hz G1;go_wp2_with fail;go_ret;exact⟨l7 HZ.out,HG.out⟩
theorem y9 {r:Rn}{steps:Int}(I:Pr w base g r bf bt steps)(o:r.Ok)(hs:r.av.length<=1000000):Calls prog 184 #[.pointer (some ⟨g,0,none⟩)] w fun e w'=>e=.returned (.bool (ownB bf bt r.av))/\Gr w w':=by
 have Uh:=I.NZ o 0;have Xj:=I.NZ o 1;have hg:=I.lt;obtain⟨c,hc,I⟩:=I;obtain⟨sa,sc,hS,R⟩:=ZP I.av;have KI:w.cell? ⟨g,39,none⟩=some (.slice sa r.av.length sc):=by rw[<-hS];exact I.dJ 2
 have G:∀x,Gr w (w.alloc x):=fun x=>(Gr.refl _).alloc _
 have X:Hid (Calls prog 200 #[.slice sa r.av.length sc,.func (.func 201) #[] #[.pointer (some ⟨w.heap.size,0,none⟩)]] (w.alloc (.cells #[.pointer (some ⟨g,0,none⟩)] 241)) fun e w'=>e=.returned (.bool (ownB bf bt r.av))/\Gr (w.alloc (.cells #[.pointer (some ⟨g,0,none⟩)] 241)) w'):=
  y8 (cr (at5 w _)) (((G _).cell _ (by exact hg)).trans Uh) (((G _).cell _ (by exact hg)).trans Xj) sc (R.of (G _)) hs
 generalize ownB bf bt r.av=q at *
 generalize r.av.length=n at *
 go_enter func184,ntmps184;go_wp2_with fail;refine X.out.mono ?_;rintro e w1 ⟨rfl,G1⟩;have HG:=kH (((Gr.refl _).alloc _).trans G1);go_wp2_with fail;go_ret;exact⟨rfl,HG.out⟩
end Mp
namespace Mp
open Mm Hh Hc Mi

variable {w :World} {base g :Nat} {r :Rn} {bf bt steps :Int}
theorem adK {a c:Int}{b d:Bool}(h:a=c)(q:b=d):Ending.returned (.tuple #[.int .u32 a,.bool b])=.returned (.tuple #[.int .u32 c,.bool d]):=by rw[h,q]
theorem JH {w:World}{base g:Nat}{r:Rn}{bf bt steps:Int}(I:Pr w base g r bf bt steps)(o:r.Ok)(hs:r.av.length<=1000000)(op d a b n:Int)(h1:op=1):Calls prog 170 #[.pointer (some ⟨g,0,none⟩),.agg #[.int .i64 op,.int .i64 d,.int .i64 a,.int .i64 b,.int .u32 n]] w fun e w'=>e=.returned (.tuple #[.int .u32 n,.bool (decide ((r.n:Int)=steps) ||ownB bf bt r.av)])/\Gr w w':=by
 subst h1;have G:∀x,Gr w (w.alloc x):=fun x=>(Gr.refl _).alloc _
 have hg:=I.lt;have k46:∀x,(w.alloc x).cell? ⟨g,46,none⟩=some (.int .i64 steps):=fun x=>(I.of (G x)).NZ o 2
 have k47:∀x,(w.alloc x).cell? ⟨g,47,none⟩=some (.int .i64 r.n):=fun x=>(I.of (G x)).NZ o 3
 have St:Hid (∀W:World,Gr w W->_):=fun W G=>y9 (I.of G) o hs
 generalize ownB bf bt r.av=q at *
 generalize hrn:(r.n:Int)=rn at *
 by_cases c:rn=steps
 ·have hd:(rn ==steps)=true:=by simp[c]
  have HE:Hid ((decide (rn=steps) ||q)=true):=by unfold Hid;simp[c]
  rw[HE.out];go_enter func170,ntmps170;go_wp2_with fail;go_quiet (fail);go_wp2_with fail;go_ret2;exact⟨rfl,((Gr.refl _).alloc _).drewN _⟩
 ·have hd:(rn ==steps)=false:=by simp[c]
  have HE:Hid ((decide (rn=steps) ||q)=q):=by unfold Hid;simp[c]
  rw[HE.out];go_enter func170,ntmps170;go_wp2_with fail;have k4:(w.alloc (.cells #[.int .i64 1,.int .i64 d,.int .i64 a,.int .i64 b,.int .u32 n] 235)).cell? ⟨w.heap.size,4,none⟩=some (.int .u32 n):=atZ _ _ _ _ _ _ (at5 w _)
  go_region_held3 (fun W=>W.cell? ⟨w.heap.size,4,none⟩=some (.int .u32 n)∧W.cell? ⟨g,46,none⟩=some (.int .i64 steps)∧W.cell? ⟨g,47,none⟩=some (.int .i64 rn)) (first|(go_keep;done)|(refine ⟨?_,?_,?_⟩<;>assumption)) (first
   |(go_at_call 184;refine(St.out _ (by repeat (first|exact Gr.refl _|refine Gr.drew ?_|refine Gr.alloc ?_ _))).mono ?_;rintro e w2 ⟨rfl,G2⟩;have HG2:Hid (Gr w w2):=Gr.trans (by repeat (first|exact Gr.refl _|refine Gr.drew ?_|refine Gr.alloc ?_ _)) G2;have j4:w2.cell? ⟨w.heap.size,4,none⟩=some (.int .u32 n):=(G2.cell _ (by simp)).trans k4;have j46:w2.cell? ⟨g,46,none⟩=some (.int .i64 steps):=(G2.cell _ (by show g<_;simp;omega)).trans (k46 _);have j47:w2.cell? ⟨g,47,none⟩=some (.int .i64 rn):=(G2.cell _ (by show g<_;simp;omega)).trans (k47 _);clear G2))
  go_wp2_with fail;go_ret2;exact⟨rfl,HG2.out⟩
theorem JI (op d a b n:Int)(h1:op=3):Calls prog 170 #[.pointer (some ⟨g,0,none⟩),.agg #[.int .i64 op,.int .i64 d,.int .i64 a,.int .i64 b,.int .u32 n]] w fun e w'=>e=.returned (.tuple #[.int .u32 n,.bool true])/\Gr w w':=by subst h1;go_enter func170,ntmps170;go_wp2_with fail;go_ret2;exact⟨rfl,(Gr.refl _).alloc _⟩
theorem Es (I:Pr w base g r bf bt steps)(o:r.Ok)(op d a b n:Int)(ha:0<=a/\a<36)(hn:Hh.W n)(h1:op=4):Calls prog 170 #[.pointer (some ⟨g,0,none⟩),.agg #[.int .i64 op,.int .i64 d,.int .i64 a,.int .i64 b,.int .u32 n]] w fun e w'=>e=.returned (.tuple #[.int .u32 (Wd.lo (r.get a+n)-Wd.lo (r.get a+n)%2),.bool true])/\Gr w w':=by
 subst h1;have V:Hid (∀W:World,Gr w W->_):=fun W q=>fo (I.of q) o a ha.1 ha.2
 have wl:=W.lo (r.get a+n);generalize r.get a=X at *
 go_enter func170,ntmps170;go_wp2_with fail;go_quiet (refine auu (V.out _ (by repeat (first|exact Gr.refl _|refine Gr.drewN ?_ _|refine Gr.drew ?_|refine Gr.alloc ?_ _))));go_wp2_with fail;go_ret2;refine⟨adK ?_ rfl,((Gr.refl _).alloc _).drewN _⟩;exact Fw _ wl.1 wl.2
theorem JJ {w:World}{base g:Nat}{r:Rn}{bf bt steps:Int}(I:Pr w base g r bf bt steps)(o:r.Ok)(op d a b n:Int)(ha:0<=a/\a<36)(hb:0<=b/\b<36)(h1:¬op=1)(h3:¬op=3)(h4:¬op=4)(ho0:0<=op)(ho1:op<1000):Calls prog 170 #[.pointer (some ⟨g,0,none⟩),.agg #[.int .i64 op,.int .i64 d,.int .i64 a,.int .i64 b,.int .u32 n]] w fun e w'=>e=.returned (.tuple #[.int .u32 n,.bool (Wd.holds (op-100) (r.get a) (r.get b))])/\Gr w w':=by
 have b1:(op ==1)=false:=by simp[h1]
 have b3:(op ==3)=false:=by simp[h3]
 have b4:(op ==4)=false:=by simp[h4]
 have wa:=o.get a;have wb:=o.get b;have V:Hid (∀k,0<=k->k<36->∀W:World,Gr w W->Calls prog 185 #[.pointer (some ⟨g,0,none⟩),.int .i64 k] W fun e w'=>e=.returned (.int .u32 (r.get k))/\w'=W):=fun k h0 h1 W q=>fo (I.of q) o k h0 h1
 have Va:Hid (∀W:World,Gr w W->Calls prog 185 #[.pointer (some ⟨g,0,none⟩),.int .i64 a] W fun e w'=>e=.returned (.int .u32 (r.get a))/\w'=W):=V.out a ha.1 ha.2;have Vb:Hid (∀W:World,Gr w W->Calls prog 185 #[.pointer (some ⟨g,0,none⟩),.int .i64 b] W fun e w'=>e=.returned (.int .u32 (r.get b))/\w'=W):=V.out b hb.1 hb.2;have Ho:Hid (∀W:World,_):=fun W=>Ww.wz (op-100) _ _ W wa.1 wa.2 wb.1 wb.2
 generalize Wd.holds (op-100) (r.get a) (r.get b)=Q at *
 generalize r.get a=X at *
 generalize r.get b=Y at *
 go_enter func170,ntmps170;go_wp2_with fail;refine auB (by kernel_rfl) (by kernel_rfl) ?_;iterate 8 go_big_quiet_step (fail)
 go_big_quiet_step (exact auu (Va.out _ (by repeat (first|exact Gr.refl _|refine Gr.drewN ?_ _|refine Gr.drew ?_|refine Gr.alloc ?_ _))));iterate 3 go_big_quiet_step (fail)
 go_big_quiet_step (exact auu (Vb.out _ (by repeat (first|exact Gr.refl _|refine Gr.drewN ?_ _|refine Gr.drew ?_|refine Gr.alloc ?_ _))));go_big_quiet_step (exact auu (Ho.out _));go_big_quiet_step (fail);go_big_quiet_step (fail);refine auO ?_;intro _ hw1;obtain⟨nq,hw2⟩:=hw1;subst hw2;go_wp2_with fail;go_ret2;exact⟨rfl,((Gr.refl _).alloc _).drewN _⟩
theorem Ez (I:Pr w base g r bf bt steps)(o:r.Ok)(hs:r.av.length<=1000000){i:Mv}(hi:0<=named i.op)(ha:0<=i.a/\i.a<36)(hb:0<=i.b/\i.b<36)(hn:Hh.W i.n):Calls prog 170 #[.pointer (some ⟨g,0,none⟩),.agg (sO i)] w fun e w'=>e=.returned (.tuple #[.int .u32 (FI r i),.bool (vo bf bt steps r i)])/\Gr w w':=by
 have hop:0<=i.op/\i.op<1000:=by
  rcases jF hi with q|q|q|q|q|q|q|q|q|q|q|q<;>omega
 obtain⟨op,d,a,b,n⟩:=i;unfold FI vo sO;simp only at *
 by_cases h1:op=1
 ·rw[ak,at7 h1];exact JH I o hs op d a b n h1
 by_cases h3:op=3
 ·rw[ak,at6 h1,at7 h3];exact JI op d a b n h3
 by_cases h4:op=4
 ·rw[at7 h4,at6 h1,at6 h3,at7 h4];exact Es I o op d a b n ha hn h4
 ·rw[at6 h4,at6 h1,at6 h3,at6 h4];exact JJ I o op d a b n ha hb h1 h3 h4 hop.1 hop.2
end Mp
namespace Mp
open Mm Hh Hc Mi

theorem Uj {w:World}{base g:Nat}{r:Rn}{bf bt steps:Int}(I:Pr w base g r bf bt steps)(o:r.Ok)(T:Gc.Ts w base)(hl:r.m.length<=140737488351232)(hss:r.av.length<=1000000){op d a b n:Int}(ha:0<=a/\a<36)(hb:0<=b/\b<36)(hn:Hh.W n)(hc:op=2):Calls prog 186 #[.pointer (some ⟨g,0,none⟩),.agg (sO ⟨op,d,a,b,n⟩)] w fun e w'=>e=.returned (bQ (fK r ⟨op,d,a,b,n⟩).res)/\Pr w' base g (r.ev (fK r ⟨op,d,a,b,n⟩)) bf bt steps/\Gc.Fr 206 base w w':=by
 have e0:fK r ⟨op,d,a,b,n⟩=⟨r.h,r.m,[],[],some n⟩:=by unfold fK;rw[at7 (by simp only;omega)]
 rw[e0];have V:Hid (∀k,0<=k->k<36->∀W:World,Gr w W->Calls prog 185 #[.pointer (some ⟨g,0,none⟩),.int .i64 k] W fun e w'=>e=.returned (.int .u32 (r.get k))/\w'=W):=fun k h0 h1 W q=>fo (I.of q) o k h0 h1
 have wa:=o.get a;have wb:=o.get b;have HI:Hid (Pr w base g r bf bt steps):=I;have oJ:Hid (∀x nq,Gr w ((w.alloc x).drewN nq)):=fun x nq=>((Gr.refl _).alloc _).drewN _
 subst hc;rw[jJ];unfold bQ sO;simp only[];go_enter func186,ntmps186;go_wp2_with fail;refine auB (by kernel_rfl) (by kernel_rfl) ?_;iterate 3 go_big_quiet_step (fail)
 go_big_quiet_step (exact auu (V.out a ha.1 ha.2 _ (by repeat (first|exact Gr.refl _|refine Gr.drewN ?_ _|refine Gr.drew ?_|refine Gr.alloc ?_ _))));iterate 3 go_big_quiet_step (fail)
 go_big_quiet_step (exact auu (V.out b hb.1 hb.2 _ (by repeat (first|exact Gr.refl _|refine Gr.drewN ?_ _|refine Gr.drew ?_|refine Gr.alloc ?_ _))));go_big_quiet_step (fail);go_big_quiet_step (fail);refine auO ?_;intro _ hw1;obtain⟨nq,hw2⟩:=hw1;subst hw2;generalize r.get a=X at *
 generalize r.get b=Y at *
 go_wp2_with fail;go_ret2;exact⟨rfl,HI.out.of (oJ.out _ _),Gc.Fr.bD (oJ.out _ _) HI.out.ay⟩
theorem ZQ {w:World}{base g:Nat}{r:Rn}{bf bt steps:Int}(I:Pr w base g r bf bt steps)(o:r.Ok)(T:Gc.Ts w base)(hl:r.m.length<=140737488351232)(hss:r.av.length<=1000000){op d a b n:Int}(ha:0<=a/\a<36)(hb:0<=b/\b<36)(hn:Hh.W n)(hc:105<=op/\op<=110):Calls prog 186 #[.pointer (some ⟨g,0,none⟩),.agg (sO ⟨op,d,a,b,n⟩)] w fun e w'=>e=.returned (bQ (fK r ⟨op,d,a,b,n⟩).res)/\Pr w' base g (r.ev (fK r ⟨op,d,a,b,n⟩)) bf bt steps/\Gc.Fr 206 base w w':=by
 have e0:fK r ⟨op,d,a,b,n⟩=⟨r.h,r.m,[],[],none⟩:=by unfold fK;rw[at6 (by simp only;omega),at6 (by simp only;omega),at6 (by simp only;omega),at6 (by simp only;omega),at6 (by simp only;omega),at6 (by simp only;omega)]
 rw[e0];have V:Hid (∀k,0<=k->k<36->∀W:World,Gr w W->Calls prog 185 #[.pointer (some ⟨g,0,none⟩),.int .i64 k] W fun e w'=>e=.returned (.int .u32 (r.get k))/\w'=W):=fun k h0 h1 W q=>fo (I.of q) o k h0 h1
 have wa:=o.get a;have wb:=o.get b;have HI:Hid (Pr w base g r bf bt steps):=I;have oJ:Hid (∀x nq,Gr w ((w.alloc x).drewN nq)):=fun x nq=>((Gr.refl _).alloc _).drewN _
 rw[jJ];have b2:(op ==2)=false:=by simp;omega
 have qg:Hid (∀W:World,Calls prog 113 #[.int .i64 op,.int .i64 211,.int .i64 215] W fun e w'=>e=.returned (.bool false)/\w'=W):=fun W=>by
  have:=aG op 211 215 W;rwa[auh (by omega)]at this
 have za:Hid (∀W:World,Calls prog 113 #[.int .i64 op,.int .i64 316,.int .i64 318] W fun e w'=>e=.returned (.bool false)/\w'=W):=fun W=>by
  have:=aG op 316 318 W;rwa[auh (by omega)]at this
 have EA:Hid (∀W:World,Calls prog 113 #[.int .i64 op,.int .i64 428,.int .i64 445] W fun e w'=>e=.returned (.bool false)/\w'=W):=fun W=>by
  have:=aG op 428 445 W;rwa[auh (by omega)]at this
 have Oh:Hid (∀W:World,Calls prog 113 #[.int .i64 op,.int .i64 528,.int .i64 545] W fun e w'=>e=.returned (.bool false)/\w'=W):=fun W=>by
  have:=aG op 528 545 W;rwa[auh (by omega)]at this
 have ZR:Hid (∀W:World,Calls prog 113 #[.int .i64 op,.int .i64 646,.int .i64 656] W fun e w'=>e=.returned (.bool false)/\w'=W):=fun W=>by
  have:=aG op 646 656 W;rwa[auh (by omega)]at this
 unfold bQ sO;simp only[];go_enter func186,ntmps186;go_wp2_with fail;refine auB (by kernel_rfl) (by kernel_rfl) ?_;iterate 3 go_big_quiet_step (fail)
 go_big_quiet_step (exact auu (V.out a ha.1 ha.2 _ (by repeat (first|exact Gr.refl _|refine Gr.drewN ?_ _|refine Gr.drew ?_|refine Gr.alloc ?_ _))));iterate 3 go_big_quiet_step (fail)
 go_big_quiet_step (exact auu (V.out b hb.1 hb.2 _ (by repeat (first|exact Gr.refl _|refine Gr.drewN ?_ _|refine Gr.drew ?_|refine Gr.alloc ?_ _))));go_big_quiet_step (fail);go_big_quiet_step (fail);refine auO ?_;intro _ hw1;obtain⟨nq,hw2⟩:=hw1;subst hw2;generalize r.get a=X at *
 generalize r.get b=Y at *
 go_wp2_with fail;refine(qg.out _).mono ?_;rintro e w' ⟨rfl,rfl⟩;go_wp2_with fail;refine(za.out _).mono ?_;rintro e w' ⟨rfl,rfl⟩;go_wp2_with fail;refine(EA.out _).mono ?_;rintro e w' ⟨rfl,rfl⟩;go_wp2_with fail;refine(Oh.out _).mono ?_;rintro e w' ⟨rfl,rfl⟩;go_wp2_with fail;refine(ZR.out _).mono ?_;rintro e w' ⟨rfl,rfl⟩;go_wp2_with fail;go_ret2;exact⟨rfl,HI.out.of (oJ.out _ _),Gc.Fr.bD (oJ.out _ _) HI.out.ay⟩
theorem yE {w:World}{base g:Nat}{r:Rn}{bf bt steps:Int}(I:Pr w base g r bf bt steps)(o:r.Ok)(T:Gc.Ts w base)(hl:r.m.length<=140737488351232)(hss:r.av.length<=1000000){op d a b n:Int}(ha:0<=a/\a<36)(hb:0<=b/\b<36)(hn:Hh.W n)(hc:428<=op/\op<=445):Calls prog 186 #[.pointer (some ⟨g,0,none⟩),.agg (sO ⟨op,d,a,b,n⟩)] w fun e w'=>e=.returned (bQ (fK r ⟨op,d,a,b,n⟩).res)/\Pr w' base g (r.ev (fK r ⟨op,d,a,b,n⟩)) bf bt steps/\Gc.Fr 206 base w w':=by
 have e0:fK r ⟨op,d,a,b,n⟩=⟨r.h,r.m,[],[],some (Wd.eT (op-400) (r.get a) (r.get b))⟩:=by unfold fK;rw[at6 (by simp only;omega),at6 (by simp only;omega),at6 (by simp only;omega),at7 (by simp only;omega)]
 rw[e0];have V:Hid (∀k,0<=k->k<36->∀W:World,Gr w W->Calls prog 185 #[.pointer (some ⟨g,0,none⟩),.int .i64 k] W fun e w'=>e=.returned (.int .u32 (r.get k))/\w'=W):=fun k h0 h1 W q=>fo (I.of q) o k h0 h1
 have wa:=o.get a;have wb:=o.get b;have HI:Hid (Pr w base g r bf bt steps):=I;have oJ:Hid (∀x nq,Gr w ((w.alloc x).drewN nq)):=fun x nq=>((Gr.refl _).alloc _).drewN _
 rw[jJ];have b2:(op ==2)=false:=by simp;omega
 have qg:Hid (∀W:World,Calls prog 113 #[.int .i64 op,.int .i64 211,.int .i64 215] W fun e w'=>e=.returned (.bool false)/\w'=W):=fun W=>by
  have:=aG op 211 215 W;rwa[auh (by omega)]at this
 have za:Hid (∀W:World,Calls prog 113 #[.int .i64 op,.int .i64 316,.int .i64 318] W fun e w'=>e=.returned (.bool false)/\w'=W):=fun W=>by
  have:=aG op 316 318 W;rwa[auh (by omega)]at this
 have EA:Hid (∀W:World,Calls prog 113 #[.int .i64 op,.int .i64 428,.int .i64 445] W fun e w'=>e=.returned (.bool true)/\w'=W):=fun W=>by
  have:=aG op 428 445 W;rwa[auq (by omega)]at this
 have A:Hid (∀W:World,_):=fun W=>Ww.jE (op-400) _ _ W wa.1 wa.2 wb.1 wb.2
 generalize Wd.eT (op-400) (r.get a) (r.get b)=Z at *
 have hop:∃q,op=400+q:=⟨op-400,by omega⟩;unfold bQ sO;simp only[];go_enter func186,ntmps186;go_wp2_with fail;refine auB (by kernel_rfl) (by kernel_rfl) ?_;iterate 3 go_big_quiet_step (fail)
 go_big_quiet_step (exact auu (V.out a ha.1 ha.2 _ (by repeat (first|exact Gr.refl _|refine Gr.drewN ?_ _|refine Gr.drew ?_|refine Gr.alloc ?_ _))));iterate 3 go_big_quiet_step (fail)
 go_big_quiet_step (exact auu (V.out b hb.1 hb.2 _ (by repeat (first|exact Gr.refl _|refine Gr.drewN ?_ _|refine Gr.drew ?_|refine Gr.alloc ?_ _))));go_big_quiet_step (fail);go_big_quiet_step (fail);refine auO ?_;intro _ hw1;obtain⟨nq,hw2⟩:=hw1;subst hw2;generalize r.get a=X at *
 generalize r.get b=Y at *
 go_wp2_with fail;refine(qg.out _).mono ?_;rintro e w' ⟨rfl,rfl⟩;go_wp2_with fail;refine(za.out _).mono ?_;rintro e w' ⟨rfl,rfl⟩;go_wp2_with fail;refine(EA.out _).mono ?_;rintro e w' ⟨rfl,rfl⟩;go_wp2_with fail;refine(A.out _).mono ?_;rintro e w' ⟨rfl,rfl⟩;go_wp2_with fail;go_ret2;exact⟨rfl,HI.out.of (oJ.out _ _),Gc.Fr.bD (oJ.out _ _) HI.out.ay⟩
theorem Uk {w:World}{base g:Nat}{r:Rn}{bf bt steps:Int}(I:Pr w base g r bf bt steps)(o:r.Ok)(T:Gc.Ts w base)(hl:r.m.length<=140737488351232)(hss:r.av.length<=1000000){op d a b n:Int}(ha:0<=a/\a<36)(hb:0<=b/\b<36)(hn:Hh.W n)(hc:528<=op/\op<=545):Calls prog 186 #[.pointer (some ⟨g,0,none⟩),.agg (sO ⟨op,d,a,b,n⟩)] w fun e w'=>e=.returned (bQ (fK r ⟨op,d,a,b,n⟩).res)/\Pr w' base g (r.ev (fK r ⟨op,d,a,b,n⟩)) bf bt steps/\Gc.Fr 206 base w w':=by
 have e0:fK r ⟨op,d,a,b,n⟩=⟨r.h,r.m,[],[],some (Wd.eT (op-500) (r.get a) n)⟩:=by unfold fK;rw[at6 (by simp only;omega),at6 (by simp only;omega),at6 (by simp only;omega),at6 (by simp only;omega),at7 (by simp only;omega)]
 rw[e0];have V:Hid (∀k,0<=k->k<36->∀W:World,Gr w W->Calls prog 185 #[.pointer (some ⟨g,0,none⟩),.int .i64 k] W fun e w'=>e=.returned (.int .u32 (r.get k))/\w'=W):=fun k h0 h1 W q=>fo (I.of q) o k h0 h1
 have wa:=o.get a;have wb:=o.get b;have HI:Hid (Pr w base g r bf bt steps):=I;have oJ:Hid (∀x nq,Gr w ((w.alloc x).drewN nq)):=fun x nq=>((Gr.refl _).alloc _).drewN _
 rw[jJ];have b2:(op ==2)=false:=by simp;omega
 have qg:Hid (∀W:World,Calls prog 113 #[.int .i64 op,.int .i64 211,.int .i64 215] W fun e w'=>e=.returned (.bool false)/\w'=W):=fun W=>by
  have:=aG op 211 215 W;rwa[auh (by omega)]at this
 have za:Hid (∀W:World,Calls prog 113 #[.int .i64 op,.int .i64 316,.int .i64 318] W fun e w'=>e=.returned (.bool false)/\w'=W):=fun W=>by
  have:=aG op 316 318 W;rwa[auh (by omega)]at this
 have EA:Hid (∀W:World,Calls prog 113 #[.int .i64 op,.int .i64 428,.int .i64 445] W fun e w'=>e=.returned (.bool false)/\w'=W):=fun W=>by
  have:=aG op 428 445 W;rwa[auh (by omega)]at this
 have Oh:Hid (∀W:World,Calls prog 113 #[.int .i64 op,.int .i64 528,.int .i64 545] W fun e w'=>e=.returned (.bool true)/\w'=W):=fun W=>by
  have:=aG op 528 545 W;rwa[auq (by omega)]at this
 have A:Hid (∀W:World,_):=fun W=>Ww.jE (op-500) _ _ W wa.1 wa.2 hn.1 hn.2
 generalize Wd.eT (op-500) (r.get a) n=Z at *
 have hop:∃q,op=500+q:=⟨op-500,by omega⟩;unfold bQ sO;simp only[];go_enter func186,ntmps186;go_wp2_with fail;refine auB (by kernel_rfl) (by kernel_rfl) ?_;iterate 3 go_big_quiet_step (fail)
 go_big_quiet_step (exact auu (V.out a ha.1 ha.2 _ (by repeat (first|exact Gr.refl _|refine Gr.drewN ?_ _|refine Gr.drew ?_|refine Gr.alloc ?_ _))));iterate 3 go_big_quiet_step (fail)
 go_big_quiet_step (exact auu (V.out b hb.1 hb.2 _ (by repeat (first|exact Gr.refl _|refine Gr.drewN ?_ _|refine Gr.drew ?_|refine Gr.alloc ?_ _))));go_big_quiet_step (fail);go_big_quiet_step (fail);refine auO ?_;intro _ hw1;obtain⟨nq,hw2⟩:=hw1;subst hw2;generalize r.get a=X at *
 generalize r.get b=Y at *
 go_wp2_with fail;refine(qg.out _).mono ?_;rintro e w' ⟨rfl,rfl⟩;go_wp2_with fail;refine(za.out _).mono ?_;rintro e w' ⟨rfl,rfl⟩;go_wp2_with fail;refine(EA.out _).mono ?_;rintro e w' ⟨rfl,rfl⟩;go_wp2_with fail;refine(Oh.out _).mono ?_;rintro e w' ⟨rfl,rfl⟩;go_wp2_with fail;refine(A.out _).mono ?_;rintro e w' ⟨rfl,rfl⟩;go_wp2_with fail;go_ret2;exact⟨rfl,HI.out.of (oJ.out _ _),Gc.Fr.bD (oJ.out _ _) HI.out.ay⟩
end Mp
namespace Mp
open Mm Hh Hc Mi

theorem ZT {w:World}{base g:Nat}{r:Rn}{bf bt steps:Int}(I:Pr w base g r bf bt steps)(o:r.Ok)(T:Gc.Ts w base)(hl:r.m.length<=140737488351232)(hss:r.av.length<=1000000){op d a b n:Int}(ha:0<=a/\a<36)(hb:0<=b/\b<36)(hn:Hh.W n)(hc:211<=op/\op<=215):Calls prog 186 #[.pointer (some ⟨g,0,none⟩),.agg (sO ⟨op,d,a,b,n⟩)] w fun e w'=>e=.returned (bQ (fK r ⟨op,d,a,b,n⟩).res)/\Pr w' base g (r.ev (fK r ⟨op,d,a,b,n⟩)) bf bt steps/\Gc.Fr 206 base w w':=by
 have e0:fK r ⟨op,d,a,b,n⟩=bF r.h r.m (op-200) (Wd.lo (r.get a+n)):=by unfold fK;rw[at6 (by simp only;omega),at7 (by simp only;omega)]
 rw[e0];have V:Hid (∀k,0<=k->k<36->∀W:World,Gr w W->Calls prog 185 #[.pointer (some ⟨g,0,none⟩),.int .i64 k] W fun e w'=>e=.returned (.int .u32 (r.get k))/\w'=W):=fun k h0 h1 W q=>fo (I.of q) o k h0 h1
 have wa:=o.get a;have wb:=o.get b;have HI:Hid (Pr w base g r bf bt steps):=I;have oJ:Hid (∀x nq,Gr w ((w.alloc x).drewN nq)):=fun x nq=>((Gr.refl _).alloc _).drewN _
 have b2:(op ==2)=false:=by simp;omega
 have qg:Hid (∀W:World,Calls prog 113 #[.int .i64 op,.int .i64 211,.int .i64 215] W fun e w'=>e=.returned (.bool true)/\w'=W):=fun W=>by
  have:=aG op 211 215 W;rwa[auq (by omega)]at this
 have wl:=W.lo (r.get a+n);have hw:IntKind.i64.wrap (op-200)=op-200:=by rw[auQ];omega
 have L:Hid (∀W:World,Gr w W->Calls prog 177 #[.pointer (some ⟨g,0,none⟩),.int .i64 (IntKind.i64.wrap (op-200)),.int .u32 (IntKind.u32.wrap (r.get a+n))] W fun e w'=>e=.returned (bQ (bF r.h r.m (op-200) (Wd.lo (r.get a+n))).res)/\Pr w' base g (r.ev (bF r.h r.m (op-200) (Wd.lo (r.get a+n)))) bf bt steps/\Gc.Fr 206 base W w'):=fun W q=>by
  rw[hw];have J:=I.of q;refine(Gc.dY J hl (op-200) _ wl.1 wl.2).mono ?_;rintro e w' ⟨rfl,J2,C2⟩;refine⟨?_,?_,Gc.In.below J C2⟩
  ·unfold bF bQ;split
   ·rename_i h;rw[h];rfl
   ·rename_i h;have h2:bM r.m (op-200) (Wd.lo (r.get a+n))=false:=by simpa using h
    unfold aN;rw[h2];rfl
  ·unfold bF;split
   ·rename_i h;rw[at7 h]at J2;rw[jJ];exact J2
   ·rename_i h;rw[at6 h]at J2;have e:r.ev ⟨r.h.trap 3,r.m,[],[],none⟩={ r with h:=r.h.trap 3 }:=by simp[Rn.ev]
    rw[e];exact J2
 generalize bF r.h r.m (op-200) (Wd.lo (r.get a+n))=E at *
 clear I o T e0 wa wb wl hw;unfold bQ at *
 unfold sO;simp only[];go_enter func186,ntmps186;go_wp2_with fail;refine auB (by kernel_rfl) (by kernel_rfl) ?_;iterate 3 go_big_quiet_step (fail)
 go_big_quiet_step (exact auu (V.out a ha.1 ha.2 _ (by repeat (first|exact Gr.refl _|refine Gr.drewN ?_ _|refine Gr.drew ?_|refine Gr.alloc ?_ _))));iterate 3 go_big_quiet_step (fail)
 go_big_quiet_step (exact auu (V.out b hb.1 hb.2 _ (by repeat (first|exact Gr.refl _|refine Gr.drewN ?_ _|refine Gr.drew ?_|refine Gr.alloc ?_ _))));go_big_quiet_step (fail);go_big_quiet_step (fail);refine auO ?_;intro _ hw1;obtain⟨nq,hw2⟩:=hw1;subst hw2;clear V;generalize r.get a=X at *
 generalize r.get b=Y at *
 go_wp2_with fail;refine(qg.out _).mono ?_;rintro e w' ⟨rfl,rfl⟩;clear qg;go_wp2_with fail;have CL:Hid (((w.alloc (.cells #[.int .i64 op,.int .i64 d,.int .i64 a,.int .i64 b,.int .u32 n] 235)).drewN nq).heap[w.heap.size]?=some (.cells #[.int .i64 op,.int .i64 d,.int .i64 a,.int .i64 b,.int .u32 n] 235 (0,0))):=at5 w _;have k0:((w.alloc (.cells #[.int .i64 op,.int .i64 d,.int .i64 a,.int .i64 b,.int .u32 n] 235)).drewN nq).cell? ⟨w.heap.size,0,none⟩=some (.int .i64 op):=atZ _ _ _ _ _ _ CL.out;have k4:((w.alloc (.cells #[.int .i64 op,.int .i64 d,.int .i64 a,.int .i64 b,.int .u32 n] 235)).drewN nq).cell? ⟨w.heap.size,4,none⟩=some (.int .u32 n):=atZ _ _ _ _ _ _ CL.out;go_region_with ((go_at_call 177;refine(L.out _ (by repeat (first|exact Gr.refl _|refine Gr.drewN ?_ _|refine Gr.drew ?_|refine Gr.alloc ?_ _))).mono ?_;rintro e w2 ⟨rfl,J2,F2⟩;have HJ:Hid (Pr w2 base g (r.ev E) bf bt steps):=J2;have HF:Hid (Gc.Fr 206 base w w2):=(Gc.Fr.bD (by repeat (first|exact Gr.refl _|refine Gr.drewN ?_ _|refine Gr.drew ?_|refine Gr.alloc ?_ _)) HI.out.ay).trans F2;have HB2:Hid (w2.heap[w.heap.size]?=some (.cells #[.int .i64 op,.int .i64 d,.int .i64 a,.int .i64 b,.int .u32 n] 235 (0,0))):=(F2.keep _ _ _ _ CL.out (by decide) (by decide) (by decide)).trans CL.out;have j0:w2.cell? ⟨w.heap.size,0,none⟩=some (.int .i64 op):=atZ _ _ _ _ _ _ HB2.out;have j4:w2.cell? ⟨w.heap.size,4,none⟩=some (.int .u32 n):=atZ _ _ _ _ _ _ HB2.out;clear J2 F2))
 all_goals
  go_wp2_with fail;go_ret2;exact⟨rfl,HJ.out,HF.out⟩
end Mp
namespace Mp
open Mm Hh Hc Mi

theorem ZU {w:World}{base g:Nat}{r:Rn}{bf bt steps:Int}(I:Pr w base g r bf bt steps)(o:r.Ok)(T:Gc.Ts w base)(hl:r.m.length<=140737488351232)(hss:r.av.length<=1000000){op d a b n:Int}(ha:0<=a/\a<36)(hb:0<=b/\b<36)(hn:Hh.W n)(hc:316<=op/\op<=318):Calls prog 186 #[.pointer (some ⟨g,0,none⟩),.agg (sO ⟨op,d,a,b,n⟩)] w fun e w'=>e=.returned (bQ (fK r ⟨op,d,a,b,n⟩).res)/\Pr w' base g (r.ev (fK r ⟨op,d,a,b,n⟩)) bf bt steps/\Gc.Fr 206 base w w':=by
 have e0:fK r ⟨op,d,a,b,n⟩=aH r.h r.m (op-300) (Wd.lo (r.get a+n)) (r.get b):=by unfold fK;rw[at6 (by simp only;omega),at6 (by simp only;omega),at7 (by simp only;omega)]
 rw[e0];have V:Hid (∀k,0<=k->k<36->∀W:World,Gr w W->Calls prog 185 #[.pointer (some ⟨g,0,none⟩),.int .i64 k] W fun e w'=>e=.returned (.int .u32 (r.get k))/\w'=W):=fun k h0 h1 W q=>fo (I.of q) o k h0 h1
 have wa:=o.get a;have wb:=o.get b;have HI:Hid (Pr w base g r bf bt steps):=I;have oJ:Hid (∀x nq,Gr w ((w.alloc x).drewN nq)):=fun x nq=>((Gr.refl _).alloc _).drewN _
 have b2:(op ==2)=false:=by simp;omega
 have qg:Hid (∀W:World,Calls prog 113 #[.int .i64 op,.int .i64 211,.int .i64 215] W fun e w'=>e=.returned (.bool false)/\w'=W):=fun W=>by
  have:=aG op 211 215 W;rwa[auh (by omega)]at this
 have za:Hid (∀W:World,Calls prog 113 #[.int .i64 op,.int .i64 316,.int .i64 318] W fun e w'=>e=.returned (.bool true)/\w'=W):=fun W=>by
  have:=aG op 316 318 W;rwa[auq (by omega)]at this
 have wl:=W.lo (r.get a+n);have hres:(aH r.h r.m (op-300) (Wd.lo (r.get a+n)) (r.get b)).res=none:=by unfold aH;split<;>rfl
 have hw:IntKind.i64.wrap (op-300)=op-300:=by rw[auQ];omega
 have L:Hid (∀W:World,Gr w W->Calls prog 178 #[.pointer (some ⟨g,0,none⟩),.int .i64 (IntKind.i64.wrap (op-300)),.int .u32 (IntKind.u32.wrap (r.get a+n)),.int .u32 (r.get b)] W fun e w'=>e=.returned (.tuple #[])/\Pr w' base g (r.ev (aH r.h r.m (op-300) (Wd.lo (r.get a+n)) (r.get b))) bf bt steps/\Gc.Fr 206 base W w'):=fun W q=>by
  rw[hw];have J:=I.of q;refine(Gc.dO J (Gc.nO T (aun q I.ay)) hl hss (op-300) _ _ wl.1 wl.2 wb.1 wb.2).mono ?_;rintro e w' ⟨rfl,J2,C2⟩;refine⟨rfl,?_,C2⟩;have ho:(aH r.h r.m (op-300) (Wd.lo (r.get a+n)) (r.get b)).out=[]:=by unfold aH;split<;>rfl
  unfold Pr Rn.ev;simp only[ho,apz];exact J2
 rw[hres];generalize aH r.h r.m (op-300) (Wd.lo (r.get a+n)) (r.get b)=E at *
 clear I o T e0 wa wb wl hres hw;unfold bQ at *
 unfold sO;simp only[];go_enter func186,ntmps186;go_wp2_with fail;refine auB (by kernel_rfl) (by kernel_rfl) ?_;iterate 3 go_big_quiet_step (fail)
 go_big_quiet_step (exact auu (V.out a ha.1 ha.2 _ (by repeat (first|exact Gr.refl _|refine Gr.drewN ?_ _|refine Gr.drew ?_|refine Gr.alloc ?_ _))));iterate 3 go_big_quiet_step (fail)
 go_big_quiet_step (exact auu (V.out b hb.1 hb.2 _ (by repeat (first|exact Gr.refl _|refine Gr.drewN ?_ _|refine Gr.drew ?_|refine Gr.alloc ?_ _))));go_big_quiet_step (fail);go_big_quiet_step (fail);refine auO ?_;intro _ hw1;obtain⟨nq,hw2⟩:=hw1;subst hw2;clear V;generalize r.get a=X at *
 generalize r.get b=Y at *
 go_wp2_with fail;refine(qg.out _).mono ?_;rintro e w' ⟨rfl,rfl⟩;clear qg;go_wp2_with fail;refine(za.out _).mono ?_;rintro e w' ⟨rfl,rfl⟩;go_wp2_with fail;have CL:Hid (((w.alloc (.cells #[.int .i64 op,.int .i64 d,.int .i64 a,.int .i64 b,.int .u32 n] 235)).drewN nq).heap[w.heap.size]?=some (.cells #[.int .i64 op,.int .i64 d,.int .i64 a,.int .i64 b,.int .u32 n] 235 (0,0))):=at5 w _;have k0:((w.alloc (.cells #[.int .i64 op,.int .i64 d,.int .i64 a,.int .i64 b,.int .u32 n] 235)).drewN nq).cell? ⟨w.heap.size,0,none⟩=some (.int .i64 op):=atZ _ _ _ _ _ _ CL.out;have k4:((w.alloc (.cells #[.int .i64 op,.int .i64 d,.int .i64 a,.int .i64 b,.int .u32 n] 235)).drewN nq).cell? ⟨w.heap.size,4,none⟩=some (.int .u32 n):=atZ _ _ _ _ _ _ CL.out;go_region_with ((go_at_call 178;refine(L.out _ (by repeat (first|exact Gr.refl _|refine Gr.drewN ?_ _|refine Gr.drew ?_|refine Gr.alloc ?_ _))).mono ?_;rintro e w2 ⟨rfl,J2,F2⟩;have HJ:Hid (Pr w2 base g (r.ev E) bf bt steps):=J2;have HF:Hid (Gc.Fr 206 base w w2):=(Gc.Fr.bD (by repeat (first|exact Gr.refl _|refine Gr.drewN ?_ _|refine Gr.drew ?_|refine Gr.alloc ?_ _)) HI.out.ay).trans F2;have HB2:Hid (w2.heap[w.heap.size]?=some (.cells #[.int .i64 op,.int .i64 d,.int .i64 a,.int .i64 b,.int .u32 n] 235 (0,0))):=(F2.keep _ _ _ _ CL.out (by decide) (by decide) (by decide)).trans CL.out;have j0:w2.cell? ⟨w.heap.size,0,none⟩=some (.int .i64 op):=atZ _ _ _ _ _ _ HB2.out;have j4:w2.cell? ⟨w.heap.size,4,none⟩=some (.int .u32 n):=atZ _ _ _ _ _ _ HB2.out;clear J2 F2))
 all_goals
  go_wp2_with fail;go_ret2;exact⟨rfl,HJ.out,HF.out⟩
end Mp
end Go.Proofs.YtiadhbmnfjfioaaGreatDoor
