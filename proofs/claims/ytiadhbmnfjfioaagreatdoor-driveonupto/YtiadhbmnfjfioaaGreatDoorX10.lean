/- ours -/
import Derived.Test.YtiadhbmnfjfioaaGreatDoorX09
set_option linter.unusedVariables false
set_option linter.unusedSimpArgs false
set_option maxHeartbeats 8000000
set_option maxRecDepth 100000
set_option linter.unusedSectionVars false
namespace Go.Proofs.YtiadhbmnfjfioaaGreatDoor
open Go.Proofs.Tryz hiding cs d1
open Go.ChangeShapes Go.WideShapes Go.ChangeAt Go.RowKit
variable{cells:Array Value}{x1 x2 x3 ok:Bool}{op b steps a bf bt d:Int}{ss:List (Int×Int)}{ps:List (Nat×Nat)}{rest:List (Nat×Value)}{l:List UInt8}{xs rs:List Value}{j k B base e sz g n i:Nat}{ao:Option Addr}{P:Program}{S v z M O:Value}{w' w:World}{PV:World->Value->Prop}
variable [Inhabited Hc.bN]
namespace Mp
open Mm Hh Hc Mi
variable{K:Int}
def p9:List (Int×Int×Int):=[(1,1,8),(2,2,9),(3,3,8),(4,4,10),(5,6,0),(105,110,14),(211,215,11),(316,318,14),(428,445,7),(528,545,11),(646,656,7)]
def qd:List Int:=p9.flatMap fun p=>[p.1,p.2.1,p.2.2]
structure Tr (w:World):Prop where
 rows:∀i n,qd[i]?=some n->w.cell? ⟨7,i,none⟩=some (.int .i64 n)
 b:7<w.heap.size
theorem Tr.of (T:Tr w)(g:Gr w w'):Tr w':=⟨fun i n h=>(g.cell _ (by exact T.b)).trans (T.rows i n h),apq T.b g.size⟩
theorem ZM (h:j<11):∃f l k,p9[j]?=some (f,l,k)/\qd[j*3]?=some f/\qd[j*3+1]?=some l/\qd[j*3+2]?=some k/\(k=0\/k=7\/k=8\/k=9\/k=10\/k=11\/k=14)/\∀op,f<=op->op<=l->named op=k:=by
 have:j=0\/j=1\/j=2\/j=3\/j=4\/j=5\/j=6\/j=7\/j=8\/j=9\/j=10:=ab;rcases this with rfl|rfl|rfl|rfl|rfl|rfl|rfl|rfl|rfl|rfl|rfl <;>
  refine⟨_,_,_,rfl,rfl,rfl,rfl,an,fun op h1 h2=>?_⟩<;>unfold named<;>repeat (first|rw[dU]|rw[ak])
theorem Er (h:∀(j:Nat) (f l k:Int),p9[j]?=some (f,l,k)->¬(f<=op/\op<=l)):named op<0:=by
 by_cases hn:0<=named op
 ·exfalso;rcases jF hn with q|q|q|q|q|q|q|q|q|q|q|q
  ·exact h 0 _ _ _ rfl ab
  ·exact h 1 _ _ _ rfl ab
  ·exact h 2 _ _ _ rfl ab
  ·exact h 3 _ _ _ rfl ab
  ·exact h 4 _ _ _ rfl ab
  ·exact h 4 _ _ _ rfl ab
  ·exact h 5 _ _ _ rfl ab
  ·exact h 6 _ _ _ rfl ab
  ·exact h 7 _ _ _ rfl ab
  ·exact h 8 _ _ _ rfl ab
  ·exact h 9 _ _ _ rfl ab
  ·exact h 10 _ _ _ rfl ab
 ·omega
theorem aG (n a b:Int)(w:World):Calls prog 113 #[.int .i64 n,.int .i64 a,.int .i64 b] w fun e w'=>e=.returned (.bool (decide (a<=n/\n<=b)))/\w'=w:=by
 by_cases h1:a<=n
 ·by_cases h2:n<=b
  ·rw[auq ⟨h1,h2⟩];go_enter func113,ntmps113;go_wp2;go_ret;exact⟨by simp[h1,h2],rfl⟩
  ·rw[auh (fun q=>h2 q.2)];go_enter func113,ntmps113;go_wp2;go_ret;exact⟨by simp[h1,h2],rfl⟩
 ·rw[auh (fun q=>h1 q.1)];go_enter func113,ntmps113;go_wp2;go_ret;exact⟨by simp[h1],rfl⟩
def kT (k:Int) (i:Mv):Bool:=bR (decide (k%2=1)) i.d && (bR (decide (k/2%2=1)) i.a && (bR (decide (k/4%2=1)) i.b && decide (8<=k\/i.n=0)))
theorem ZN {i:Mv}{k:Int}(h:named i.op=k)(h0:0<=k):dZ i=kT k i:=by unfold dZ kT;rw[h,auq h0,arl];generalize bR (decide (k%2=1)) i.d=a;generalize bR (decide (k/2%2=1)) i.a=b;generalize bR (decide (k/4%2=1)) i.b=c;generalize decide (8<=k\/i.n=0)=d;cases a<;>cases b<;>cases c<;>cases d<;>rfl
def sO (i:Mv):Array Value:=#[.int .i64 i.op,.int .i64 i.d,.int .i64 i.a,.int .i64 i.b,.int .u32 i.n]
theorem sw (kb:w.cell? ⟨B,0,none⟩=some (.int .i64 K))(hz:bits .and .i64 K b=0)(x:Int):Calls prog 183 #[.int .i64 x,.int .i64 b,.pointer (some ⟨B,0,none⟩)] w fun e w'=>e=.returned (.bool (bR false x))/\w'=w:=by
 have HE:Hid (bR false x=(x ==0)):=by
  unfold Hid bR;by_cases h:x=0
  ·subst h;rfl
  ·rw[auh (by simp[h])];simp[h]
 rw[HE.out];go_enter func183,ntmps183;go_wp2_with fail;go_ret;exact⟨rfl,rfl⟩
theorem yZ (kb:w.cell? ⟨B,0,none⟩=some (.int .i64 K))(hz:(bits .and .i64 K b ==0)=false)(x:Int):Calls prog 183 #[.int .i64 x,.int .i64 b,.pointer (some ⟨B,0,none⟩)] w fun e w'=>e=.returned (.bool (bR true x))/\w'=w:=by
 have HE:Hid (bR true x=decide (0<=x/\x<=35)):=by
  unfold Hid bR;rw[decide_eq_decide];simp only[true_or,au7];omega
 rw[HE.out];have Wi:=kH (aG x 0 35 w);generalize decide (0<=x/\x<=35)=q at *
 go_enter func183,ntmps183;go_wp2_with fail;refine Wi.mono ?_;rintro e w' ⟨rfl,rfl⟩;go_wp2_with fail;go_ret;exact⟨rfl,rfl⟩
theorem Gl (op d a b n:Int)(w:World)(h8:bits .and .i64 K 8=0)(C1:∀(W:World) (B:Nat),W.cell? ⟨B,0,none⟩=some (.int .i64 K)→Calls prog 183 #[.int .i64 d,.int .i64 1,.pointer (some ⟨B,0,none⟩)] W fun e w'=>e=.returned (.bool x1)∧w'=W)(C2:∀(W:World) (B:Nat),W.cell? ⟨B,0,none⟩=some (.int .i64 K)->Calls prog 183 #[.int .i64 a,.int .i64 2,.pointer (some ⟨B,0,none⟩)] W fun e w'=>e=.returned (.bool x2)/\w'=W)(C3:∀(W:World) (B:Nat),W.cell? ⟨B,0,none⟩=some (.int .i64 K)->Calls prog 183 #[.int .i64 b,.int .i64 4,.pointer (some ⟨B,0,none⟩)] W fun e w'=>e=.returned (.bool x3)/\w'=W):Calls prog 169 #[.agg #[.int .i64 op,.int .i64 d,.int .i64 a,.int .i64 b,.int .u32 n],.int .i64 K] w fun e w'=>e=.returned (.bool (x1 && (x2 && (x3 && (n ==0)))))/\Gr w w':=by
 have H1:Hid (∀(W:World) (B:Nat),W.cell? ⟨B,0,none⟩=some (.int .i64 K)->Calls prog 183 #[.int .i64 d,.int .i64 1,.pointer (some ⟨B,0,none⟩)] W fun e w'=>e=.returned (.bool x1)/\w'=W):=C1;have H2:=kH C2;have H3:=kH C3;have HK:Hid (((w.alloc (.cells #[.int .i64 op,.int .i64 d,.int .i64 a,.int .i64 b,.int .u32 n] 235)).alloc (.cells #[.int .i64 K] 3)).cell? ⟨w.heap.size+1,0,none⟩=some (.int .i64 K)):=atZ _ _ _ _ _ _ (au8 w _ _);cases x1
 ·go_enter func169,ntmps169;go_wp2_with fail;refine(H1 _ _ HK).mono ?_;rintro e w' ⟨rfl,rfl⟩;go_wp2_with fail;go_ret;exact⟨rfl,br.alloc _⟩
 cases x2
 ·go_enter func169,ntmps169;go_wp2_with fail;refine(H1 _ _ HK).mono ?_;rintro e w' ⟨rfl,rfl⟩;go_wp2_with fail;refine(H2 _ _ HK).mono ?_;rintro e w' ⟨rfl,rfl⟩;go_wp2_with fail;go_ret;exact⟨rfl,br.alloc _⟩
 cases x3
 all_goals
  go_enter func169,ntmps169;go_wp2_with fail;refine(H1 _ _ HK).mono ?_;rintro e w' ⟨rfl,rfl⟩;go_wp2_with fail;refine(H2 _ _ HK).mono ?_;rintro e w' ⟨rfl,rfl⟩;go_wp2_with fail;refine(H3 _ _ HK).mono ?_;rintro e w' ⟨rfl,rfl⟩;go_wp2_with fail;go_ret;exact⟨aq,br.alloc _⟩
theorem qf (op d a b n:Int)(w:World)(h8:(bits .and .i64 K 8 != 0)=true)(C1:∀(W:World) (B:Nat),W.cell? ⟨B,0,none⟩=some (.int .i64 K)→Calls prog 183 #[.int .i64 d,.int .i64 1,.pointer (some ⟨B,0,none⟩)] W fun e w'=>e=.returned (.bool x1)∧w'=W)(C2:∀(W:World) (B:Nat),W.cell? ⟨B,0,none⟩=some (.int .i64 K)->Calls prog 183 #[.int .i64 a,.int .i64 2,.pointer (some ⟨B,0,none⟩)] W fun e w'=>e=.returned (.bool x2)/\w'=W)(C3:∀(W:World) (B:Nat),W.cell? ⟨B,0,none⟩=some (.int .i64 K)->Calls prog 183 #[.int .i64 b,.int .i64 4,.pointer (some ⟨B,0,none⟩)] W fun e w'=>e=.returned (.bool x3)/\w'=W):Calls prog 169 #[.agg #[.int .i64 op,.int .i64 d,.int .i64 a,.int .i64 b,.int .u32 n],.int .i64 K] w fun e w'=>e=.returned (.bool (x1 && (x2 && (x3 && true))))/\Gr w w':=by
 have H1:Hid (∀(W:World) (B:Nat),W.cell? ⟨B,0,none⟩=some (.int .i64 K)->Calls prog 183 #[.int .i64 d,.int .i64 1,.pointer (some ⟨B,0,none⟩)] W fun e w'=>e=.returned (.bool x1)/\w'=W):=C1;have H2:=kH C2;have H3:=kH C3;have HK:Hid (((w.alloc (.cells #[.int .i64 op,.int .i64 d,.int .i64 a,.int .i64 b,.int .u32 n] 235)).alloc (.cells #[.int .i64 K] 3)).cell? ⟨w.heap.size+1,0,none⟩=some (.int .i64 K)):=atZ _ _ _ _ _ _ (au8 w _ _);cases x1
 ·go_enter func169,ntmps169;go_wp2_with fail;refine(H1 _ _ HK).mono ?_;rintro e w' ⟨rfl,rfl⟩;go_wp2_with fail;go_ret;exact⟨rfl,br.alloc _⟩
 cases x2
 ·go_enter func169,ntmps169;go_wp2_with fail;refine(H1 _ _ HK).mono ?_;rintro e w' ⟨rfl,rfl⟩;go_wp2_with fail;refine(H2 _ _ HK).mono ?_;rintro e w' ⟨rfl,rfl⟩;go_wp2_with fail;go_ret;exact⟨rfl,br.alloc _⟩
 cases x3
 all_goals
  go_enter func169,ntmps169;go_wp2_with fail;refine(H1 _ _ HK).mono ?_;rintro e w' ⟨rfl,rfl⟩;go_wp2_with fail;refine(H2 _ _ HK).mono ?_;rintro e w' ⟨rfl,rfl⟩;go_wp2_with fail;refine(H3 _ _ HK).mono ?_;rintro e w' ⟨rfl,rfl⟩;go_wp2_with fail;go_ret;exact⟨aq,br.alloc _⟩
theorem Od (hK:K=0\/K=7\/K=8\/K=9\/K=10\/K=11\/K=14)(op d a b n:Int)(w:World):Calls prog 169 #[.agg #[.int .i64 op,.int .i64 d,.int .i64 a,.int .i64 b,.int .u32 n],.int .i64 K] w fun e w'=>e=.returned (.bool (kT K ⟨op,d,a,b,n⟩))/\Gr w w':=by
 rcases hK with rfl|rfl|rfl|rfl|rfl|rfl|rfl
 ·have:=Gl op d a b n w (K:=0) an (fun W B k=>sw k an _) (fun W B k=>sw k an _) (fun W B k=>sw k an _);have e:kT 0 ⟨op,d,a,b,n⟩=(bR false d && (bR false a && (bR false b && (n ==0)))):=by
   unfold kT;by_cases h:n=0<;>simp[h]
  rw[e];exact this
 ·have:=Gl op d a b n w (K:=7) an (fun W B k=>yZ k an _) (fun W B k=>yZ k an _) (fun W B k=>yZ k an _);have e:kT 7 ⟨op,d,a,b,n⟩=(bR true d && (bR true a && (bR true b && (n ==0)))):=by
   unfold kT;by_cases h:n=0<;>simp[h]
  rw[e];exact this
 ·have:=qf op d a b n w (K:=8) an (fun W B k=>sw k an _) (fun W B k=>sw k an _) (fun W B k=>sw k an _);have e:kT 8 ⟨op,d,a,b,n⟩=(bR false d && (bR false a && (bR false b && true))):=by
   unfold kT;simp
  rw[e];exact this
 ·have:=qf op d a b n w (K:=9) an (fun W B k=>yZ k an _) (fun W B k=>sw k an _) (fun W B k=>sw k an _);have e:kT 9 ⟨op,d,a,b,n⟩=(bR true d && (bR false a && (bR false b && true))):=by
   unfold kT;simp
  rw[e];exact this
 ·have:=qf op d a b n w (K:=10) an (fun W B k=>sw k an _) (fun W B k=>yZ k an _) (fun W B k=>sw k an _);have e:kT 10 ⟨op,d,a,b,n⟩=(bR false d && (bR true a && (bR false b && true))):=by
   unfold kT;simp
  rw[e];exact this
 ·have:=qf op d a b n w (K:=11) an (fun W B k=>yZ k an _) (fun W B k=>yZ k an _) (fun W B k=>sw k an _);have e:kT 11 ⟨op,d,a,b,n⟩=(bR true d && (bR true a && (bR false b && true))):=by
   unfold kT;simp
  rw[e];exact this
 ·have:=qf op d a b n w (K:=14) an (fun W B k=>sw k an _) (fun W B k=>yZ k an _) (fun W B k=>yZ k an _);have e:kT 14 ⟨op,d,a,b,n⟩=(bR false d && (bR true a && (bR true b && true))):=by
   unfold kT;simp
  rw[e];exact this
end Mp
namespace Mi
open Mm Hh Hc
end Mi
namespace Mi
open Mm Hh Hc
end Mi
namespace Mi
open Mm Hh Hc
end Mi
namespace Mi
open Mm Hh Hc
end Mi
namespace Mi
open Mm Hh Hc
end Mi
namespace Mi
open Mm Hh Hc
variable{h:Hv}{r:Rn}
def gL (h:Hv) (M O:Value) (n:Int) (S:Value):List Value:=hL h++[M,O,.int .i64 n,S]
def gA (h:Hv) (M O:Value) (n:Int) (S:Value):Array Value:=(gL h M O n S).toArray
theorem ZO (o:h.Ok)(M O:Value)(n:Int)(S:Value):(gL h M O n S).length=41:=by simp[gL,aD o]
theorem Gn (o:h.Ok)(M O:Value)(n:Int)(S:Value):(gA h M O n S).size=41:=by simp[gA,ZO o]
theorem adN:(prog.info? 142).bind (·.zero)=some (.agg (gA h0 ax ax 0 ax)):=al
structure Dr (w:World) (r:Rn) (M O S:Value):Prop where
 ok:r.Ok
 mem:∃ao c,M=.slice ao r.m.length c/\Mem w ao r.m.length r.m
 out:∃b,w.ownsRow b 37 1 O r.out.length (r.out.map (Value.int .u32))
 av:∃b,w.ownsRow b 175 2 S r.av.length (rE r.av)
end Mi
namespace Mi
open Mm Hh Hc
variable{h:Hv}{n:Int}
theorem ZP:∀{i:Nat} {p:Int×Int},ss[i]?=some p->(rE ss)[i*2]?=some (.int .u32 p.1)/\(rE ss)[i*2+1]?=some (.int .u32 (Wd.lo (p.1+p.2))):=by
 induction ss with
 |nil=>intro i p h;simp at h
 |cons q r ih=>
  intro i p h;have e:rE (q::r)=[.int .u32 q.1,.int .u32 (Wd.lo (q.1+q.2))]++rE r:=rfl
  match i,h with
  |0,h=>simp at h;subst h;exact⟨rfl,rfl⟩
  |i+1,h=>
   have ih:=ih (i:=i) (by simpa using h);rw[e,apv aE,apv aE];simp only[apH,ap8];rw[show(i+1)*2-(0+1+1)=i*2 by omega,show(i+1)*2+1-(0+1+1)=i*2+1 by omega];exact ih
theorem Oe (o:h.Ok)(j:Nat):(gA h M O n S)[37+j]?=[M,O,Value.int .i64 n,S][j]?:=by unfold gA gL;rw[apm,apv (by simp[aD o])];simp[aD o]
theorem ZQ {n:Nat}(h:w.ownsRow base e sz v n xs)(hn:0<n):∃g c,v=.slice (some ⟨g,0,none⟩) n c/\g<w.heap.size/\∀j u,xs[j]?=some u->w.cell? ⟨g,j,none⟩=some u:=by obtain⟨g,c,rfl⟩:=dh h hn;refine⟨g,c,rfl,(h.lt g rfl).2,fun j u hu=>?_⟩;have:=h.cells (g:=g) rfl j u hu;rwa[cz,apu]at this
end Mi
namespace Mp
open Mm Hh Hc Mi
variable{sa:Option Addr}{α:Type}
theorem Ui (kb:w.cell? ⟨B,0,none⟩=some (.pointer (some ⟨g,0,none⟩)))(Uj:w.cell? ⟨g,44,none⟩=some (.int .u32 bf))(Xl:w.cell? ⟨g,45,none⟩=some (.int .u32 bt))(x y:Int):Calls prog 201 #[.agg #[.int .u32 x,.int .u32 y],.pointer (some ⟨B,0,none⟩)] w fun e w'=>e=.returned (.bool (decide (max x bf<min y bt)))/\Gr w w':=by
 have G:∀x,Gr w (w.alloc x):=fun x=>(Gr.refl _).alloc _
 have hB:=aug w _ kb;have hg:=aug w _ Uj;have q1:∀x,(w.alloc x).cell? ⟨B,0,none⟩=some (.pointer (some ⟨g,0,none⟩)):=fun x=>((G x).cell _ (by exact hB)).trans kb
 have q2:∀x,(w.alloc x).cell? ⟨g,44,none⟩=some (.int .u32 bf):=fun x=>((G x).cell _ (by exact hg)).trans Uj
 have q3:∀x,(w.alloc x).cell? ⟨g,45,none⟩=some (.int .u32 bt):=fun x=>((G x).cell _ (by exact hg)).trans Xl
 go_enter func201,ntmps201;go_wp2;go_region;all_goals (try go_wp2)
 all_goals
  go_ret;refine⟨l7 ?_,br.drew⟩;rw[decide_eq_decide,Int.max_def,Int.min_def];all_goals ((repeat' split)<;>omega)
def Rs (w:World) (sa:Option Addr) (ss:List (Int×Int)):Prop:=∀i p,ss[i]?=some p->∃g1,sa=some ⟨g1,0,none⟩/\g1<w.heap.size/\w.cell? ⟨g1,i*2,none⟩=some (.int .u32 p.1)/\w.cell? ⟨g1,i*2+1,none⟩=some (.int .u32 (Wd.lo (p.1+p.2)))
theorem Rs.of (h:Rs w sa ss)(G:Gr w w'):Rs w' sa ss:=fun i p hp=>by obtain⟨g1,e,l,c0,c1⟩:=h i p hp;exact⟨g1,e,apq l G.size,(G.cell _ (by exact l)).trans c0,(G.cell _ (by exact l)).trans c1⟩
theorem ZR (so:w.ownsRow base 175 2 S ss.length (rE ss)):∃sa sc,S=.slice sa ss.length sc/\Rs w sa ss:=by
 obtain⟨sa,sc,rfl⟩:=Bk.qZ so;refine⟨sa,sc,rfl,fun i p hp=>?_⟩;have hn:0<ss.length:=by have:=(apj.1 hp).1;omega
 obtain⟨g1,d1,e1,l1,c1⟩:=ZQ so hn;injection e1 with f1 _ _;have q:=ZP hp;exact⟨g1,f1,l1,c1 _ _ q.1,c1 _ _ q.2⟩
theorem Oh {f:α->Bool}{l:List α}{x:α}(h:l[j]?=some x):(l.take (j+1)).any f=((l.take j).any f ||f x):=by rw[apU,h,aq5];simp
theorem Es {f:α->Bool}{l:List α}{x:α}(h:l[j]?=some x)(hx:f x=true):l.any f=true:=List.any_eq_true.2 ⟨x,aps h,hx⟩
theorem Uk (kb:w.cell? ⟨B,0,none⟩=some (.pointer (some ⟨g,0,none⟩)))(Uj:w.cell? ⟨g,44,none⟩=some (.int .u32 bf))(Xl:w.cell? ⟨g,45,none⟩=some (.int .u32 bt))(sc:Nat)(R:Rs w sa ss)(hs:ss.length<=1000000):Calls prog 203 #[.slice sa ss.length sc,.func (.func 201) #[] #[.pointer (some ⟨B,0,none⟩)]] w fun e w'=>∃z:Int,e=.returned (.int .i64 z)/\decide (0<=z)=ownB bf bt ss/\Gr w w':=by
 have Cl:Hid (∀W:World,Gr w W->∀x y,Calls prog 201 #[.agg #[.int .u32 x,.int .u32 y],.pointer (some ⟨B,0,none⟩)] W fun e w'=>e=.returned (.bool (decide (max x bf<min y bt)))/\Gr W w'):=fun W G x y=>
  Ui ((G.cell _ (by exact aug w _ kb)).trans kb) ((G.cell _ (by exact aug w _ Uj)).trans Uj) ((G.cell _ (by exact aug w _ Xl)).trans Xl) x y
 have HR:=kH R;generalize hn:ss.length=n at *
 have HN:=kH hn;go_enter func203,ntmps203;go_wp2_with fail;go_loopw [8] (fun i wr=>∃j:Nat,j<=n/\i=.int .i64 j/\(ss.take j).any (meet bf bt)=false/\Gr w wr) (fun i _=>n-(intOf i).toNat)
 case atStart=>exact⟨0,apF _,rfl,rfl,Gr.refl _⟩
 case round=>
  obtain⟨j,hj,rfl,hno,G⟩:=hrel;have nY:=kH hno;have HG:=kH G;by_cases hlt:j<n
  ·obtain⟨p,hp⟩:∃p,ss[j]?=some p:=⟨_,api (by rw[HN.out];exact hlt)⟩;obtain⟨g1,rfl,l1,c0,c1⟩:=HR.of HG j p hp;have HY:Hid (meet bf bt p=true->_):=fun h=>Es hp h
   have HZ:Hid (meet bf bt p=false->(ss.take (j+1)).any (meet bf bt)=false):=fun h=>by rw[Oh hp,nY.out,h];rfl
   have wJ:Hid (∀W:World,Gr w W->Calls prog 201 #[.agg #[.int .u32 p.1,.int .u32 (Wd.lo (p.1+p.2))],.pointer (some ⟨B,0,none⟩)] W fun e w'=>e=.returned (.bool (meet bf bt p))/\Gr W w'):=fun W G=>Cl W G _ _
   generalize meet bf bt p=m at *
   generalize Wd.lo (p.1+p.2)=y at *
   generalize p.1=x at *
   cases m with
   |true=>
    have KN:Hid (ownB bf bt ss=true):=HY rfl;go_wp2_with fail;refine(wJ _ HG).mono ?_;rintro e w1 ⟨rfl,G1⟩;have aU:Hid (Gr w w1):=HG.trans G1;clear wJ G1 c0 c1;go_wp2_with fail;go_ret;exact⟨_,rfl,by rw[KN.out];simp,aU⟩
   |false=>
    have HZ2:=kH (HZ rfl);go_wp2_with fail;refine(wJ _ HG).mono ?_;rintro e w1 ⟨rfl,G1⟩;have aU:=kH (HG.trans G1);go_wp2_with fail;go_roundw
    case rel=>exact⟨j+1,ab,by go_num,HZ2,aU⟩
    case measure=>simp[intOf];omega
  ·have ej:j=n:=ab;have HE:Hid (ownB bf bt ss=false):=by
    unfold Hid ownB;have:=nY;rwa[ej,<-HN.out,ap9]at this
   go_wp2_with fail;go_ret;exact⟨_,rfl,by rw[HE.out];rfl,HG⟩
theorem y8 (kb:w.cell? ⟨B,0,none⟩=some (.pointer (some ⟨g,0,none⟩)))(Uj:w.cell? ⟨g,44,none⟩=some (.int .u32 bf))(Xl:w.cell? ⟨g,45,none⟩=some (.int .u32 bt))(sc:Nat)(R:Rs w sa ss)(hs:ss.length<=1000000):Calls prog 200 #[.slice sa ss.length sc,.func (.func 201) #[] #[.pointer (some ⟨B,0,none⟩)]] w fun e w'=>e=.returned (.bool (ownB bf bt ss))/\Gr w w':=by
 have X:=kH (Uk kb Uj Xl sc R hs);generalize ownB bf bt ss=q at *
 generalize ss.length=n at *
 go_enter func200,ntmps200;go_wp2_with fail;refine X.mono ?_;rintro e w1 ⟨z,rfl,hz,G1⟩;have HZ:Hid _:=hz;have HG:Hid _:=G1;clear X hz G1;go_wp2_with fail;go_ret;exact⟨l7 HZ,HG⟩
theorem y9 {r:Rn}(I:Pr w base g r bf bt steps)(o:r.Ok)(hs:r.av.length<=1000000):Calls prog 184 #[.pointer (some ⟨g,0,none⟩)] w fun e w'=>e=.returned (.bool (ownB bf bt r.av))/\Gr w w':=by
 have Uj:=I.Oa o 0;have Xl:=I.Oa o 1;have hg:=I.lt;obtain⟨c,hc,I⟩:=I;obtain⟨sa,sc,hS,R⟩:=ZR I.av;have KJ:w.cell? ⟨g,39,none⟩=some (.slice sa r.av.length sc):=by rw[<-hS];exact I.dJ 2
 have G:∀x,Gr w (w.alloc x):=fun x=>(Gr.refl _).alloc _
 have X:Hid (Calls prog 200 #[.slice sa r.av.length sc,.func (.func 201) #[] #[.pointer (some ⟨w.heap.size,0,none⟩)]] (w.alloc (.cells #[.pointer (some ⟨g,0,none⟩)] 241)) fun e w'=>e=.returned (.bool (ownB bf bt r.av))/\Gr (w.alloc (.cells #[.pointer (some ⟨g,0,none⟩)] 241)) w'):=
  y8 (cr (at5 w _)) (((G _).cell _ (by exact hg)).trans Uj) (((G _).cell _ (by exact hg)).trans Xl) sc (R.of (G _)) hs
 generalize ownB bf bt r.av=q at *
 generalize r.av.length=n at *
 go_enter func184,ntmps184;go_wp2_with fail;refine X.mono ?_;rintro e w1 ⟨rfl,G1⟩;have HG:=kH (br.trans G1);go_wp2_with fail;go_ret;exact⟨rfl,HG⟩
end Mp
namespace Mp
open Mm Hh Hc Mi
variable{r:Rn}
theorem adO {c:Int}{b d:Bool}(h:a=c)(q:b=d):Ending.returned (.tuple #[.int .u32 a,.bool b])=.returned (.tuple #[.int .u32 c,.bool d]):=by rw[h,q]
theorem JI (I:Pr w base g r bf bt steps)(o:r.Ok)(hs:r.av.length<=1000000)(op d a b n:Int)(h1:op=1):Calls prog 170 #[.pointer (some ⟨g,0,none⟩),.agg #[.int .i64 op,.int .i64 d,.int .i64 a,.int .i64 b,.int .u32 n]] w fun e w'=>e=.returned (.tuple #[.int .u32 n,.bool (decide ((r.n:Int)=steps) ||ownB bf bt r.av)])/\Gr w w':=by
 subst h1;have G:∀x,Gr w (w.alloc x):=fun x=>(Gr.refl _).alloc _
 have hg:=I.lt;have k46:∀x,(w.alloc x).cell? ⟨g,46,none⟩=some (.int .i64 steps):=fun x=>(I.of (G x)).Oa o 2
 have k47:∀x,(w.alloc x).cell? ⟨g,47,none⟩=some (.int .i64 r.n):=fun x=>(I.of (G x)).Oa o 3
 have St:Hid (∀W:World,Gr w W->_):=fun W G=>y9 (I.of G) o hs
 generalize ownB bf bt r.av=q at *
 generalize hrn:(r.n:Int)=rn at *
 by_cases c:rn=steps
 ·have hd:(rn ==steps)=true:=by simp[c]
  have HE:Hid ((decide (rn=steps) ||q)=true):=by unfold Hid;simp[c]
  rw[HE.out];go_enter func170,ntmps170;go_wp2_with fail;go_quiet (fail);go_wp2_with fail;go_ret2;exact⟨rfl,br.drewN _⟩
 ·have hd:(rn ==steps)=false:=by simp[c]
  have HE:Hid ((decide (rn=steps) ||q)=q):=by unfold Hid;simp[c]
  rw[HE.out];go_enter func170,ntmps170;go_wp2_with fail;have k4:(w.alloc (.cells #[.int .i64 1,.int .i64 d,.int .i64 a,.int .i64 b,.int .u32 n] 235)).cell? ⟨w.heap.size,4,none⟩=some (.int .u32 n):=atZ _ _ _ _ _ _ (at5 w _)
  go_region_held3 (fun W=>W.cell? ⟨w.heap.size,4,none⟩=some (.int .u32 n)∧W.cell? ⟨g,46,none⟩=some (.int .i64 steps)∧W.cell? ⟨g,47,none⟩=some (.int .i64 rn)) (first|(go_keep;done)|(refine ⟨?_,?_,?_⟩<;>assumption)) (first
   |(go_at_call 184;refine(St _ b9).mono ?_;rintro e w2 ⟨rfl,G2⟩;have HG2:Hid (Gr w w2):=Gr.trans b9 G2;have j4:w2.cell? ⟨w.heap.size,4,none⟩=some (.int .u32 n):=(G2.cell _ aq).trans k4;have j46:w2.cell? ⟨g,46,none⟩=some (.int .i64 steps):=(G2.cell _ (by show g<_;simp;omega)).trans (k46 _);have j47:w2.cell? ⟨g,47,none⟩=some (.int .i64 rn):=(G2.cell _ (by show g<_;simp;omega)).trans (k47 _);clear G2))
  go_wp2_with fail;go_ret2;exact⟨rfl,HG2⟩
theorem JJ (op d a b n:Int)(h1:op=3):Calls prog 170 #[.pointer (some ⟨g,0,none⟩),.agg #[.int .i64 op,.int .i64 d,.int .i64 a,.int .i64 b,.int .u32 n]] w fun e w'=>e=.returned (.tuple #[.int .u32 n,.bool true])/\Gr w w':=by subst h1;go_enter func170,ntmps170;go_wp2_with fail;go_ret2;exact⟨rfl,(Gr.refl _).alloc _⟩
theorem Ez (I:Pr w base g r bf bt steps)(o:r.Ok)(op d a b n:Int)(ha:0<=a/\a<36)(hn:Hh.W n)(h1:op=4):Calls prog 170 #[.pointer (some ⟨g,0,none⟩),.agg #[.int .i64 op,.int .i64 d,.int .i64 a,.int .i64 b,.int .u32 n]] w fun e w'=>e=.returned (.tuple #[.int .u32 (Wd.lo (r.get a+n)-Wd.lo (r.get a+n)%2),.bool true])/\Gr w w':=by
 subst h1;have V:Hid (∀W:World,Gr w W->_):=fun W q=>fo (I.of q) o a ha.1 ha.2
 have wl:=W.lo (r.get a+n);generalize r.get a=X at *
 go_enter func170,ntmps170;go_wp2_with fail;go_quiet (refine auu (V _ b9));go_wp2_with fail;go_ret2;refine⟨adO ?_ rfl,br.drewN _⟩;exact Fy _ wl.1 wl.2
theorem JK (I:Pr w base g r bf bt steps)(o:r.Ok)(op d a b n:Int)(ha:0<=a/\a<36)(hb:0<=b/\b<36)(h1:¬op=1)(h3:¬op=3)(h4:¬op=4)(ho0:0<=op)(ho1:op<1000):Calls prog 170 #[.pointer (some ⟨g,0,none⟩),.agg #[.int .i64 op,.int .i64 d,.int .i64 a,.int .i64 b,.int .u32 n]] w fun e w'=>e=.returned (.tuple #[.int .u32 n,.bool (Wd.holds (op-100) (r.get a) (r.get b))])/\Gr w w':=by
 have b1:(op ==1)=false:=by simp[h1]
 have b3:(op ==3)=false:=by simp[h3]
 have b4:(op ==4)=false:=by simp[h4]
 have wa:=o.get a;have wb:=o.get b;have V:Hid (∀k,0<=k->k<36->∀W:World,Gr w W->Calls prog 185 #[.pointer (some ⟨g,0,none⟩),.int .i64 k] W fun e w'=>e=.returned (.int .u32 (r.get k))/\w'=W):=fun k h0 h1 W q=>fo (I.of q) o k h0 h1
 have Va:Hid (∀W:World,Gr w W->Calls prog 185 #[.pointer (some ⟨g,0,none⟩),.int .i64 a] W fun e w'=>e=.returned (.int .u32 (r.get a))/\w'=W):=V a ha.1 ha.2;have Vb:Hid (∀W:World,Gr w W->Calls prog 185 #[.pointer (some ⟨g,0,none⟩),.int .i64 b] W fun e w'=>e=.returned (.int .u32 (r.get b))/\w'=W):=V b hb.1 hb.2;have Ho:Hid (∀W:World,_):=fun W=>Ww.wy (op-100) _ _ W wa.1 wa.2 wb.1 wb.2
 generalize Wd.holds (op-100) (r.get a) (r.get b)=Q at *
 generalize r.get a=X at *
 generalize r.get b=Y at *
 go_enter func170,ntmps170;go_wp2_with fail;refine auB al al ?_;iterate 8 go_big_quiet_step (fail)
 go_big_quiet_step (exact auu (Va _ b9));iterate 3 go_big_quiet_step (fail)
 go_big_quiet_step (exact auu (Vb _ b9));go_big_quiet_step (exact auu (Ho _));go_big_quiet_step (fail);go_big_quiet_step (fail);refine auO ?_;intro _ hw1;obtain⟨nq,hw2⟩:=hw1;subst hw2;go_wp2_with fail;go_ret2;exact⟨rfl,br.drewN _⟩
theorem EA (I:Pr w base g r bf bt steps)(o:r.Ok)(hs:r.av.length<=1000000){i:Mv}(hi:0<=named i.op)(ha:0<=i.a/\i.a<36)(hb:0<=i.b/\i.b<36)(hn:Hh.W i.n):Calls prog 170 #[.pointer (some ⟨g,0,none⟩),.agg (sO i)] w fun e w'=>e=.returned (.tuple #[.int .u32 (FJ r i),.bool (vo bf bt steps r i)])/\Gr w w':=by
 have hop:0<=i.op/\i.op<1000:=by
  rcases jF hi with q|q|q|q|q|q|q|q|q|q|q|q<;>omega
 obtain⟨op,d,a,b,n⟩:=i;unfold FJ vo sO;simp only at *
 by_cases h1:op=1
 ·rw[ak,at7 h1];exact JI I o hs op d a b n h1
 by_cases h3:op=3
 ·rw[ak,at6 h1,at7 h3];exact JJ op d a b n h3
 by_cases h4:op=4
 ·rw[at7 h4,at6 h1,at6 h3,at7 h4];exact Ez I o op d a b n ha hn h4
 ·rw[at6 h4,at6 h1,at6 h3,at6 h4];exact JK I o op d a b n ha hb h1 h3 h4 hop.1 hop.2
end Mp
namespace Mp
open Mm Hh Hc Mi
variable{r:Rn}
theorem Ul (I:Pr w base g r bf bt steps)(o:r.Ok)(T:Gc.Ts w base)(hl:r.m.length<=140737488351232)(hss:r.av.length<=1000000){n:Int}(ha:0<=a/\a<36)(hb:0<=b/\b<36)(hn:Hh.W n)(hc:op=2):Calls prog 186 #[.pointer (some ⟨g,0,none⟩),.agg (sO ⟨op,d,a,b,n⟩)] w fun e w'=>e=.returned (bP (fK r ⟨op,d,a,b,n⟩).res)/\Pr w' base g (r.ev (fK r ⟨op,d,a,b,n⟩)) bf bt steps/\Gc.Fr 206 base w w':=by
 have e0:fK r ⟨op,d,a,b,n⟩=⟨r.h,r.m,[],[],some n⟩:=by unfold fK;rw[at7 bl]
 rw[e0];have V:Hid (∀k,0<=k->k<36->∀W:World,Gr w W->Calls prog 185 #[.pointer (some ⟨g,0,none⟩),.int .i64 k] W fun e w'=>e=.returned (.int .u32 (r.get k))/\w'=W):=fun k h0 h1 W q=>fo (I.of q) o k h0 h1
 have wa:=o.get a;have wb:=o.get b;have HI:Hid (Pr w base g r bf bt steps):=I;have oJ:Hid (∀x nq,Gr w ((w.alloc x).drewN nq)):=fun x nq=>br.drewN _
 subst hc;rw[jJ];unfold bP sO;simp only[];go_enter func186,ntmps186;go_wp2_with fail;refine auB al al ?_;iterate 3 go_big_quiet_step (fail)
 go_big_quiet_step (exact auu (V a ha.1 ha.2 _ b9));iterate 3 go_big_quiet_step (fail)
 go_big_quiet_step (exact auu (V b hb.1 hb.2 _ b9));go_big_quiet_step (fail);go_big_quiet_step (fail);refine auO ?_;intro _ hw1;obtain⟨nq,hw2⟩:=hw1;subst hw2;generalize r.get a=X at *
 generalize r.get b=Y at *
 go_wp2_with fail;go_ret2;exact⟨rfl,HI.of (oJ _ _),Gc.Fr.bD (oJ _ _) HI.ay⟩
theorem ZT (I:Pr w base g r bf bt steps)(o:r.Ok)(T:Gc.Ts w base)(hl:r.m.length<=140737488351232)(hss:r.av.length<=1000000){n:Int}(ha:0<=a/\a<36)(hb:0<=b/\b<36)(hn:Hh.W n)(hc:105<=op/\op<=110):Calls prog 186 #[.pointer (some ⟨g,0,none⟩),.agg (sO ⟨op,d,a,b,n⟩)] w fun e w'=>e=.returned (bP (fK r ⟨op,d,a,b,n⟩).res)/\Pr w' base g (r.ev (fK r ⟨op,d,a,b,n⟩)) bf bt steps/\Gc.Fr 206 base w w':=by
 have e0:fK r ⟨op,d,a,b,n⟩=⟨r.h,r.m,[],[],none⟩:=by unfold fK;rw[at6 bl,at6 bl,at6 bl,at6 bl,at6 bl,at6 bl]
 rw[e0];have V:Hid (∀k,0<=k->k<36->∀W:World,Gr w W->Calls prog 185 #[.pointer (some ⟨g,0,none⟩),.int .i64 k] W fun e w'=>e=.returned (.int .u32 (r.get k))/\w'=W):=fun k h0 h1 W q=>fo (I.of q) o k h0 h1
 have wa:=o.get a;have wb:=o.get b;have HI:Hid (Pr w base g r bf bt steps):=I;have oJ:Hid (∀x nq,Gr w ((w.alloc x).drewN nq)):=fun x nq=>br.drewN _
 rw[jJ];have b2:(op ==2)=false:=by simp;omega
 have qg:Hid (∀W:World,Calls prog 113 #[.int .i64 op,.int .i64 211,.int .i64 215] W fun e w'=>e=.returned (.bool false)/\w'=W):=fun W=>by
  have:=aG op 211 215 W;rwa[auh ab]at this
 have za:Hid (∀W:World,Calls prog 113 #[.int .i64 op,.int .i64 316,.int .i64 318] W fun e w'=>e=.returned (.bool false)/\w'=W):=fun W=>by
  have:=aG op 316 318 W;rwa[auh ab]at this
 have EB:Hid (∀W:World,Calls prog 113 #[.int .i64 op,.int .i64 428,.int .i64 445] W fun e w'=>e=.returned (.bool false)/\w'=W):=fun W=>by
  have:=aG op 428 445 W;rwa[auh ab]at this
 have Oi:Hid (∀W:World,Calls prog 113 #[.int .i64 op,.int .i64 528,.int .i64 545] W fun e w'=>e=.returned (.bool false)/\w'=W):=fun W=>by
  have:=aG op 528 545 W;rwa[auh ab]at this
 have ZU:Hid (∀W:World,Calls prog 113 #[.int .i64 op,.int .i64 646,.int .i64 656] W fun e w'=>e=.returned (.bool false)/\w'=W):=fun W=>by
  have:=aG op 646 656 W;rwa[auh ab]at this
 unfold bP sO;simp only[];go_enter func186,ntmps186;go_wp2_with fail;refine auB al al ?_;iterate 3 go_big_quiet_step (fail)
 go_big_quiet_step (exact auu (V a ha.1 ha.2 _ b9));iterate 3 go_big_quiet_step (fail)
 go_big_quiet_step (exact auu (V b hb.1 hb.2 _ b9));go_big_quiet_step (fail);go_big_quiet_step (fail);refine auO ?_;intro _ hw1;obtain⟨nq,hw2⟩:=hw1;subst hw2;generalize r.get a=X at *
 generalize r.get b=Y at *
 go_wp2_with fail;refine(qg _).mono ?_;rintro e w' ⟨rfl,rfl⟩;go_wp2_with fail;refine(za _).mono ?_;rintro e w' ⟨rfl,rfl⟩;go_wp2_with fail;refine(EB _).mono ?_;rintro e w' ⟨rfl,rfl⟩;go_wp2_with fail;refine(Oi _).mono ?_;rintro e w' ⟨rfl,rfl⟩;go_wp2_with fail;refine(ZU _).mono ?_;rintro e w' ⟨rfl,rfl⟩;go_wp2_with fail;go_ret2;exact⟨rfl,HI.of (oJ _ _),Gc.Fr.bD (oJ _ _) HI.ay⟩
theorem yE (I:Pr w base g r bf bt steps)(o:r.Ok)(T:Gc.Ts w base)(hl:r.m.length<=140737488351232)(hss:r.av.length<=1000000){n:Int}(ha:0<=a/\a<36)(hb:0<=b/\b<36)(hn:Hh.W n)(hc:428<=op/\op<=445):Calls prog 186 #[.pointer (some ⟨g,0,none⟩),.agg (sO ⟨op,d,a,b,n⟩)] w fun e w'=>e=.returned (bP (fK r ⟨op,d,a,b,n⟩).res)/\Pr w' base g (r.ev (fK r ⟨op,d,a,b,n⟩)) bf bt steps/\Gc.Fr 206 base w w':=by
 have e0:fK r ⟨op,d,a,b,n⟩=⟨r.h,r.m,[],[],some (Wd.eT (op-400) (r.get a) (r.get b))⟩:=by unfold fK;rw[at6 bl,at6 bl,at6 bl,at7 bl]
 rw[e0];have V:Hid (∀k,0<=k->k<36->∀W:World,Gr w W->Calls prog 185 #[.pointer (some ⟨g,0,none⟩),.int .i64 k] W fun e w'=>e=.returned (.int .u32 (r.get k))/\w'=W):=fun k h0 h1 W q=>fo (I.of q) o k h0 h1
 have wa:=o.get a;have wb:=o.get b;have HI:Hid (Pr w base g r bf bt steps):=I;have oJ:Hid (∀x nq,Gr w ((w.alloc x).drewN nq)):=fun x nq=>br.drewN _
 rw[jJ];have b2:(op ==2)=false:=by simp;omega
 have qg:Hid (∀W:World,Calls prog 113 #[.int .i64 op,.int .i64 211,.int .i64 215] W fun e w'=>e=.returned (.bool false)/\w'=W):=fun W=>by
  have:=aG op 211 215 W;rwa[auh ab]at this
 have za:Hid (∀W:World,Calls prog 113 #[.int .i64 op,.int .i64 316,.int .i64 318] W fun e w'=>e=.returned (.bool false)/\w'=W):=fun W=>by
  have:=aG op 316 318 W;rwa[auh ab]at this
 have EB:Hid (∀W:World,Calls prog 113 #[.int .i64 op,.int .i64 428,.int .i64 445] W fun e w'=>e=.returned (.bool true)/\w'=W):=fun W=>by
  have:=aG op 428 445 W;rwa[auq ab]at this
 have A:Hid (∀W:World,_):=fun W=>Ww.jE (op-400) _ _ W wa.1 wa.2 wb.1 wb.2
 generalize Wd.eT (op-400) (r.get a) (r.get b)=Z at *
 have hop:∃q,op=400+q:=⟨op-400,ab⟩;unfold bP sO;simp only[];go_enter func186,ntmps186;go_wp2_with fail;refine auB al al ?_;iterate 3 go_big_quiet_step (fail)
 go_big_quiet_step (exact auu (V a ha.1 ha.2 _ b9));iterate 3 go_big_quiet_step (fail)
 go_big_quiet_step (exact auu (V b hb.1 hb.2 _ b9));go_big_quiet_step (fail);go_big_quiet_step (fail);refine auO ?_;intro _ hw1;obtain⟨nq,hw2⟩:=hw1;subst hw2;generalize r.get a=X at *
 generalize r.get b=Y at *
 go_wp2_with fail;refine(qg _).mono ?_;rintro e w' ⟨rfl,rfl⟩;go_wp2_with fail;refine(za _).mono ?_;rintro e w' ⟨rfl,rfl⟩;go_wp2_with fail;refine(EB _).mono ?_;rintro e w' ⟨rfl,rfl⟩;go_wp2_with fail;refine(A _).mono ?_;rintro e w' ⟨rfl,rfl⟩;go_wp2_with fail;go_ret2;exact⟨rfl,HI.of (oJ _ _),Gc.Fr.bD (oJ _ _) HI.ay⟩
theorem Um (I:Pr w base g r bf bt steps)(o:r.Ok)(T:Gc.Ts w base)(hl:r.m.length<=140737488351232)(hss:r.av.length<=1000000){n:Int}(ha:0<=a/\a<36)(hb:0<=b/\b<36)(hn:Hh.W n)(hc:528<=op/\op<=545):Calls prog 186 #[.pointer (some ⟨g,0,none⟩),.agg (sO ⟨op,d,a,b,n⟩)] w fun e w'=>e=.returned (bP (fK r ⟨op,d,a,b,n⟩).res)/\Pr w' base g (r.ev (fK r ⟨op,d,a,b,n⟩)) bf bt steps/\Gc.Fr 206 base w w':=by
 have e0:fK r ⟨op,d,a,b,n⟩=⟨r.h,r.m,[],[],some (Wd.eT (op-500) (r.get a) n)⟩:=by unfold fK;rw[at6 bl,at6 bl,at6 bl,at6 bl,at7 bl]
 rw[e0];have V:Hid (∀k,0<=k->k<36->∀W:World,Gr w W->Calls prog 185 #[.pointer (some ⟨g,0,none⟩),.int .i64 k] W fun e w'=>e=.returned (.int .u32 (r.get k))/\w'=W):=fun k h0 h1 W q=>fo (I.of q) o k h0 h1
 have wa:=o.get a;have wb:=o.get b;have HI:Hid (Pr w base g r bf bt steps):=I;have oJ:Hid (∀x nq,Gr w ((w.alloc x).drewN nq)):=fun x nq=>br.drewN _
 rw[jJ];have b2:(op ==2)=false:=by simp;omega
 have qg:Hid (∀W:World,Calls prog 113 #[.int .i64 op,.int .i64 211,.int .i64 215] W fun e w'=>e=.returned (.bool false)/\w'=W):=fun W=>by
  have:=aG op 211 215 W;rwa[auh ab]at this
 have za:Hid (∀W:World,Calls prog 113 #[.int .i64 op,.int .i64 316,.int .i64 318] W fun e w'=>e=.returned (.bool false)/\w'=W):=fun W=>by
  have:=aG op 316 318 W;rwa[auh ab]at this
 have EB:Hid (∀W:World,Calls prog 113 #[.int .i64 op,.int .i64 428,.int .i64 445] W fun e w'=>e=.returned (.bool false)/\w'=W):=fun W=>by
  have:=aG op 428 445 W;rwa[auh ab]at this
 have Oi:Hid (∀W:World,Calls prog 113 #[.int .i64 op,.int .i64 528,.int .i64 545] W fun e w'=>e=.returned (.bool true)/\w'=W):=fun W=>by
  have:=aG op 528 545 W;rwa[auq ab]at this
 have A:Hid (∀W:World,_):=fun W=>Ww.jE (op-500) _ _ W wa.1 wa.2 hn.1 hn.2
 generalize Wd.eT (op-500) (r.get a) n=Z at *
 have hop:∃q,op=500+q:=⟨op-500,ab⟩;unfold bP sO;simp only[];go_enter func186,ntmps186;go_wp2_with fail;refine auB al al ?_;iterate 3 go_big_quiet_step (fail)
 go_big_quiet_step (exact auu (V a ha.1 ha.2 _ b9));iterate 3 go_big_quiet_step (fail)
 go_big_quiet_step (exact auu (V b hb.1 hb.2 _ b9));go_big_quiet_step (fail);go_big_quiet_step (fail);refine auO ?_;intro _ hw1;obtain⟨nq,hw2⟩:=hw1;subst hw2;generalize r.get a=X at *
 generalize r.get b=Y at *
 go_wp2_with fail;refine(qg _).mono ?_;rintro e w' ⟨rfl,rfl⟩;go_wp2_with fail;refine(za _).mono ?_;rintro e w' ⟨rfl,rfl⟩;go_wp2_with fail;refine(EB _).mono ?_;rintro e w' ⟨rfl,rfl⟩;go_wp2_with fail;refine(Oi _).mono ?_;rintro e w' ⟨rfl,rfl⟩;go_wp2_with fail;refine(A _).mono ?_;rintro e w' ⟨rfl,rfl⟩;go_wp2_with fail;go_ret2;exact⟨rfl,HI.of (oJ _ _),Gc.Fr.bD (oJ _ _) HI.ay⟩
end Mp
namespace Mp
open Mm Hh Hc Mi
theorem ZV {r:Rn}(I:Pr w base g r bf bt steps)(o:r.Ok)(T:Gc.Ts w base)(hl:r.m.length<=140737488351232)(hss:r.av.length<=1000000){n:Int}(ha:0<=a/\a<36)(hb:0<=b/\b<36)(hn:Hh.W n)(hc:211<=op/\op<=215):Calls prog 186 #[.pointer (some ⟨g,0,none⟩),.agg (sO ⟨op,d,a,b,n⟩)] w fun e w'=>e=.returned (bP (fK r ⟨op,d,a,b,n⟩).res)/\Pr w' base g (r.ev (fK r ⟨op,d,a,b,n⟩)) bf bt steps/\Gc.Fr 206 base w w':=by
 have e0:fK r ⟨op,d,a,b,n⟩=bF r.h r.m (op-200) (Wd.lo (r.get a+n)):=by unfold fK;rw[at6 bl,at7 bl]
 rw[e0];have V:Hid (∀k,0<=k->k<36->∀W:World,Gr w W->Calls prog 185 #[.pointer (some ⟨g,0,none⟩),.int .i64 k] W fun e w'=>e=.returned (.int .u32 (r.get k))/\w'=W):=fun k h0 h1 W q=>fo (I.of q) o k h0 h1
 have wa:=o.get a;have wb:=o.get b;have HI:Hid (Pr w base g r bf bt steps):=I;have oJ:Hid (∀x nq,Gr w ((w.alloc x).drewN nq)):=fun x nq=>br.drewN _
 have b2:(op ==2)=false:=by simp;omega
 have qg:Hid (∀W:World,Calls prog 113 #[.int .i64 op,.int .i64 211,.int .i64 215] W fun e w'=>e=.returned (.bool true)/\w'=W):=fun W=>by
  have:=aG op 211 215 W;rwa[auq ab]at this
 have wl:=W.lo (r.get a+n);have hw:IntKind.i64.wrap (op-200)=op-200:=by rw[auQ];omega
 have L:Hid (∀W:World,Gr w W->Calls prog 177 #[.pointer (some ⟨g,0,none⟩),.int .i64 (IntKind.i64.wrap (op-200)),.int .u32 (IntKind.u32.wrap (r.get a+n))] W fun e w'=>e=.returned (bP (bF r.h r.m (op-200) (Wd.lo (r.get a+n))).res)/\Pr w' base g (r.ev (bF r.h r.m (op-200) (Wd.lo (r.get a+n)))) bf bt steps/\Gc.Fr 206 base W w'):=fun W q=>by
  rw[hw];have J:=I.of q;refine(Gc.dY J hl (op-200) _ wl.1 wl.2).mono ?_;rintro e w' ⟨rfl,J2,C2⟩;refine⟨?_,?_,Gc.In.below J C2⟩
  ·unfold bF bP;split
   ·rename_i h;rw[h];rfl
   ·rename_i h;have h2:bM r.m (op-200) (Wd.lo (r.get a+n))=false:=by simpa using h
    unfold aN;rw[h2];rfl
  ·unfold bF;split
   ·rename_i h;rw[at7 h]at J2;rw[jJ];exact J2
   ·rename_i h;rw[at6 h]at J2;have e:r.ev ⟨r.h.trap 3,r.m,[],[],none⟩={ r with h:=r.h.trap 3 }:=by simp[Rn.ev]
    rw[e];exact J2
 generalize bF r.h r.m (op-200) (Wd.lo (r.get a+n))=E at *
 clear I o T e0 wa wb wl hw;unfold bP at *
 unfold sO;simp only[];go_enter func186,ntmps186;go_wp2_with fail;refine auB al al ?_;iterate 3 go_big_quiet_step (fail)
 go_big_quiet_step (exact auu (V a ha.1 ha.2 _ b9));iterate 3 go_big_quiet_step (fail)
 go_big_quiet_step (exact auu (V b hb.1 hb.2 _ b9));go_big_quiet_step (fail);go_big_quiet_step (fail);refine auO ?_;intro _ hw1;obtain⟨nq,hw2⟩:=hw1;subst hw2;clear V;generalize r.get a=X at *
 generalize r.get b=Y at *
 go_wp2_with fail;refine(qg _).mono ?_;rintro e w' ⟨rfl,rfl⟩;clear qg;go_wp2_with fail;have CL:Hid (((w.alloc (.cells #[.int .i64 op,.int .i64 d,.int .i64 a,.int .i64 b,.int .u32 n] 235)).drewN nq).heap[w.heap.size]?=some (.cells #[.int .i64 op,.int .i64 d,.int .i64 a,.int .i64 b,.int .u32 n] 235 (0,0))):=at5 w _;have k0:((w.alloc (.cells #[.int .i64 op,.int .i64 d,.int .i64 a,.int .i64 b,.int .u32 n] 235)).drewN nq).cell? ⟨w.heap.size,0,none⟩=some (.int .i64 op):=atZ _ _ _ _ _ _ CL;have k4:((w.alloc (.cells #[.int .i64 op,.int .i64 d,.int .i64 a,.int .i64 b,.int .u32 n] 235)).drewN nq).cell? ⟨w.heap.size,4,none⟩=some (.int .u32 n):=atZ _ _ _ _ _ _ CL;go_region_with ((go_at_call 177;refine(L _ b9).mono ?_;rintro e w2 ⟨rfl,J2,F2⟩;have HJ:Hid (Pr w2 base g (r.ev E) bf bt steps):=J2;have HF:Hid (Gc.Fr 206 base w w2):=(Gc.Fr.bD b9 HI.ay).trans F2;have HB2:Hid (w2.heap[w.heap.size]?=some (.cells #[.int .i64 op,.int .i64 d,.int .i64 a,.int .i64 b,.int .u32 n] 235 (0,0))):=(F2.keep _ _ _ _ CL an an an).trans CL;have j0:w2.cell? ⟨w.heap.size,0,none⟩=some (.int .i64 op):=atZ _ _ _ _ _ _ HB2;have j4:w2.cell? ⟨w.heap.size,4,none⟩=some (.int .u32 n):=atZ _ _ _ _ _ _ HB2;clear J2 F2))
 all_goals
  go_wp2_with fail;go_ret2;exact⟨rfl,HJ,HF⟩
end Mp
namespace Mp
open Mm Hh Hc Mi
theorem ZW {r:Rn}(I:Pr w base g r bf bt steps)(o:r.Ok)(T:Gc.Ts w base)(hl:r.m.length<=140737488351232)(hss:r.av.length<=1000000){n:Int}(ha:0<=a/\a<36)(hb:0<=b/\b<36)(hn:Hh.W n)(hc:316<=op/\op<=318):Calls prog 186 #[.pointer (some ⟨g,0,none⟩),.agg (sO ⟨op,d,a,b,n⟩)] w fun e w'=>e=.returned (bP (fK r ⟨op,d,a,b,n⟩).res)/\Pr w' base g (r.ev (fK r ⟨op,d,a,b,n⟩)) bf bt steps/\Gc.Fr 206 base w w':=by
 have e0:fK r ⟨op,d,a,b,n⟩=aH r.h r.m (op-300) (Wd.lo (r.get a+n)) (r.get b):=by unfold fK;rw[at6 bl,at6 bl,at7 bl]
 rw[e0];have V:Hid (∀k,0<=k->k<36->∀W:World,Gr w W->Calls prog 185 #[.pointer (some ⟨g,0,none⟩),.int .i64 k] W fun e w'=>e=.returned (.int .u32 (r.get k))/\w'=W):=fun k h0 h1 W q=>fo (I.of q) o k h0 h1
 have wa:=o.get a;have wb:=o.get b;have HI:Hid (Pr w base g r bf bt steps):=I;have oJ:Hid (∀x nq,Gr w ((w.alloc x).drewN nq)):=fun x nq=>br.drewN _
 have b2:(op ==2)=false:=by simp;omega
 have qg:Hid (∀W:World,Calls prog 113 #[.int .i64 op,.int .i64 211,.int .i64 215] W fun e w'=>e=.returned (.bool false)/\w'=W):=fun W=>by
  have:=aG op 211 215 W;rwa[auh ab]at this
 have za:Hid (∀W:World,Calls prog 113 #[.int .i64 op,.int .i64 316,.int .i64 318] W fun e w'=>e=.returned (.bool true)/\w'=W):=fun W=>by
  have:=aG op 316 318 W;rwa[auq ab]at this
 have wl:=W.lo (r.get a+n);have hres:(aH r.h r.m (op-300) (Wd.lo (r.get a+n)) (r.get b)).res=none:=by unfold aH;split<;>rfl
 have hw:IntKind.i64.wrap (op-300)=op-300:=by rw[auQ];omega
 have L:Hid (∀W:World,Gr w W->Calls prog 178 #[.pointer (some ⟨g,0,none⟩),.int .i64 (IntKind.i64.wrap (op-300)),.int .u32 (IntKind.u32.wrap (r.get a+n)),.int .u32 (r.get b)] W fun e w'=>e=.returned (.tuple #[])/\Pr w' base g (r.ev (aH r.h r.m (op-300) (Wd.lo (r.get a+n)) (r.get b))) bf bt steps/\Gc.Fr 206 base W w'):=fun W q=>by
  rw[hw];have J:=I.of q;refine(Gc.dO J (Gc.nO T (aun q I.ay)) hl hss (op-300) _ _ wl.1 wl.2 wb.1 wb.2).mono ?_;rintro e w' ⟨rfl,J2,C2⟩;refine⟨rfl,?_,C2⟩;have ho:(aH r.h r.m (op-300) (Wd.lo (r.get a+n)) (r.get b)).out=[]:=by unfold aH;split<;>rfl
  unfold Pr Rn.ev;simp only[ho,apz];exact J2
 rw[hres];generalize aH r.h r.m (op-300) (Wd.lo (r.get a+n)) (r.get b)=E at *
 clear I o T e0 wa wb wl hres hw;unfold bP at *
 unfold sO;simp only[];go_enter func186,ntmps186;go_wp2_with fail;refine auB al al ?_;iterate 3 go_big_quiet_step (fail)
 go_big_quiet_step (exact auu (V a ha.1 ha.2 _ b9));iterate 3 go_big_quiet_step (fail)
 go_big_quiet_step (exact auu (V b hb.1 hb.2 _ b9));go_big_quiet_step (fail);go_big_quiet_step (fail);refine auO ?_;intro _ hw1;obtain⟨nq,hw2⟩:=hw1;subst hw2;clear V;generalize r.get a=X at *
 generalize r.get b=Y at *
 go_wp2_with fail;refine(qg _).mono ?_;rintro e w' ⟨rfl,rfl⟩;clear qg;go_wp2_with fail;refine(za _).mono ?_;rintro e w' ⟨rfl,rfl⟩;go_wp2_with fail;have CL:Hid (((w.alloc (.cells #[.int .i64 op,.int .i64 d,.int .i64 a,.int .i64 b,.int .u32 n] 235)).drewN nq).heap[w.heap.size]?=some (.cells #[.int .i64 op,.int .i64 d,.int .i64 a,.int .i64 b,.int .u32 n] 235 (0,0))):=at5 w _;have k0:((w.alloc (.cells #[.int .i64 op,.int .i64 d,.int .i64 a,.int .i64 b,.int .u32 n] 235)).drewN nq).cell? ⟨w.heap.size,0,none⟩=some (.int .i64 op):=atZ _ _ _ _ _ _ CL;have k4:((w.alloc (.cells #[.int .i64 op,.int .i64 d,.int .i64 a,.int .i64 b,.int .u32 n] 235)).drewN nq).cell? ⟨w.heap.size,4,none⟩=some (.int .u32 n):=atZ _ _ _ _ _ _ CL;go_region_with ((go_at_call 178;refine(L _ b9).mono ?_;rintro e w2 ⟨rfl,J2,F2⟩;have HJ:Hid (Pr w2 base g (r.ev E) bf bt steps):=J2;have HF:Hid (Gc.Fr 206 base w w2):=(Gc.Fr.bD b9 HI.ay).trans F2;have HB2:Hid (w2.heap[w.heap.size]?=some (.cells #[.int .i64 op,.int .i64 d,.int .i64 a,.int .i64 b,.int .u32 n] 235 (0,0))):=(F2.keep _ _ _ _ CL an an an).trans CL;have j0:w2.cell? ⟨w.heap.size,0,none⟩=some (.int .i64 op):=atZ _ _ _ _ _ _ HB2;have j4:w2.cell? ⟨w.heap.size,4,none⟩=some (.int .u32 n):=atZ _ _ _ _ _ _ HB2;clear J2 F2))
 all_goals
  go_wp2_with fail;go_ret2;exact⟨rfl,HJ,HF⟩
end Mp
namespace Mp
open Mm Hh Hc Mi
theorem ZX {r:Rn}(I:Pr w base g r bf bt steps)(o:r.Ok)(T:Gc.Ts w base)(hl:r.m.length<=140737488351232)(hss:r.av.length<=1000000){n:Int}(ha:0<=a/\a<36)(hb:0<=b/\b<36)(hn:Hh.W n)(hc:646<=op/\op<=656):Calls prog 186 #[.pointer (some ⟨g,0,none⟩),.agg (sO ⟨op,d,a,b,n⟩)] w fun e w'=>e=.returned (bP (fK r ⟨op,d,a,b,n⟩).res)/\Pr w' base g (r.ev (fK r ⟨op,d,a,b,n⟩)) bf bt steps/\Gc.Fr 206 base w w':=by
 have e0:fK r ⟨op,d,a,b,n⟩=aK r.h r.m (op-600) (r.get a) (r.get b):=by unfold fK;rw[at6 bl,at6 bl,at6 bl,at6 bl,at6 bl,at7 bl]
 rw[e0];have V:Hid (∀k,0<=k->k<36->∀W:World,Gr w W->Calls prog 185 #[.pointer (some ⟨g,0,none⟩),.int .i64 k] W fun e w'=>e=.returned (.int .u32 (r.get k))/\w'=W):=fun k h0 h1 W q=>fo (I.of q) o k h0 h1
 have wa:=o.get a;have wb:=o.get b;have HI:Hid (Pr w base g r bf bt steps):=I;have oJ:Hid (∀x nq,Gr w ((w.alloc x).drewN nq)):=fun x nq=>br.drewN _
 have b2:(op ==2)=false:=by simp;omega
 have qg:Hid (∀W:World,Calls prog 113 #[.int .i64 op,.int .i64 211,.int .i64 215] W fun e w'=>e=.returned (.bool false)/\w'=W):=fun W=>by
  have:=aG op 211 215 W;rwa[auh ab]at this
 have za:Hid (∀W:World,Calls prog 113 #[.int .i64 op,.int .i64 316,.int .i64 318] W fun e w'=>e=.returned (.bool false)/\w'=W):=fun W=>by
  have:=aG op 316 318 W;rwa[auh ab]at this
 have EB:Hid (∀W:World,Calls prog 113 #[.int .i64 op,.int .i64 428,.int .i64 445] W fun e w'=>e=.returned (.bool false)/\w'=W):=fun W=>by
  have:=aG op 428 445 W;rwa[auh ab]at this
 have Oi:Hid (∀W:World,Calls prog 113 #[.int .i64 op,.int .i64 528,.int .i64 545] W fun e w'=>e=.returned (.bool false)/\w'=W):=fun W=>by
  have:=aG op 528 545 W;rwa[auh ab]at this
 have ZU:Hid (∀W:World,Calls prog 113 #[.int .i64 op,.int .i64 646,.int .i64 656] W fun e w'=>e=.returned (.bool true)/\w'=W):=fun W=>by
  have:=aG op 646 656 W;rwa[auq ab]at this
 have hw:IntKind.i64.wrap (op-600)=op-600:=by rw[auQ];omega
 have L:Hid (∀W:World,Gr w W->Calls prog 180 #[.pointer (some ⟨g,0,none⟩),.int .i64 (IntKind.i64.wrap (op-600)),.int .u32 (r.get a),.int .u32 (r.get b)] W fun e w'=>e=.returned (bP (aK r.h r.m (op-600) (r.get a) (r.get b)).res)/\Pr w' base g (r.ev (aK r.h r.m (op-600) (r.get a) (r.get b))) bf bt steps/\Gc.Fr 206 base W w'):=fun W q=>by
  rw[hw];have J:=I.of q;refine(Gc.uz J (Gc.nO T (aun q I.ay)) hl hss (op-600) _ _ wa.1 wa.2 wb.1 wb.2).mono ?_;rintro e w' ⟨rfl,J2,C2⟩;refine⟨rfl,?_,C2⟩;have ho:(aK r.h r.m (op-600) (r.get a) (r.get b)).out=[]:=by
   unfold aK gB eU iN;repeat (first|rfl|split)
  unfold Pr Rn.ev;simp only[ho,apz];exact J2
 generalize aK r.h r.m (op-600) (r.get a) (r.get b)=E at *
 clear I o T e0 wa wb hw;unfold bP at *
 unfold sO;simp only[];go_enter func186,ntmps186;go_wp2_with fail;refine auB al al ?_;iterate 3 go_big_quiet_step (fail)
 go_big_quiet_step (exact auu (V a ha.1 ha.2 _ b9));iterate 3 go_big_quiet_step (fail)
 go_big_quiet_step (exact auu (V b hb.1 hb.2 _ b9));go_big_quiet_step (fail);go_big_quiet_step (fail);refine auO ?_;intro _ hw1;obtain⟨nq,hw2⟩:=hw1;subst hw2;clear V;generalize r.get a=X at *
 generalize r.get b=Y at *
 go_wp2_with fail;refine(qg _).mono ?_;rintro e w' ⟨rfl,rfl⟩;clear qg;go_wp2_with fail;refine(za _).mono ?_;rintro e w' ⟨rfl,rfl⟩;go_wp2_with fail;refine(EB _).mono ?_;rintro e w' ⟨rfl,rfl⟩;go_wp2_with fail;refine(Oi _).mono ?_;rintro e w' ⟨rfl,rfl⟩;go_wp2_with fail;refine(ZU _).mono ?_;rintro e w' ⟨rfl,rfl⟩;go_wp2_with fail;have CL:Hid (((w.alloc (.cells #[.int .i64 op,.int .i64 d,.int .i64 a,.int .i64 b,.int .u32 n] 235)).drewN nq).heap[w.heap.size]?=some (.cells #[.int .i64 op,.int .i64 d,.int .i64 a,.int .i64 b,.int .u32 n] 235 (0,0))):=at5 w _;have k0:((w.alloc (.cells #[.int .i64 op,.int .i64 d,.int .i64 a,.int .i64 b,.int .u32 n] 235)).drewN nq).cell? ⟨w.heap.size,0,none⟩=some (.int .i64 op):=atZ _ _ _ _ _ _ CL;have k4:((w.alloc (.cells #[.int .i64 op,.int .i64 d,.int .i64 a,.int .i64 b,.int .u32 n] 235)).drewN nq).cell? ⟨w.heap.size,4,none⟩=some (.int .u32 n):=atZ _ _ _ _ _ _ CL;go_region_with ((go_at_call 180;refine(L _ b9).mono ?_;rintro e w2 ⟨rfl,J2,F2⟩;have HJ:Hid (Pr w2 base g (r.ev E) bf bt steps):=J2;have HF:Hid (Gc.Fr 206 base w w2):=(Gc.Fr.bD b9 HI.ay).trans F2;have HB2:Hid (w2.heap[w.heap.size]?=some (.cells #[.int .i64 op,.int .i64 d,.int .i64 a,.int .i64 b,.int .u32 n] 235 (0,0))):=(F2.keep _ _ _ _ CL an an an).trans CL;have j0:w2.cell? ⟨w.heap.size,0,none⟩=some (.int .i64 op):=atZ _ _ _ _ _ _ HB2;have j4:w2.cell? ⟨w.heap.size,4,none⟩=some (.int .u32 n):=atZ _ _ _ _ _ _ HB2;clear J2 F2))
 all_goals
  go_wp2_with fail;go_ret2;exact⟨rfl,HJ,HF⟩
end Mp
namespace Mp
open Mm Hh Hc Mi
variable{i:Mv}{r:Rn}
theorem oH (I:Pr w base g r bf bt steps)(o:r.Ok)(T:Gc.Ts w base)(hl:r.m.length<=140737488351232)(hss:r.av.length<=1000000){i:Mv}(hi:0<=named i.op)(h1:¬i.op=1)(h3:¬i.op=3)(h4:¬i.op=4)(h5:¬i.op=5)(h6:¬i.op=6)(ha:0<=i.a/\i.a<36)(hb:0<=i.b/\i.b<36)(hn:Hh.W i.n):Calls prog 186 #[.pointer (some ⟨g,0,none⟩),.agg (sO i)] w fun e w'=>e=.returned (bP (fK r i).res)/\Pr w' base g (r.ev (fK r i)) bf bt steps/\Gc.Fr 206 base w w':=by
 obtain⟨op,d,a,b,n⟩:=i;simp only at *
 rcases jF hi with q|q|q|q|q|q|q|q|q|q|q|q
 ·exact absurd q h1
 ·exact Ul I o T hl hss ha hb hn q
 ·exact absurd q h3
 ·exact absurd q h4
 ·exact absurd q h5
 ·exact absurd q h6
 ·exact ZT I o T hl hss ha hb hn q
 ·exact ZV I o T hl hss ha hb hn q
 ·exact ZW I o T hl hss ha hb hn q
 ·exact yE I o T hl hss ha hb hn q
 ·exact Um I o T hl hss ha hb hn q
 ·exact ZX I o T hl hss ha hb hn q
theorem ZY {e:Ev}(o:r.Ok)(I:Pr w base g (r.ev e) bf bt steps):(r.ev e).Ok:=by obtain⟨c,hc,I⟩:=I;have:=I.ok;rw[hc]at this;exact⟨this,o.tl,o.tb,o.h0,o.h1⟩
theorem adP (I:Pr w base g r bf bt steps)(o:r.Ok)(hr:r.n<=1000000)(op d a b n:Int)(h1:op=1):Calls prog 171 #[.pointer (some ⟨g,0,none⟩),.agg #[.int .i64 op,.int .i64 d,.int .i64 a,.int .i64 b,.int .u32 n]] w fun e w'=>e=.returned (.tuple #[])/\Pr w' base g { r with n:=r.n+1,here:=n } bf bt steps/\Gc.Fr 206 base w w':=by
 subst h1;have k47:w.cell? ⟨g,47,none⟩=some (.int .i64 r.n):=I.Oa o 3;have k48:=I.Oa o 4;have fz:=I.fz;have hg:=I.lt;have HB:=kH I.ay;have J1:=I.adM (r':={ r with n:=r.n+1 }) o 3 rfl rfl rfl rfl rfl rfl;have J2:=J1.adM (r':={ r with n:=r.n+1,here:=n }) ⟨o.h,o.tl,o.tb,o.h0,o.h1⟩ 4 rfl rfl rfl rfl rfl rfl;have HJ:Hid (Pr ((w.setCell ⟨g,47,none⟩ (.int .i64 ((r.n:Int)+1))).setCell ⟨g,48,none⟩ (.int .u32 n)) base g { r with n:=r.n+1,here:=n } bf bt steps):=J2;have HF:Hid (Gc.Fr 206 base w ((w.setCell ⟨g,47,none⟩ (.int .i64 ((r.n:Int)+1))).setCell ⟨g,48,none⟩ (.int .u32 n))):=Gc.In.below I (((Ch.refl g w).setCell _ _).setCell _ _);generalize hrn:(r.n:Int)=rn at *
 have b0:0<=rn:=ab;have b1:rn<=1000000:=ab;generalize r.here=hh at *
 generalize({ r with n:=r.n+1,here:=n }:Rn)=r2 at *
 go_enter func171,ntmps171;go_wp2_with fail;go_end0;refine⟨rfl,HJ.of br,HF.trans (Gc.Fr.bD br HJ.ay)⟩
theorem Uy (I:Pr w base g r bf bt steps)(ho:r.out.length<=1000000)(op d a b n:Int)(h1:op=5):Calls prog 171 #[.pointer (some ⟨g,0,none⟩),.agg #[.int .i64 op,.int .i64 d,.int .i64 a,.int .i64 b,.int .u32 n]] w fun e w'=>e=.returned (.tuple #[])/\Pr w' base g (r.ev (bA r.h r.m)) bf bt steps/\Gc.Fr 206 base w w':=by
 subst h1;have L:Hid (∀W:World,Gr w W->Calls prog 181 #[.pointer (some ⟨g,0,none⟩)] W fun e w'=>e=.returned (.tuple #[])/\Pr w' base g (r.ev (bA r.h r.m)) bf bt steps/\Gc.Fr 206 base W w'):=fun W q=>by
  refine(Gc.tO (I.of q) ho).mono ?_;rintro e w' ⟨rfl,J2,C2⟩;refine⟨rfl,?_,C2⟩;have hs:(bA r.h r.m).av=[]/\(bA r.h r.m).m=r.m:=by unfold bA;split<;>(try split)<;>exact⟨rfl,rfl⟩
  unfold Pr Rn.ev;simp only[hs.1,hs.2,apz];exact J2
 have HB:=kH I.ay;generalize r.ev (bA r.h r.m)=r2 at *
 go_enter func171,ntmps171;go_wp2_with fail;refine(L _ b9).mono ?_;rintro e w2 ⟨rfl,J2,F2⟩;have HJ:=kH J2;have HF:=kH ((Gc.Fr.bD br HB).trans F2);go_wp2_with fail;go_end0;exact⟨rfl,HJ,HF⟩
theorem Oj (I:Pr w base g r bf bt steps)(op d a b n:Int)(h1:op=6):Calls prog 171 #[.pointer (some ⟨g,0,none⟩),.agg #[.int .i64 op,.int .i64 d,.int .i64 a,.int .i64 b,.int .u32 n]] w fun e w'=>e=.returned (.tuple #[])/\Pr w' base g { r with h:=r.h.trap 6 } bf bt steps/\Gc.Fr 206 base w w':=by
 subst h1;have L:Hid (∀W:World,Gr w W->Calls prog 134 #[.pointer (some ⟨g,0,none⟩),.int .i64 6] W fun e w'=>e=.returned (.tuple #[])/\Pr w' base g { r with h:=r.h.trap 6 } bf bt steps/\Gc.Fr 206 base W w'):=fun W q=>by
  have J:=I.of q;refine(Gc.dK J 6).mono ?_;rintro e w' ⟨rfl,J2,C2⟩;exact⟨rfl,J2,Gc.In.below J C2⟩
 have HB:=kH I.ay;generalize({ r with h:=r.h.trap 6 }:Rn)=r2 at *
 go_enter func171,ntmps171;go_wp2_with fail;refine(L _ b9).mono ?_;rintro e w2 ⟨rfl,J2,F2⟩;have HJ:=kH J2;have HF:=kH ((Gc.Fr.bD br HB).trans F2);go_wp2_with fail;go_end0;exact⟨rfl,HJ,HF⟩
theorem adQ (I:Pr w base g r bf bt steps)(o:r.Ok)(T:Gc.Ts w base)(hl:r.m.length<=140737488351232)(hss:r.av.length<=1000000){n:Int}(hi:0<=named op)(h1:¬op=1)(h3:¬op=3)(h4:¬op=4)(h5:¬op=5)(h6:¬op=6)(hd:0<=d/\d<36)(ha:0<=a/\a<36)(hb:0<=b/\b<36)(hn:Hh.W n):Calls prog 171 #[.pointer (some ⟨g,0,none⟩),.agg #[.int .i64 op,.int .i64 d,.int .i64 a,.int .i64 b,.int .u32 n]] w fun e w'=>e=.returned (.tuple #[])/\Pr w' base g ((r.ev (fK r ⟨op,d,a,b,n⟩)).iV d (fK r ⟨op,d,a,b,n⟩).res) bf bt steps/\Gc.Fr 206 base w w':=by
 have L:Hid (∀W:World,Gr w W->_):=fun W q=>oH (i:=⟨op,d,a,b,n⟩) (I.of q) o (Gc.nO T (aun q I.ay)) hl hss hi h1 h3 h4 h5 h6 ha hb hn
 have HW:Hid (∀x,(fK r ⟨op,d,a,b,n⟩).res=some x->Hh.W x):=fun x h=>Sb o hn h
 have HO:Hid (∀W:World,Pr W base g (r.ev (fK r ⟨op,d,a,b,n⟩)) bf bt steps->_):=fun W J=>ZY o J
 have HB:=kH I.ay;have b1:(op ==1)=false:=by simp[h1]
 have b5:(op ==5)=false:=by simp[h5]
 have b6:(op ==6)=false:=by simp[h6]
 generalize r.ev (fK r ⟨op,d,a,b,n⟩)=r2 at *
 generalize(fK r ⟨op,d,a,b,n⟩).res=x at *
 cases x with
 |none=>
  unfold bP at *
  simp only[Option.getD_none,Option.isSome_none]at *
  go_enter func171,ntmps171;go_wp2_with fail;refine(L _ b9).mono ?_;rintro e w2 ⟨rfl,J2,F2⟩;have HJ:=kH J2;have HF:=kH ((Gc.Fr.bD br HB).trans F2);go_wp2_with fail;go_end0;exact⟨rfl,HJ,HF⟩
 |some x=>
  have HWx:=kH (HW x rfl);unfold bP at *
  simp only[aqw,Option.isSome_some]at *
  go_enter func171,ntmps171;go_wp2_with fail;refine(L _ b9).mono ?_;rintro e w2 ⟨rfl,J2,F2⟩;have HJ:=kH J2;have HF:=kH ((Gc.Fr.bD br HB).trans F2);have k0:=(F2.keep _ _ _ _ (at5 w _) an an an).trans (at5 w _);have p1:w2.cell? ⟨w.heap.size,1,none⟩=some (.int .i64 d):=atZ _ _ _ _ _ _ k0;have Be:=kH (Ej J2 (HO _ J2) d x hd.1 hd.2 HWx);go_wp2_with fail;refine Be.mono ?_;rintro e w3 ⟨rfl,J3,C3⟩;have HJ3:=kH J3;have Jk:=kH (HF.trans (Gc.In.below HJ C3));go_wp2_with fail;go_end0;exact⟨rfl,HJ3,Jk⟩
theorem DU (I:Pr w base g r bf bt steps)(o:r.Ok)(T:Gc.Ts w base)(hl:r.m.length<=140737488351232)(hr:r.n<=1000000)(hos:r.out.length<=1000000)(hss:r.av.length<=1000000)(hi:0<=named i.op)(h3:¬i.op=3)(h4:¬i.op=4)(hd:0<=i.d/\i.d<36)(ha:0<=i.a/\i.a<36)(hb:0<=i.b/\i.b<36)(hn:Hh.W i.n):Calls prog 171 #[.pointer (some ⟨g,0,none⟩),.agg (sO i)] w fun e w'=>e=.returned (.tuple #[])/\Pr w' base g (fu r i) bf bt steps/\Gc.Fr 206 base w w':=by
 obtain⟨op,d,a,b,n⟩:=i;unfold fu sO;simp only at *
 by_cases h1:op=1
 ·rw[at7 h1];exact adP I o hr op d a b n h1
 rw[at6 h1];by_cases h5:op=5
 ·rw[at7 h5];exact Uy I hos op d a b n h5
 rw[at6 h5];by_cases h6:op=6
 ·rw[at7 h6];exact Oj I op d a b n h6
 rw[at6 h6];exact adQ I o T hl hss hi h1 h3 h4 h5 h6 hd ha hb hn
end Mp
namespace Mp
open Mm Hh Hc Mi
variable{i:Mv}{r:Rn}
theorem Pr.ahc (I:Pr w base g r bf bt steps)(ht:r.tm.length=4)(j:Nat):w.cell? ⟨g,44+j,none⟩=[Value.int .u32 bf,.int .u32 bt,.int .i64 steps,.int .i64 r.n,.int .u32 r.here][j]?:=by
 obtain⟨c,e,I⟩:=I;have h:(mg r bf bt steps)[4+j]?=[Value.int .u32 bf,.int .u32 bt,.int .i64 steps,.int .i64 r.n,.int .u32 r.here][j]?:=by
  unfold mg;rw[apv (by simp[ht])];simp[ht]
 have:=(I.rest (4+j)).trans h;rwa[show 40+(4+j)=44+j by omega]at this
theorem Gp (q:Rn)(d:Int)(x:Option Int):(q.iV d x).tm.length=q.tm.length/\(q.iV d x).over=q.over:=by
 cases x with
 |none=>exact⟨rfl,rfl⟩
 |some x=>show(q.put d x).tm.length=q.tm.length/\(q.put d x).over=q.over;unfold Rn.put;split<;>simp
theorem ZZ (o:r.Ok)(i:Mv):(fu r i).tm.length=4:=by
 unfold fu;split
 ·exact o.tl
 split
 ·exact o.tl
 split
 ·exact o.tl
 ·rw[(Gp _ _ _).1];exact o.tl
theorem Ol (r:Rn)(i:Mv):(fu r i).over=r.over:=by
 unfold fu;split
 ·rfl
 split
 ·rfl
 split
 ·rfl
 ·rw[(Gp _ _ _).2];rfl
theorem Z0 (hi:0<=named i.op)(hs:r.h.state=0)(hw:r.own=ownB bf bt r.av)(I:Pr w base g (QW bf bt steps r i) bf bt steps):Pr w base g (ja bf bt steps r i) bf bt steps:=by rw[<-FM hi hs hw];exact I
theorem Om (hi:0<=named i.op)(hs:r.h.state=0)(hw:r.own=ownB bf bt r.av):(ja bf bt steps r i).over=(QW bf bt steps r i).over:=by rw[<-FM hi hs hw]
theorem Oo (o:r.Ok)(hn:Hh.W i.n):Hh.W (fu r i).here:=by
 have e:∀(q:Rn) (d:Int) (x:Option Int),(q.iV d x).here=q.here:=fun q d x=>by
  cases x with
  |none=>rfl
  |some x=>show(q.put d x).here=q.here;unfold Rn.put;split<;>rfl
 unfold fu;split
 ·exact hn
 split
 ·exact⟨o.h0,o.h1⟩
 split
 ·exact⟨o.h0,o.h1⟩
 ·rw[e];exact⟨o.h0,o.h1⟩
theorem adR (o:r.Ok)(hn:Hh.W i.n):Hh.W (FJ r i):=by
 unfold FJ;split
 ·have:=W.lo (r.get i.a+i.n);unfold Hh.W at *
  omega
 ·exact hn
theorem EC (I:Pr w base g r bf bt steps)(G:Gd bf bt r)(T:Gc.Ts w base)(ho:r.over=false)(h0:r.n<=1000000)(h1:r.out.length<=1000000)(h2:r.av.length<=1000000)(hi:dZ i=true)(hn:Hh.W i.n):Calls prog 144 #[.pointer (some ⟨g,0,none⟩),.agg (sO i)] w fun e w'=>e=.returned (.bool (!(ja bf bt steps r i).over))/\Pr w' base g (ja bf bt steps r i) bf bt steps/\Below base w w':=by
 obtain⟨hnm,hd,ha,hb⟩:=Ai hi;have hs:=G.st ho;have Lv:Hid (∀W:World,Gr w W->_):=fun W q=>EA (I.of q) G.ok h2 hnm ha hb hn
 have HP:Hid (∀W:World,Pr W base g (QW bf bt steps r i) bf bt steps->_):=fun W J=>Z0 hnm hs G.own J
 have HO:Hid ((ja bf bt steps r i).over=(QW bf bt steps r i).over):=Om hnm hs G.own;have ZB:=kH I.ay;have HI:=kH I;have HWP:Hid _:=adR G.ok hn;have HWH:Hid _:=Oo G.ok hn;have zR:Hid _:=ZZ G.ok i;have hdo:=(Ol r i).trans ho;have fg:=I.lt;cases hB:vo bf bt steps r i with
 |true=>
  have HE:Hid _:=tY hB;rw[hB]at Lv;have Z5:=kH Lv;clear Lv hB hdo HWH hs hnm hd ha hb I T G;obtain⟨op,d,a,b,n⟩:=i;unfold sO at *
  simp only at *
  generalize FJ r ⟨op,d,a,b,n⟩=y at *
  go_enter func144,ntmps144;go_wp2_with fail;refine(Z5 _ b9).mono ?_;rintro e w1 ⟨rfl,G1⟩;have aU:Hid (Gr w w1):=Gr.trans b9 G1;have J:=HI.of aU;have Nf:=J.hart (j:=0) ab;have fz:=J.fz;have HJ:Hid _:=(J.Oc HWP).same r.own true;have HB:Hid (Below base w (w1.setCell ⟨g,32,none⟩ (.int .u32 y))):=(aun aU ZB).trans (((Ch.refl g w1).setCell _ _).below (by obtain⟨c,_,q⟩:=J;exact q.bg) J.ay);clear J G1 Z5;go_wp2_with fail;go_ret;refine⟨?_,HP _ (by rw[HE.out];exact HJ),HB⟩;rw[HO.out,HE.out];rfl
 |false=>
  have hop:¬i.op=3/\¬i.op=4:=by
   refine⟨fun q=>?_,fun q=>?_⟩
   ·unfold vo at hB;rw[ak,at7 q]at hB;cases hB
   ·unfold vo at hB;rw[ak,ak,at7 q]at hB;cases hB
  have Do:Hid (∀W:World,Gr w W->_):=fun W q=>DU (I.of q) G.ok (Gc.nO T (aun q I.ay)) (by have:=G.len;omega) h0 h1 h2 hnm hop.1 hop.2 hd ha hb hn
  rw[hB]at Lv;have Z5:=kH Lv;have ED:Hid ((fu r i).h.state=0->_):=fun q=>gK hB q
  have HE2:Hid (¬(fu r i).h.state=0->_):=fun q=>iW hB q
  clear Lv hB hs hnm hd ha hb I T G hop;obtain⟨op,d,a,b,n⟩:=i;unfold sO at *
  simp only at *
  generalize FJ r ⟨op,d,a,b,n⟩=y at *
  by_cases q:(fu r ⟨op,d,a,b,n⟩).h.state=0
  ·have HE:Hid _:=ED q;generalize fu r ⟨op,d,a,b,n⟩=r2 at *
   clear ED HE2;go_enter func144,ntmps144;go_wp2_with fail;refine(Z5 _ b9).mono ?_;rintro e w1 ⟨rfl,G1⟩;have aU:Hid (Gr w w1):=Gr.trans b9 G1;have k0:=Bk.dR G1 (at5 w _);have p0:w1.cell? ⟨w.heap.size,0,none⟩=some (.int .i64 op):=atZ _ _ _ _ _ _ k0;have p1:w1.cell? ⟨w.heap.size,1,none⟩=some (.int .i64 d):=atZ _ _ _ _ _ _ k0;have p2:w1.cell? ⟨w.heap.size,2,none⟩=some (.int .i64 a):=atZ _ _ _ _ _ _ k0;have p3:w1.cell? ⟨w.heap.size,3,none⟩=some (.int .i64 b):=atZ _ _ _ _ _ _ k0;have p4:w1.cell? ⟨w.heap.size,4,none⟩=some (.int .u32 n):=atZ _ _ _ _ _ _ k0;clear G1 Z5 k0;go_wp2_with fail;refine(Do _ aU).mono ?_;rintro e w2 ⟨rfl,J2,F2⟩;have HJ2:Hid _:=J2;have HB2:Hid _:=(aun aU ZB).trans F2.below;have QU:w2.cell? ⟨g,35,none⟩=some (.int .i64 0):=by rw[<-q];exact J2.hart (j:=3) ab
   clear J2 F2 Do p0 p1 p2 p3 p4 HI;go_wp2_with fail;go_ret;refine⟨?_,HP _ (by rw[HE.out];exact HJ2),HB2⟩;rw[HO.out,HE.out,hdo];rfl
  ·have HE:Hid _:=HE2 q;generalize fu r ⟨op,d,a,b,n⟩=r2 at *
   have bq:(r2.h.state !=0)=true:=by simp[q]
   clear ED HE2;go_enter func144,ntmps144;go_wp2_with fail;refine(Z5 _ b9).mono ?_;rintro e w1 ⟨rfl,G1⟩;have aU:Hid (Gr w w1):=Gr.trans b9 G1;have k0:=Bk.dR G1 (at5 w _);have p0:w1.cell? ⟨w.heap.size,0,none⟩=some (.int .i64 op):=atZ _ _ _ _ _ _ k0;have p1:w1.cell? ⟨w.heap.size,1,none⟩=some (.int .i64 d):=atZ _ _ _ _ _ _ k0;have p2:w1.cell? ⟨w.heap.size,2,none⟩=some (.int .i64 a):=atZ _ _ _ _ _ _ k0;have p3:w1.cell? ⟨w.heap.size,3,none⟩=some (.int .i64 b):=atZ _ _ _ _ _ _ k0;have p4:w1.cell? ⟨w.heap.size,4,none⟩=some (.int .u32 n):=atZ _ _ _ _ _ _ k0;clear G1 Z5 k0;go_wp2_with fail;refine(Do _ aU).mono ?_;rintro e w2 ⟨rfl,J2,F2⟩;have QU:=J2.hart (j:=3) ab;have Nf:=J2.hart (j:=0) ab;have k48:=J2.ahc zR 4;have fz:=J2.fz;have HJ2:Hid _:=(J2.Oc HWH).same r2.own true;have HB2:Hid (Below base w (w2.setCell ⟨g,32,none⟩ (.int .u32 r2.here))):=((aun aU ZB).trans F2.below).trans (((Ch.refl g w2).setCell _ _).below (by obtain⟨c,_,q⟩:=J2;exact q.bg) J2.ay);clear J2 F2 Do p0 p1 p2 p3 p4 HI q;go_wp2_with fail;go_ret;refine⟨?_,HP _ (by rw[HE.out];exact HJ2),HB2⟩;rw[HO.out,HE.out];rfl
end Mp
namespace Mp
open Mm Hh Hc Mi
theorem zb {w0:World}(cap:Nat){code:List Mv}(C:Cs w0 ao n code)(ze:nZ code=true){h:Hv}(oh:h.Ok)(hst:h.state=0)(hl:l.length<=4096)(T:Gc.Ts w0 w0.heap.size)(I:Pr w w0.heap.size g (mstart h l) bf bt steps)(G:Gr w0 w):Calls prog 115 #[.pointer (some ⟨g,0,none⟩),.slice ao n cap] w fun e w'=>e=.returned (.tuple #[])/\Pr w' w0.heap.size g (dC bf bt steps h l code) bf bt steps/\Gr w0 w':=by
 have HL:Hid (code.length=n):=C.len;have HC:=kH C;have HT:=kH T;have Xm:n<=200/\code.all dZ=true:=by
  unfold nZ at ze;rw[HL.out]at ze;simpa using ze
 have hn:=Xm.1;have HA:Hid (∀i∈code,_):=fun i hi=>apM.1 Xm.2 i hi
 have gp:Hid (∀j,Gd bf bt (bB bf bt steps (mstart h l) (code.take j))):=fun j=>Gd.bB (Gd.start oh hst hl) C.wn j
 have HBd:Hid (∀j,(bB bf bt steps (mstart h l) (code.take j)).av.length<=j/\(bB bf bt steps (mstart h l) (code.take j)).out.length<=j/\(bB bf bt steps (mstart h l) (code.take j)).n<=j):=fun j=>by
  obtain⟨_,a,b,c⟩:=FI bf bt steps (mstart h l) code j;have e1:(mstart h l).av.length=0:=rfl;have e2:(mstart h l).out.length=0:=rfl;have e3:(mstart h l).n=0:=rfl;omega
 have HTk:Hid (∀j i,code[j]?=some i->(bB bf bt steps (mstart h l) (code.take j)).over=false->_):=fun j i hi ho=>qG bf bt steps hi ho
 have HDn:Hid (∀j,(bB bf bt steps (mstart h l) (code.take j)).over=true\/j=n->dC bf bt steps h l code=mend (bB bf bt steps (mstart h l) (code.take j))):=fun j hj=>by
  unfold dC;rcases hj with hj|hj
  ·rw[IA bf bt steps hj]
  ·rw[hj,<-HL.out,ap9]
 have HI:Hid (Pr w w0.heap.size g (bB bf bt steps (mstart h l) (code.take 0)) bf bt steps):=I;have HG:Hid (Gr w0 w):=G;have HO0:Hid ((bB bf bt steps (mstart h l) (code.take 0)).over=false):=rfl;generalize hR:(fun j=>bB bf bt steps (mstart h l) (code.take j))=R at *
 have eR:∀j,bB bf bt steps (mstart h l) (code.take j)=R j:=fun j=>by rw[<-hR]
 simp only[eR]at *
 clear hR eR;generalize dC bf bt steps h l code=MP at *
 go_enter func115,ntmps115;go_wp2_with fail;go_loopw [8] (fun i wr=>∃j:Nat,j<=n/\i=.int .i64 j/\(R j).over=false/\Pr wr w0.heap.size g (R j) bf bt steps/\Gr w0 wr) (fun i _=>n-(intOf i).toNat)
 case atStart=>exact⟨0,apF _,rfl,HO0,HI,HG⟩
 case round=>
  obtain⟨j,hj,rfl,hov,hI,hG⟩:=hrel;have HOv:=kH hov;have Uz:=kH hI;have HGj:=kH hG;by_cases hlt:j<n
  ·obtain⟨c,hc⟩:∃c,code[j]?=some c:=⟨_,api (by rw[HL.out];exact hlt)⟩;obtain⟨b,o,rfl,hb,hcell⟩:=(HC.of HGj).spot ab;obtain⟨p0,p1,p2,p3,p4⟩:=hcell j c hc;have hmem:=aps hc;have bd:=HBd j;have Gs:Hid (∀W:World,Gr wr W->Calls prog 144 #[.pointer (some ⟨g,0,none⟩),.agg (sO c)] W fun e w'=>e=.returned (.bool (!(R (j+1)).over))/\Pr w' w0.heap.size g (R (j+1)) bf bt steps/\Gr w0 w'):=fun W q=>by
    rw[HTk.out j c hc HOv.out];refine(EC (Uz.of q) (gp j) (Gc.nO HT (HGj.trans q)) HOv ab ab ab (HA c hmem) (HC.wn c hmem)).mono ?_;rintro e w' ⟨rfl,J,B⟩;exact⟨rfl,J,auI (HGj.trans q) B⟩
   have HDj:Hid ((R (j+1)).over=true->_):=fun h=>HDn (j+1) (.inl h)
   obtain⟨op,d,a,b2,nn⟩:=c;unfold sO at Gs;simp only at *
   generalize hr:R (j+1)=r2 at *
   cases Oq:r2.over with
   |true=>
    have HE:Hid (MP=r2):=by
     unfold Hid;rw[HDj.out Oq];unfold mend;rw[at6 (by simp[Oq])]
    rw[Oq]at Gs;simp only[Bool.not_true]at Gs;go_wp2_with fail;refine(Gs _ br).mono ?_;rintro e w1 ⟨rfl,J1,G1⟩;have HJ1:=kH J1;have aU:=kH G1;go_wp2_with fail;refine auc (auV results115 _ _ _) rfl ?_;exact⟨rfl,by rw[HE.out];exact HJ1,aU⟩
   |false=>
    have ahf:Hid ((R (j+1)).over=false):=by unfold Hid;rw[hr];exact Oq
    rw[Oq]at Gs;simp only[Bool.not_false]at Gs;rw[<-hr]at Gs;have Gs2:=kH Gs;go_wp2_with fail;refine(Gs2 _ br).mono ?_;rintro e w1 ⟨rfl,J1,G1⟩;have HJ1:=kH J1;have aU:=kH G1;go_wp2_with fail;go_roundw
    case rel=>exact⟨j+1,ab,by go_num,ahf,HJ1,aU⟩
    case measure=>simp[intOf];omega
  ·have ej:j=n:=ab;have HE0:=kH (HDn j (.inr ej));have okj:=(gp j).ok;have bd:=(HBd j).2.2;have k47:=Uz.Oa okj 3;have k48:=Uz.Oa okj 4;have Nf:=Uz.hart (j:=0) ab;have fz:=Uz.fz;have wp:=W.lo ((R j).here+4);have HJ:=kH (Uz.Oc wp);have HB:Hid (Gr w0 (wr.setCell ⟨g,32,none⟩ (.int .u32 (Wd.lo ((R j).here+4))))):=auI HGj (((Ch.refl g wr).setCell _ _).below (by obtain⟨c,_,q⟩:=Uz;exact q.bg) Uz.ay);have h48:=okj.h0;have h49:=okj.h1;generalize R j=rj at *
   by_cases hz:rj.n=0
   ·have HE:Hid (MP=rj):=by
     unfold Hid;rw[HE0.out];unfold mend;rw[at6 (by simp[hz])]
    have hz2:(rj.n:Int)=0:=ab;go_wp2_with fail;go_end0;exact⟨rfl,by rw[HE.out];exact Uz,HGj⟩
   ·have HE:Hid (MP={ rj with h:=rj.h.go (Wd.lo (rj.here+4)) }):=by
     unfold Hid;rw[HE0.out];unfold mend;rw[at7 ⟨HOv.out,ab⟩]
    have hz2:0<(rj.n:Int):=ab;go_wp2_with fail;go_end0;exact⟨rfl,by rw[HE.out];exact HJ,HB⟩
end Mp
namespace Mp
open Mm Hh Hc Mi
variable{fs:Array Field}{c:Cv}
def jQ (off:Nat) (v cs:Array Value):Array Value:=v.zipIdx.foldl (fun cs (x:Value×Nat)=>cs.setIfInBounds (off+x.2) x.1) cs
theorem aV (off:Nat)(v cs:Array Value):(jQ off v cs).size=cs.size:=(iA off v cs).1
theorem gq (off:Nat)(v cs:Array Value)(k:Nat):(jQ off v cs)[k]?=if off<=k/\k<off+v.size/\k<cs.size then v[k-off]? else cs[k]?:=(iA off v cs).2 k
theorem fq {place:Nat->Option (Nat×Nat)}{off n:Nat}(A:Array Value)(hA:v.cells=A)(hp:place i=some (off,n))(hv:A.size=n)(hb:off+n<=cells.size):Instr.fill place cells ((i,v)::rest)=Instr.fill place (jQ off A cells) rest:=by rw[Instr.fill];simp only[hp];rw[hA,at6 (by simp[hv];omega)];rfl
theorem zg (o:c.h.Ok)(rs:List Value):(Gc.cB c rs).size=40+rs.length:=by simp[Gc.cB,aD o];omega
theorem qh {r:Rn}(ht:r.tm.length=4)(bf bt steps:Int):(mg r bf bt steps).length=9:=by simp[mg,ht]
theorem UA:(prog.info? 206).bind (·.zero)=some (.agg (Gc.cB ⟨h0,ax,ax,ax⟩ (mg (mstart h0 []) 0 0 0))):=al
theorem zh:(prog.info? 206).map (·.size)=some 49:=al
theorem Z9 (o:c.h.Ok)(hk:k<40):(Gc.cB c rs)[k]?=(cA c)[k]?:=by
 have hl:=aD o;show(hL c.h++([c.m,c.out,c.av]++rs)).toArray[k]?=(hL c.h++[c.m,c.out,c.av]).toArray[k]?
 rw[apm,apm,<-aqa,apA aE]
theorem aaa {t:TypeId}{it:TypeInfo}{ps:List (Nat×Nat)}(hi:P.info? t=some it)(hu:P.underlying t=some (.struct fs))(hz:it.zero=some z)(hp:fs.toList.mapM (fun f=>(P.info? f.type).map fun i=>(f.offset,i.size))=some ps){n p m q s:Nat}(p0:ps.toArray[0]?=some (0,n))(p2:ps.toArray[2]?=some (p,m))(p3:ps.toArray[3]?=some (q,1))(p5:ps.toArray[5]?=some (s,1))(A B:Array Value)(x y:Value)(hA:A.size=n)(hB:B.size=m)(hx:x.cells=#[x])(hy:y.cells=#[y])(b0:n<=z.cells.size)(b2:p+m<=z.cells.size)(b3:q+1<=z.cells.size)(b5:s+1<=z.cells.size):P.built t [(0,.agg A),(2,.agg B),(3,x),(5,y)]=some (jQ s #[y] (jQ q #[x] (jQ p B (jQ 0 A z.cells)))):=by unfold Program.built;simp only[hi,hu,hz,hp];rw[fq (off:=0) (n:=n) A rfl p0 hA ab];rw[fq (off:=p) (n:=m) B rfl p2 hB (by rw[aV];omega)];rw[fq (off:=q) (n:=1) #[x] hx p3 rfl (by rw[aV,aV];omega)];rw[fq (off:=s) (n:=1) #[y] hy p5 rfl (by rw[aV,aV,aV];omega)];rw[Instr.fill]
theorem aab {t:TypeId}{it:TypeInfo}{ps:List (Nat×Nat)}(hi:P.info? t=some it)(hu:P.underlying t=some (.struct fs))(hz:it.zero=some z)(hp:fs.toList.mapM (fun f=>(P.info? f.type).map fun i=>(f.offset,i.size))=some ps){n o1 o2 o3 o4:Nat}(p0:ps.toArray[0]?=some (0,n))(p1:ps.toArray[1]?=some (o1,1))(p2:ps.toArray[2]?=some (o2,1))(p3:ps.toArray[3]?=some (o3,1))(p4:ps.toArray[4]?=some (o4,1))(A:Array Value)(x1 x2 x3 x4:Value)(hA:A.size=n)(h1:x1.cells=#[x1])(h2:x2.cells=#[x2])(h3:x3.cells=#[x3])(h4:x4.cells=#[x4])(b0:n<=z.cells.size)(b1:o1+1<=z.cells.size)(b2:o2+1<=z.cells.size)(b3:o3+1<=z.cells.size)(b4:o4+1<=z.cells.size):P.built t [(0,.agg A),(1,x1),(2,x2),(3,x3),(4,x4)]=some (jQ o4 #[x4] (jQ o3 #[x3] (jQ o2 #[x2] (jQ o1 #[x1] (jQ 0 A z.cells))))):=by unfold Program.built;simp only[hi,hu,hz,hp];rw[fq (off:=0) (n:=n) A rfl p0 hA ab];rw[fq (off:=o1) (n:=1) #[x1] h1 p1 rfl (by rw[aV];omega)];rw[fq (off:=o2) (n:=1) #[x2] h2 p2 rfl (by rw[aV,aV];omega)];rw[fq (off:=o3) (n:=1) #[x3] h3 p3 rfl (by rw[aV,aV,aV];omega)];rw[fq (off:=o4) (n:=1) #[x4] h4 p4 rfl (by rw[aV,aV,aV,aV];omega)];rw[Instr.fill]
theorem zi {c:Cv}(o:c.h.Ok)(hh:Hv)(l:List UInt8)(bf bt steps:Int):prog.built 206 [(0,.agg (cA c)),(2,.agg #[.int .u32 bf,.int .u32 bt]),(3,.int .i64 steps),(5,.int .u32 hh.pc)]=some (Gc.cB c (mg (mstart hh l) bf bt steps)):=by
 obtain⟨it,hi,hz⟩:=ko UA;have hs0:(Gc.cB ⟨h0,ax,ax,ax⟩ (mg (mstart h0 []) 0 0 0)).size=49:=by rw[zg iO,qh rfl]
 refine auT (aaa (ps:=[(0,40),(40,4),(44,2),(46,1),(47,1),(48,1)]) (n:=40) (p:=44) (m:=2) (q:=46) (s:=48) hi underlying206 hz al rfl rfl rfl rfl (cA c) #[.int .u32 bf,.int .u32 bt] (.int .i64 steps) (.int .u32 hh.pc) (jD o) rfl rfl rfl (by show 40<=(Gc.cB _ _).size;rw[hs0];omega) (by show 44+2<=(Gc.cB _ _).size;rw[hs0];omega) (by show 46+1<=(Gc.cB _ _).size;rw[hs0];omega) (by show 48+1<=(Gc.cB _ _).size;rw[hs0];omega)) ?_;show some (jQ 48 _ (jQ 46 _ (jQ 44 _ (jQ 0 _ (Gc.cB ⟨h0,ax,ax,ax⟩ (mg (mstart h0 []) 0 0 0))))))=_
 have hr0:∀j,(Gc.cB ⟨h0,ax,ax,ax⟩ (mg (mstart h0 []) 0 0 0))[40+j]?=(mg (mstart h0 []) 0 0 0)[j]?:=fun j=>Gc.yX iO j
 generalize Gc.cB ⟨h0,ax,ax,ax⟩ (mg (mstart h0 []) 0 0 0)=Z at *
 refine congrArg some ?_;apply aqC;intro k;have z2:(#[.int .u32 bf,.int .u32 bt]:Array Value).size=2:=rfl;have z1:∀v:Value,(#[v]:Array Value).size=1:=fun _=>rfl
 rw[gq,gq,gq,gq,aV,aV,aV,hs0,z2,z1,z1,jD o];by_cases QT:k<40
 ·rw[ak,ak,ak,dU,Z9 o QT];rfl
 ·obtain⟨j,rfl⟩:∃j,k=40+j:=⟨k-40,ab⟩;rw[Gc.yX o,hr0];by_cases h9:j<9
  ·have:j=0\/j=1\/j=2\/j=3\/j=4\/j=5\/j=6\/j=7\/j=8:=ab;rcases this with rfl|rfl|rfl|rfl|rfl|rfl|rfl|rfl|rfl<;>rfl
  ·rw[ak,ak,ak,ak,aqf (by rw[qh rfl];omega),aqf (by rw[qh rfl];omega)]
theorem oI {h:Hv}(o:h.Ok)(M O S:Value)(n:Int)(hM:M.cells=#[M])(hO:O.cells=#[O])(hS:S.cells=#[S]):prog.built 142 [(0,.agg (hA h)),(1,M),(2,O),(3,.int .i64 n),(4,S)]=some (gA h M O n S):=by
 obtain⟨it,hi,hz⟩:=ko adN;have hs0:(gA h0 ax ax 0 ax).size=41:=Gn iO _ _ _ _;refine auT (aab (ps:=[(0,37),(37,1),(38,1),(39,1),(40,1)]) (n:=37) (o1:=37) (o2:=38) (o3:=39) (o4:=40) hi underlying142 hz al rfl rfl rfl rfl rfl (hA h) M O (.int .i64 n) S (jC o) hM hO rfl hS (by show 37<=(gA _ _ _ _ _).size;rw[hs0];omega) (by show 37+1<=(gA _ _ _ _ _).size;rw[hs0];omega) (by show 38+1<=(gA _ _ _ _ _).size;rw[hs0];omega) (by show 39+1<=(gA _ _ _ _ _).size;rw[hs0];omega) (by show 40+1<=(gA _ _ _ _ _).size;rw[hs0];omega)) ?_;show some (jQ 40 _ (jQ 39 _ (jQ 38 _ (jQ 37 _ (jQ 0 _ (gA h0 ax ax 0 ax))))))=_
 have hr0:∀j,(gA h0 ax ax 0 ax)[37+j]?=[ax,ax,Value.int .i64 0,ax][j]?:=fun j=>Oe iO j
 generalize gA h0 ax ax 0 ax=Z at *
 refine congrArg some ?_;apply aqC;intro k;have z1:∀v:Value,(#[v]:Array Value).size=1:=fun _=>rfl
 rw[gq,gq,gq,gq,gq,aV,aV,aV,aV,hs0,z1,z1,z1,z1,jC o];by_cases h37:k<37
 ·have hk:(gA h M O n S)[k]?=(hL h)[k]?:=by
   have hl:=aD o;unfold gA gL;rw[apm,apA ab]
  rw[ak,ak,ak,ak,dU,hk];unfold hA;rw[apm];rfl
 ·obtain⟨j,rfl⟩:∃j,k=37+j:=⟨k-37,ab⟩;rw[Oe o,hr0];by_cases h4:j<4
  ·have:j=0\/j=1\/j=2\/j=3:=ab;rcases this with rfl|rfl|rfl|rfl<;>rfl
  ·rw[ak,ak,ak,ak,ak,aqf aE,aqf aE]
end Mp
namespace Mp
open Mm Hh Hc Mi
theorem jo {A B Z:Array Value}{t u s:Nat}(g:Gr (((w.alloc (.cells A t)).alloc (.cells B u)).alloc (.cells Z s)) w'):w'.heap[w.heap.size]?=some (.cells A t (0,0))/\w'.heap[w.heap.size+1]?=some (.cells B u (0,0))/\w'.heap[w.heap.size+1+1]?=some (.cells Z s (0,0)):=by
 refine⟨Bk.dR g (Bk.dR (br.alloc _) (at5 w _)),Bk.dR g (Bk.dR br ?_),Bk.dR g ?_⟩
 ·have:=at5 (w.alloc (.cells A t)) (.cells B u);simpa using this
 ·have:=at5 ((w.alloc (.cells A t)).alloc (.cells B u)) (.cells Z s);simpa using this
theorem Ot (c:Cv)(r:Rn)(bf bt steps:Int)(h1:c.m.oneCell'=true)(h2:c.out.oneCell'=true)(h3:c.av.oneCell'=true):(Gc.cB c (mg r bf bt steps)).all (·.oneCell')=true:=by refine auE ?_;intro v hv;simp only[hL,mg,apR,apK,apx,apB,auw]at hv;rcases hv with(⟨n,_,rfl⟩|rfl|rfl|rfl|rfl|rfl)|(rfl|rfl|rfl)|⟨n,_,rfl⟩|rfl|rfl|rfl|rfl|rfl<;>first|rfl|assumption
theorem vP {h hc:Hv}(o:h.Ok)(oc:hc.Ok){cap:Nat}(l:List UInt8)(bf bt steps:Int){PV:World→Value→Prop}(st:∀(W W':World) (v:Value),PV W v->(∀(k:Nat) (c:Array Value) (f:Nat×Nat),W.heap[k]?=some (.cells c 5 f)->W'.heap[k]?=W.heap[k]?)->PV W' v)(one:∀W v,PV W v->v.cells=#[v]/\v.oneCell'=true)(NC:∀W:World,Gr w W->Calls prog 143 #[.agg (hA h),.slice ao n cap] W fun e w'=>∃v,e=.returned (.tuple #[.agg (cA ⟨hc,v,ax,ax⟩),.bool ok])/\PV w' v/\Gr W w'):Calls prog 114 #[.agg (hA h),.slice ao n cap,.agg #[.int .u32 bf,.int .u32 bt],.int .i64 steps] w fun e w'=>∃v,e=.returned (.tuple #[.agg (Gc.cB ⟨hc,v,ax,ax⟩ (mg (mstart h l) bf bt steps)),.bool ok])/\PV w' v/\Gr w w':=by
 have HN:Hid (∀W:World,Gr w W->Calls prog 143 #[.agg (hA h),.slice ao n cap] W fun e w'=>∃v,e=.returned (.tuple #[.agg (cA ⟨hc,v,ax,ax⟩),.bool ok])/\PV w' v/\Gr W w'):=NC;have Na:Hid (∀v,prog.built 206 [(0,.agg (cA ⟨hc,v,ax,ax⟩)),(2,.agg #[.int .u32 bf,.int .u32 bt]),(3,.int .i64 steps),(5,.int .u32 h.pc)]=some (Gc.cB ⟨hc,v,ax,ax⟩ (mg (mstart h l) bf bt steps))):=fun v=>zi (c:=⟨hc,v,ax,ax⟩) oc h l bf bt steps
 have HS:=kH (jC o);have h32:(hA h)[32]?=some (.int .u32 h.pc):=by unfold hA;rw[apm];exact aW o 0
 have HA1:Hid (∀v,(cA ⟨hc,v,ax,ax⟩).size=40):=fun v=>jD oc
 have TM:Hid (∀v:Value,v.oneCell'=true->(cA ⟨hc,v,ax,ax⟩).all (·.oneCell')=true):=fun v hv=>yC _ hv rfl rfl
 have HR1:Hid (∀v,(Gc.cB ⟨hc,v,ax,ax⟩ (mg (mstart h l) bf bt steps)).size=49):=fun v=>by rw[zg oc,qh rfl]
 have Xn:Hid (∀v:Value,v.oneCell'=true->(Gc.cB ⟨hc,v,ax,ax⟩ (mg (mstart h l) bf bt steps)).all (·.oneCell')=true):=fun v hv=>Ot _ _ _ _ _ hv rfl rfl
 have QY:=kH st;have HOn:=kH one;generalize hA h=H0 at *
 generalize h.pc=pc at *
 go_enter func114,ntmps114;go_wp2_with (refine auL rfl 43 _ rfl w.heap.size rfl 43 H0 (0,0) _ ?lh1 underlying43 rfl (by rw[HS.out];exact Mc.iH) ?_;(case lh1=>exact Bk.dR (br.alloc _) (at5 w _)));refine(HN _ ((br.alloc _).alloc _)).mono ?_;rintro e w1 ⟨v,rfl,hv,G1⟩;obtain⟨b0,b1,b2⟩:=jo G1;have aU:=kH (((br.alloc _).alloc _).trans G1);have HPV:=kH hv;have HV1:=kH ((HOn _ _ hv).2);have ahh:=Na v;have HA2:=kH (HA1 v);have kY:=kH (TM v HV1);have HR2:=kH (HR1 v);have aac:=kH (Xn v HV1);have HBZ:Hid (∃Z:Array Value,Z.size=49/\w1.heap[w.heap.size+1+1]?=some (.cells Z 206 (0,0))):=⟨_,rfl,b2⟩;have hlt:=(apk.1 b2).1;obtain⟨Z,hz,hZ⟩:=HBZ;have HZ:=kH hZ;have HZs:=kH hz;have HB0:=kH b0;have HB1:=kH b1;have HBx:=kH ahh;generalize hR1:Gc.cB ⟨hc,v,ax,ax⟩ (mg (mstart h l) bf bt steps)=R1 at *
 have HRe:=kH hR1;generalize cA ⟨hc,v,ax,ax⟩=A1 at *
 have HX:Hid (∀Y:Array Value,Gr w1 ((w1.alloc (.cells Y 197)).setRow w1.heap.size A1)):=fun Y=>ag br (apn _) _
 have kL:Hid (∀Y:Array Value,((w1.alloc (.cells Y 197)).setRow w1.heap.size A1).heap[w1.heap.size]?=some (.cells A1 197 (0,0))):=fun Y=>aup _ _ _ _ _ (0,0) (at5 w1 _)
 have q0:∀Y:Array Value,((w1.alloc (.cells Y 197)).setRow w1.heap.size A1).cell? ⟨w.heap.size+1,0,none⟩=some (.int .u32 bf):=fun Y=>atZ _ _ _ _ _ _ (Bk.dR (HX Y) HB1)
 have q1:∀Y:Array Value,((w1.alloc (.cells Y 197)).setRow w1.heap.size A1).cell? ⟨w.heap.size+1,1,none⟩=some (.int .u32 bt):=fun Y=>atZ _ _ _ _ _ _ (Bk.dR (HX Y) HB1)
 have q2:∀Y:Array Value,((w1.alloc (.cells Y 197)).setRow w1.heap.size A1).cell? ⟨w.heap.size,32,none⟩=some (.int .u32 pc):=fun Y=>(atZ _ _ _ _ _ _ (Bk.dR (HX Y) HB0)).trans h32
 go_wp2_with (first
  |(refine auf rfl 197 _ _ rfl w1.heap.size A1 rfl rfl 197 _ (at5 w1 _) (by rw[HA2.out];exact iC) (by rw[HA2.out];rfl) kY ?_)
  |(refine auL rfl 197 _ rfl w1.heap.size rfl 197 A1 (0,0) _ ?lh2 underlying197 rfl (by rw[HA2.out];exact iC) ?_;(case lh2=>exact kL _))
  |(refine au9 rfl 206 _ rfl _ rfl R1 (by have:=HBx;simp[Act.eval,Act.put];exact this) ?_)
  |(refine auf rfl 206 _ _ rfl (w.heap.size+1+1) R1 rfl rfl 206 Z ?sr1 (by rw[HR2.out];exact zh) (by rw[HR2.out];exact HZs) aac ?_;(case sr1=>exact Bk.dR (HX _) HZ)))
 refine auc (v:=.tuple #[.agg R1,.bool ok]) (Hr.aI results114 _ _ _ _ _ (0,0) _ _ rfl rfl (aup _ _ _ _ _ (0,0) (Bk.dR (HX _) HZ)) underlying206 rfl (by rw[HR2.out];exact zh)) rfl ⟨v,by rw[HRe.out],?_,?_⟩
 ·refine QY _ _ v HPV fun k c f hk=>?_
  exact(auo _ _ _ _ (aa hk HZ an)).trans ((HX _).block k (apk.1 hk).1)
 ·exact ag (aU.trans (HX _)) ab _
end Mp
end Go.Proofs.YtiadhbmnfjfioaaGreatDoor
