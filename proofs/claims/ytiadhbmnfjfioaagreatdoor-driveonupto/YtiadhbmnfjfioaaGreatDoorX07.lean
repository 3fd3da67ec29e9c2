/- ours -/
import Derived.Test.YtiadhbmnfjfioaaGreatDoorX06
set_option linter.unusedVariables false
set_option linter.unusedSimpArgs false
set_option maxHeartbeats 8000000
set_option maxRecDepth 100000
set_option linter.unusedSectionVars false
namespace Go.Proofs.YtiadhbmnfjfioaaGreatDoor
open Go.Proofs.Tryz hiding cs d0 d1 t0 t1 t2
open Go.ChangeShapes Go.WideShapes Go.ChangeAt Go.RowKit
variable{a:Act}{ops:Array Oper}{Y:Array Value}{t:Int}{rest:List Oper}{xs cs ys:List Value}{c vn vc k sz j base g cap K n cn iK lo' n' cap':Nat}{f:Nat×Nat}{o:Oper}{va ao ca a':Option Addr}{v u:Value}{w w':World}
variable [Inhabited Hc.bN]
namespace Kc
open Mm Ts Hc
variable{w w':World}{ao:Option Addr}{n m base e bytes:Nat}{vx z:Value}{news:List Value}{P:Program}{i:TypeInfo}{t:TypeId}
theorem NF:(prog.info? 59).map (fun i=>(i.zero,i.size,i.bytes))=some (some (.agg #[.int .i64 0,.int .i64 0,.int .i64 0,.int .i64 0,.int .i32 0]),5,40):=al
theorem iBk:(prog.info? 64).map (·.size)=some 2:=al
def Sc (w:World) (vx:Value) (m:Nat) (news:List Value):Prop:=(∃x c,vx=.slice x 0 c/\m=0/\news=[])\/∃ad c,vx=.slice (some ad) m c/\news.length=m*5/\∀j u,news[j]?=some u->w.cell? (ad.add j)=some u
theorem adt {is:List Iv}(h:Is w ao n is):Sc w (.slice ao n c) n (QV is):=by
 have hl:=h.len;by_cases hn:0<n
 ·obtain⟨b,o,rfl,hb,hc⟩:=h.spot hn;refine .inr ⟨_,c,rfl,by rw[FC,hl],fun j u hj=>?_⟩;have hlt:=(apj.1 hj).1;rw[FC]at hlt;obtain⟨i,hi⟩:∃i,is[j/5]?=some i:=⟨_,api ab⟩;have q:=ym is (j/5) (j%5) i hi ab;rw[show j/5*5+j%5=j by omega,hj]at q;obtain⟨h0,h1,h2,h3,h4⟩:=hc _ i hi;rw[cz];have hm:j%5<5:=ab;generalize hr:j%5=r at *
  have ej:j=j/5*5+r:=ab
  match r,hm,q,ej with
  |0,_,q,ej=>rw[ej,show o+(j/5*5+0)=o+j/5*5 by omega,h0];exact q.symm
  |1,_,q,ej=>rw[ej,<-aqU,h1];exact q.symm
  |2,_,q,ej=>rw[ej,<-aqU,h2];exact q.symm
  |3,_,q,ej=>rw[ej,<-aqU,h3];exact q.symm
  |4,_,q,ej=>rw[ej,<-aqU,h4];exact q.symm
  |r+5,hm,_,_=>exact absurd hm ab
 ·have e:n=0:=ab;subst e;have e2:=apX hl;subst e2;exact .inl ⟨ao,c,rfl,rfl,rfl⟩
theorem Sc.gr (h:Sc w vx m news)(G:Gr w w'):Sc w' vx m news:=by
 rcases h with h|⟨ad,c,e,hl,hc⟩
 ·exact .inl h
 ·exact .inr ⟨ad,c,e,hl,fun j u hj=>(G.cell _ (aug w _ (hc j u hj))).trans (hc j u hj)⟩
theorem vO (ty : TypeId)(h1 :P.underlying t =some (.slice e)) (h2 :P.info? e =some i) (h3 :i.zero =some z) (h4 :i.size =5) (h5 :i.bytes =bytes) (h6 :z.cells.size =5)(hsrc :Sc w vx m news) (h1c : ∀ u ∈ news, u.oneCell' =true) (b1 :m <= maxLen) (b2 :m * bytes <= 140737488355328) (hbase :base <= w.heap.size) :∃ v' w', (Builtin.append_ #[t, t] ty #[.slice none 0 0, vx]).run P w = .ok v' w' /\ w'.ownsRow base e 5 v' m news /\ w.grownBy w' none :=by
  rcases hsrc with⟨x, c, rfl, rfl, rfl⟩ |⟨ad, c, rfl, hl, hc⟩
  · refine ⟨.slice none 0 0, w, ?_, aur w base e 5, ⟨rfl, rfl, rfl, apn _, fun _ _ _ => rfl⟩⟩
    cases x <;> simp[Builtin.append_, run_underlying h1, sizeOf, typeInfo, h2, Builtin.lenOf, Builtin.firstCells, loadCells, loadCellsFrom]
  · obtain ⟨v', w', hrun, r1, r2, _⟩ := au6 (P := P) w base t ty e i z 5 bytes h1 h2 h3 h4 h5 h6 an (.slice none 0 0) 0 [] (aur w base e 5) ad m c news hl hc h1c ab (by rw [apu]; exact b2) hbase
    exact⟨v', w', hrun, by simpa using r1, r2⟩
theorem qV {Q : Exit → Act → World → Prop}(hg :o.guard =none) (s x :Operand) (hop :o.op =Op.call { callee :=Callee.builtin Builtin.append, args := #[s, x], argTypes := #[t, t] })(h1 :P.underlying t =some (.slice e)) (h2 :P.info? e =some i) (h3 :i.zero =some z) (h4 :i.size =5) (h5 :i.bytes =bytes) (h6 :z.cells.size =5)(hs : a.eval s = .slice none 0 0) (hx : a.eval x = vx) (hsrc : Sc w vx m news) (h1c : ∀ u ∈ news, u.oneCell' = true) (b1 : m ≤ maxLen) (b2 : m * bytes ≤ 140737488355328) (hbase : base ≤ w.heap.size)(hK : ∀ v' w', w'.ownsRow base e 5 v' m news -> w.grownBy w' none -> wpList P ops Q rest (a.put o.dst v') w') :wpList P ops Q (o ::rest) a w :=by
  refine au5 hg fun K hk => ?_
  obtain⟨v', w', hrun, r1, r2⟩ :=vO (P :=P) o.type h1 h2 h3 h4 h5 h6 hsrc h1c b1 b2 hbase;unfold Oper.wp;simp[execOp, hop, resolve, invoke, builtin, hs, hx, hrun, Result.andThen];exact hk _ _ (hK v' w' r1 r2)
theorem F8 (h:w.grownBy w' none):Gr w w':=Gr.grown (Gr.refl w) h (fun k e=>by cases e)
theorem qW {b:Bv}(hb:Bc w b (.int .u32 b.pc) (.slice va vn vc)):Calls prog 138 #[.agg #[.int .u32 b.pc,.slice va vn vc]] w fun e w'=>∃v,e=.returned (.agg #[.int .u32 b.pc,v])/\Io w' w.heap.size v b.is/\Gr w w':=by
 obtain⟨_,_,sa,sn,sc,e2,I,hsz⟩:=hb;injection e2 with q1 q2 q3;subst q1;subst q2;subst q3;have hbl:b.is.length*40<=140737488351232:=by rw[I.len];exact hsz
 have HS:Hid (Sc w (.slice va vn vc) vn (QV b.is)):=adt I;have HL:Hid _:=I.len;obtain⟨i0,hi,hz0,hz1,hz2⟩:=auz NF;clear I hbl;generalize b.pc=x at *
 go_enter func138,ntmps138;go_wp2_with (at_builtin;refine qV (base:=w.heap.size) rfl _ _ rfl underlying62 hi hz0 hz1 hz2 rfl rfl rfl (HS.gr (((Gr.refl w).alloc _).alloc _)) (R6 _) bj ab aE ?_);intro v' w' hown hgrow;have G2:=F8 hgrow;have HIo:Hid (Io w' w.heap.size v' b.is):=by unfold Hid Io;rw[HL.out];exact hown
 have HG:=kH ((((Gr.refl w).alloc _).alloc _).trans G2);obtain⟨a',c',rfl⟩:=HIo.shape;have B0:=aX (br.trans G2) (at5 w _);have B1:=aX G2 (Iq w _ _);have HB0:=kH B0;have HB1:=kH B1;have c0:=iE B0;have c1:=iY B0;have f1:w'.frozen? ⟨w.heap.size,1,none⟩=false:=lh B0;have d0:=iE B1;have d1:=iY B1;have g1:∀j,w'.frozen? ⟨w.heap.size+1,j,none⟩=false:=fun j=>lh B1
 generalize b.is.length=q at *
 go_wp2_with fail;have e1:(w'.setCell ⟨w.heap.size,1,none⟩ (.slice a' q c')).heap[w.heap.size+1]?=some (.cells #[.int .u32 0,.slice none 0 0] 64 (0,0)):=(hso (by show w.heap.size+1≠w.heap.size;omega)).trans HB1;have e2:=aul _ _ 0 _ _ (.int .u32 x) e1;have e3:=aul _ _ 1 _ _ (.slice a' q c') e2;refine auc (v:=.agg #[.int .u32 x,.slice a' q c']) (auD results138 _ _ _ _ _ (0,0) _ rfl e3 underlying64 rfl iBk) rfl ⟨_,rfl,?_,?_⟩
 ·refine HIo.to fun k o f hk=>?_
  have n0:=aa hk HB0 an;have n1:=aa hk HB1 an;rw[hso (by exact n1),hso (by exact n1),hso (by exact n0)]
 ·exact((HG.setCell (by show w.heap.size<=w.heap.size;omega) _).setCell (by show w.heap.size<=w.heap.size+1;omega) _).setCell (by show w.heap.size<=w.heap.size+1;omega) _
theorem yI (W:World)(g:Nat)(a b c d:Value)(hk:k≠g):((((W.setCell ⟨g,0,none⟩ a).setCell ⟨g,1,none⟩ b).setCell ⟨g,2,none⟩ c).setCell ⟨g,3,none⟩ d).heap[k]?=W.heap[k]?:=by rw[hso (by exact hk),hso (by exact hk),hso (by exact hk),hso (by exact hk)]
theorem uD {b0:Nat}(h:w.ownsRow base e sz v n xs)(hb:b0<=base):w.ownsRow b0 e sz v n xs:=by
 obtain⟨h1,h2⟩:=h;refine⟨h1,?_⟩;rcases h2 with h2|⟨g,cp,cur,e1,e2,e3⟩
 ·exact .inl h2
 ·exact .inr ⟨g,cp,cur,e1,ab,e3⟩
theorem jo {A B C:Array Value}{t u s:Nat}(g:Gr (((w.alloc (.cells A t)).alloc (.cells B u)).alloc (.cells C s)) w'):w'.heap[w.heap.size]?=some (.cells A t (0,0))/\w'.heap[w.heap.size+1]?=some (.cells B u (0,0))/\w'.heap[w.heap.size+1+1]?=some (.cells C s (0,0)):=by refine⟨aX ((br.alloc _).trans g) (at5 w _),aX (br.trans g) (Iq w _ _),aX g ?_⟩;have:=at5 ((w.alloc (.cells A t)).alloc (.cells B u)) (.cells C s);simpa using this
theorem wV (cap:Nat){bs:List Bv}(B:Bs w ao n bs)(hn:n*32<=140737488351232)(room pu sl:Int):Calls prog 116 #[.agg #[.int .i64 room,.slice ao n cap,.int .i64 pu,.int .i64 sl]] w fun e w'=>∃g cp xs,e=.returned (.agg #[.int .i64 room,.slice (some ⟨g,0,none⟩) n cp,.int .i64 pu,.int .i64 sl])/\w'.ownsRow w.heap.size 64 2 (.slice (some ⟨g,0,none⟩) n cp) n xs/\Bx w' w.heap.size bs xs/\Gr w w':=by
 have HL:Hid _:=B.len;have HB:=kH B;have CP:Hid (∀(W:World) (b:Bv) (va:Option Addr) (vn vc:Nat),Gr w W->Bc w b (.int .u32 b.pc) (.slice va vn vc)->_):=fun W b va vn vc G h=>qW (h.of G)
 obtain⟨i0,hi,hz0,hz1,hz2⟩:=auz LD;clear B;go_enter func116,ntmps116;go_wp2_with (at_make;refine wpList_make_own _ rfl _ _ 52 rfl (w.heap.size+1+1) 64 i0 _ 2 underlying52 hi hz0 hz1 _ _ _ (n+1) rfl rfl (by go_num) (by rw[hz2];omega) bj aq ?_);intro w0 hown0 tJ;have G0:=F8 tJ;have HO0:Hid (∃g,w0.ownsRow (w.heap.size+1+1) 64 2 (.slice (some ⟨g,0,none⟩) 0 (n+1)) 0 []/\g=w.heap.size+1+1):=⟨_,hown0,aq⟩;have H00:Hid _:=aX (br.trans G0) (at5 w _);have H01:Hid _:=aX G0 (Iq w _ _);have oJ:=kH ((((Gr.refl w).alloc _).alloc _).trans G0);have z1:w0.cell? ⟨w.heap.size,1,none⟩=some (.slice ao n cap):=atZ _ _ _ _ _ _ H00;clear hown0 tJ G0;go_wp2_with fail;go_loopw [3,14] (fun V i wr=>∃j:Nat,j<=n/\i=.int .i64 j/\∃g cp xs,V=.slice (some ⟨g,0,none⟩) j cp/\wr.heap[w.heap.size]?=some (.cells #[.int .i64 room,.slice ao n cap,.int .i64 pu,.int .i64 sl] 54 (0,0))/\wr.heap[w.heap.size+1]?=some (.cells #[.int .i64 0,.slice none 0 0,.int .i64 0,.int .i64 0] 54 (0,0))/\wr.ownsRow (w.heap.size+1+1) 64 2 (.slice (some ⟨g,0,none⟩) j cp) j xs/\Bx wr w.heap.size (bs.take j) xs/\Gr w wr) (fun _ i _=>n-(intOf i).toNat)
 case atStart=>
  obtain⟨g,O,rfl⟩:=HO0;exact⟨0,apF _,rfl,_,_,[],rfl,H00,H01,O,Bx.nil _ _,oJ⟩
 case round=>
  obtain⟨j,hj,rfl,g,cp,xs,rfl,h0,h1,hO,hX,G⟩:=hrel;have HG:=kH G;have HO:=kH hO;have HX:=kH hX;have H0:=kH h0;have H1:=kH h1;clear h0 h1 hO hX G HO0 H00 H01 oJ z1;by_cases hlt:j<n
  ·obtain⟨b,hb⟩:∃b,bs[j]?=some b:=⟨_,api (by rw[HL.out];exact hlt)⟩;obtain⟨k,o,rfl,hk,hcell⟩:=HB.spot ab;obtain⟨u,v,p0,p1,hbc⟩:=hcell j b hb;obtain⟨o1,o2,va,vn,vc,rfl⟩:=hbc.ones;have d0:=(HG.cell _ (by exact hk)).trans p0;have d1:=(HG.cell _ (by exact hk)).trans p1;have hu:=hbc.1;subst hu;have CP2:Hid (∀W:World,Gr w W->_):=fun W G=>CP W b va vn vc G hbc
   have HT:Hid (∀(W:World) (v:Value),Bx W w.heap.size (bs.take j) xs->Io W w.heap.size v b.is->Bx W w.heap.size (bs.take (j+1)) (xs++[.int .u32 b.pc,v])):=fun W v h1 h2=>by rw[apU,hb];exact h1.snoc h2
   clear hcell p0 p1 hbc CP hb;generalize b.pc=bp at *
   go_wp2_with fail;refine(CP2 _ (HG.alloc _)).mono ?_;rintro e w2 ⟨v2,rfl,I2,G2⟩;have HG2:Hid _:=((Gr.refl wr).alloc _).trans G2;have HI2:Hid (Io w2 w.heap.size v2 b.is):=I2.low (by have:=HG.size;simp;omega);obtain⟨ia,ic,rfl⟩:=I2.shape;clear CP2 G2 I2;generalize b.is.length=iq at *
   have kY:=kH (aC HO HG2);have ll:Hid (w.heap.size+1+1<=w2.heap.size):=by
    have q1:=HG2.size;have q3:=(apk.1 H1).1;unfold Hid;omega
   go_wp2_with (at_builtin;have q0:=ll.out;have q1:=aC kY.out ((Gr.refl w2).alloc (.cells #[.int .u32 bp,.slice ia iq ic] 64));refine auK _ rfl (.tmp 18) (.tmp 21) 52 rfl (w.heap.size+1+1) 64 i0 _ 2 32 underlying52 hi hz0 hz1 hz2 rfl an (.slice (some ⟨g,0,none⟩) j cp) j xs rfl q1 ⟨w2.heap.size,0,none⟩ 1 1 [.int .u32 bp,.slice ia iq ic] rfl rfl ?xc (tQ rfl rfl) ?xd ?xe ?xf ?xg;(case xc=>exact dP aq aq);(case xd=>unfold maxLen;omega);(case xe=>omega);(case xf=>simp;omega));rintro v' w' hown hgrow -
   obtain⟨g',cp',rfl⟩:=dh hown ab;have HOn:=kH hown;have Xa:Hid (∀(q:Nat) (c:Array Value) (r:Nat) (z:Nat×Nat),w2.heap[q]?=some (.cells c r z)->r≠64->_):=fun q c r z hq hr=>dL (aC kY ((Gr.refl w2).alloc _)) hgrow (aX ((Gr.refl w2).alloc _) hq) hr
   have HGn:=kH (Gr.grown ((HG.trans HG2).alloc _) hgrow (fun q e=>by have:=(kY.lt q e).1;omega));clear hown hgrow d0 d1 HB;go_wp2_with fail;go_roundw
   case rel=>
    refine⟨j+1,ab,by go_num,g',cp',xs++[.int .u32 bp,.slice ia iq ic],rfl,Xa.out _ _ _ _ (aX HG2.out H0.out) an,Xa.out _ _ _ _ (aX HG2.out H1.out) an,HOn.out,?_,HGn.out⟩;exact HT _ _ ((HX.of HG2).to fun q c f hq=>by rw[Xa.out _ _ _ _ hq an];exact hq.symm) (HI2.to fun q c f hq=>by rw[Xa.out _ _ _ _ hq an];exact hq.symm)
   case measure=>simp[intOf];omega
  ·have ej:j=n:=ab;have HE:Hid (bs.take j=bs):=by unfold Hid;rw[ej,<-HL.out,ap9]
   have Ju:Hid (Bx wr w.heap.size bs xs):=by have:=HX;rwa[HE.out]at this
   have HOe:Hid (wr.ownsRow (w.heap.size+1+1) 64 2 (.slice (some ⟨g,0,none⟩) n cp) n xs):=by have:=HO;rwa[ej]at this
   subst ej;have y0:wr.cell? ⟨w.heap.size,0,none⟩=some (.int .i64 room):=atZ _ _ _ _ _ _ H0;have y1:wr.cell? ⟨w.heap.size,1,none⟩=some (.slice ao j cap):=atZ _ _ _ _ _ _ H0;have y2:wr.cell? ⟨w.heap.size,2,none⟩=some (.int .i64 pu):=atZ _ _ _ _ _ _ H0;have y3:wr.cell? ⟨w.heap.size,3,none⟩=some (.int .i64 sl):=atZ _ _ _ _ _ _ H0;have yf:wr.frozen? ⟨w.heap.size,1,none⟩=false:=aus _ _ _ _ _ H0;have x0:wr.cell? ⟨w.heap.size+1,0,none⟩=some (.int .i64 0):=atZ _ _ _ _ _ _ H1;have x1:wr.cell? ⟨w.heap.size+1,1,none⟩=some (.slice none 0 0):=atZ _ _ _ _ _ _ H1;have x2:wr.cell? ⟨w.heap.size+1,2,none⟩=some (.int .i64 0):=atZ _ _ _ _ _ _ H1;have x3:wr.cell? ⟨w.heap.size+1,3,none⟩=some (.int .i64 0):=atZ _ _ _ _ _ _ H1;have xf:∀j,wr.frozen? ⟨w.heap.size+1,j,none⟩=false:=fun j=>aus _ _ _ _ _ H1
   clear HB HE HO HX CP;go_wp2_with fail;have e1:(wr.setCell ⟨w.heap.size,1,none⟩ (.slice (some ⟨g,0,none⟩) j cp)).heap[w.heap.size+1]?=some (.cells #[.int .i64 0,.slice none 0 0,.int .i64 0,.int .i64 0] 54 (0,0)):=(auv _ _ _ _ (by show w.heap.size+1≠w.heap.size;omega)).trans H1;have hk:∀(k:Nat) (c:Array Value) (r:Nat) (f:Nat×Nat),wr.heap[k]?=some (.cells c r f)->r≠54->(((((wr.setCell ⟨w.heap.size,1,none⟩ (.slice (some ⟨g,0,none⟩) j cp)).setCell ⟨w.heap.size+1,0,none⟩ (.int .i64 room)).setCell ⟨w.heap.size+1,1,none⟩ (.slice (some ⟨g,0,none⟩) j cp)).setCell ⟨w.heap.size+1,2,none⟩ (.int .i64 pu)).setCell ⟨w.heap.size+1,3,none⟩ (.int .i64 sl)).heap[k]?=wr.heap[k]?:=fun k c r f hq hr=>by
    rw[yI _ _ _ _ _ _ (aa hq H1.out hr),auv _ _ _ _ (by exact aa hq H0.out hr)]
   refine auc (v:=.agg #[.int .i64 room,.slice (some ⟨g,0,none⟩) j cp,.int .i64 pu,.int .i64 sl]) (auD results116 _ _ _ _ _ (0,0) _ rfl (uC e1 _ _ _ _) underlying54 rfl wF) rfl ⟨g,cp,xs,rfl,?_,?_,?_⟩
   ·exact aj (uD HOe ab) fun q c r hq=>hk q c _ r hq an
   ·exact Ju.to fun q c r hq=>hk q c _ r hq an
   ·have q1:w.heap.size<=w.heap.size+1:=ab;exact((((HG.setCell (by show w.heap.size<=w.heap.size;omega) _).setCell (by exact q1) _).setCell (by exact q1) _).setCell (by exact q1) _).setCell (by exact q1) _
end Kc
namespace Kc
open Mm Ts Hc
theorem D7 (R:Rw w base g cap cs)(hn:n<=cap)(hk:k<n)(h1c:∀u∈(cs.take (n*2)).drop ((k+1)*2),u.oneCell'=true):Calls prog 182 #[.slice (some ⟨g,0,none⟩) n cap,.int .i64 k,.int .i64 ((k:Int)+1)] w fun e w'=>e=.returned (.slice (some ⟨g,0,none⟩) (n-1) cap)/\∃cs',Rw w' base g cap cs'/\cs'.take ((n-1)*2)=cs.take (k*2)++(cs.take (n*2)).drop ((k+1)*2)/\Ch g w w':=by
 have hm:=R.cap;unfold maxLen at hm;have HR:=kH R;obtain⟨i0,hi,hz0,hz1,hz2⟩:=auz LD;obtain⟨news,hnews⟩:∃news,news=(cs.take (n*2)).drop ((k+1)*2):=⟨_,rfl⟩;have hcl:=R.len;have hlen:news.length=(n-(k+1))*2:=by rw[hnews,aqh,ap5,hcl];omega
 have hget:∀t u,news[t]?=some u->cs[(k+1)*2+t]?=some u:=fun t u hu=>by
  rw[hnews,ap3,apS]at hu;split at hu
  ·exact hu
  ·cases hu
 obtain⟨A,hA,hsrc⟩:∃A:Addr,(if cap=k+1 then some (⟨g,0,none⟩:Addr)else some ⟨g,(k+1)*2,none⟩)=some A/\Hid (∀t u,news[t]?=some u->w.drew.cell? (A.add t)=some u):=by
  by_cases h:cap=k+1
  ·refine⟨⟨g,0,none⟩,by simp[h],fun t u hu=>?_⟩;have:=(apj.1 hu).1;omega
  ·refine⟨⟨g,(k+1)*2,none⟩,by simp[h],fun t u hu=>?_⟩;rw[cz];exact R.cell (hget t u hu)
 have s1:=kH hlen;have s2:Hid (∀u∈news,_):=fun u hu=>h1c u (by rw[<-hnews];exact hu)
 have s3:Hid (∀j,j<news.length->(w.drew.cell? ⟨g,0+k*2+j,none⟩).isSome=true/\w.drew.frozen? ⟨g,0+k*2+j,none⟩=false):=fun j hj=>⟨R.isS (w:=w) ab,R.fz _⟩
 obtain⟨W1,hW1⟩:∃W1,W1=w.drew.setCells g (0+k*2) news:=⟨_,rfl⟩;have HW:=kH hW1;have R1:Rw W1 base g cap (cs.take (k*2)++news++cs.drop (k*2+news.length)):=by
  rw[hW1,apu];exact(R.of (Gr.refl w).drew).set ab
 have HR1:=kH R1;have TH:Hid (Ch g w W1):=by unfold Hid;rw[hW1];exact chC ((Ch.refl g w).gr (Gr.refl w).drew) _ _
 have sM:=kH hnews;have hcr:∀ty,(Builtin.clear_ #[52] ty #[.slice (some ⟨g,(n-1)*2,none⟩) (n-(n-1)) (cap-(n-1))]).run prog W1=.ok (.tuple #[]) (W1.setCells g ((n-1)*2) (Ip (n-(n-1)))):=fun ty=>
  tT W1 _ _ ty underlying52 Tryz.zeroValue64 g ((n-1)*2) (n-(n-1)) (cap-(n-1)) ab (fun j hj=>R1.isS ab) (fun j hj=>R1.fz _)
 clear R hget hnews hlen hW1 R1 h1c hcl;have e1:k+(n-(k+1))=n-1:=ab;have hic:k<=cap:=ab;have hjc:k+1<=cap:=ab;have hq1:(0:Int)<=(k:Int)+1:=ab;have hq2:(k:Int)+1<=(n:Int):=ab;go_enter func182,ntmps182;go_wp2_with fail;go_region_law (refine step_append_room rfl (.tmp 22) (.tmp 25) 52 rfl 64 i0 2 underlying52 hi hz1 g 0 k cap ar A (n-(k+1)) (cap-(k+1)) news ar s1 hsrc.out s2 ab s3 ?_;rw[<-HW.out]);go_wp2_with fail;go_ret;have hl:=HR.len;have hnl:=s1;refine⟨rfl,_,HR1.set (by rw[sG];omega),?_,chC TH _ _⟩;have e2:(cs.take (k*2)).length=k*2:=by rw[ap5,hl];omega
 have e3:(cs.take (k*2)++news).length=(n-1)*2:=by rw[apo,e2,hnl];omega
 rw[aqa,aqB (by simp only[ap5,apo,aqh];omega),List.take_take,Nat.min_self,<-e3,aqY,sM.out]
theorem Bn (R:Rw w base g cap cs)(hn:n<=cap)(hk:k<n)(h1c:∀u∈(cs.take (n*2)).drop ((k+1)*2),u.oneCell'=true):Calls prog 168 #[.slice (some ⟨g,0,none⟩) n cap,.int .i64 k] w fun e w'=>e=.returned (.slice (some ⟨g,0,none⟩) (n-1) cap)/\∃cs',Rw w' base g cap cs'/\cs'.take ((n-1)*2)=cs.take (k*2)++(cs.take (n*2)).drop ((k+1)*2)/\Ch g w w':=by have hm:=R.cap;unfold maxLen at hm;have D:=kH (D7 R hn hk h1c);go_enter func168,ntmps168;go_wp2_with fail;refine D.mono ?_;rintro e w1 ⟨rfl,X⟩;have HX:=kH X;go_wp2_with fail;go_ret;exact⟨rfl,HX⟩
theorem D8 {b1:Nat}{bs:List Bv}(O:w.ownsRow base 64 2 (.slice (some ⟨g,0,none⟩) n cap) n xs)(B:Bx w b1 bs xs)(hl:bs.length=n)(hk:k<n):Calls prog 168 #[.slice (some ⟨g,0,none⟩) n cap,.int .i64 k] w fun e w'=>e=.returned (.slice (some ⟨g,0,none⟩) (n-1) cap)/\∃xs',w'.ownsRow base 64 2 (.slice (some ⟨g,0,none⟩) (n-1) cap) (n-1) xs'/\Bx w' b1 (bs.take k++bs.drop (k+1)) xs'/\Ch g w w':=by obtain⟨hn,cs,R,rfl⟩:=Rw.open O;refine(Bn R hn hk fun u hu=>B.one u (aqR hu)).mono ?_;rintro e w' ⟨rfl,cs',R',e',q⟩;have O':=R'.own (m:=n-1) ab;rw[e']at O';refine⟨rfl,_,O',?_,q⟩;have h1:=B.take k;rw[List.take_take,show min (k*2) (n*2)=k*2 by omega]at h1;exact(h1.app (B.drop (k+1))).ch R q
end Kc
namespace Kc
open Mm Ts Hc
variable{f:Int}{bs:List Bv}
theorem Bo (h:∀(i:Nat) (x:Bv),bs[i]?=some x->hasB x f t=false):bJ f t bs=bs:=by unfold bJ;rw[List.filter_eq_self];intro b hb;obtain⟨i,hi⟩:=aqe.1 hb;rw[h i b hi];rfl
theorem Jv (h:∀(i:Nat) (x:Bv),i<k->bs[i]?=some x->hasB x f t=false):bJ f t (bs.take k)=bs.take k:=
 Bo fun i x hx=>by
  rw[apS]at hx;split at hx
  ·rename_i hi;exact h i x hi hx
  ·cases hx
theorem wW {r:Nat}(h:((cs.take (n*2)).drop (j*2))[r]?=some u):cs[j*2+r]?=some u:=by
 rw[ap3,apS]at h;split at h
 ·exact h
 ·cases h
theorem NG {b1:Nat}{bs:List Bv}(O:w.ownsRow base 64 2 (.slice (some ⟨g,0,none⟩) n cap) n xs)(B:Bx w b1 bs xs)(hl:bs.length=n)(hn:n<=140737488351232)(ok:∀b∈bs,b.Ok)(hK:w.heap[K]?=some (.cells #[.int .u32 f,.int .u32 t] 175 (0,0)))(ht:t<4294967296):Calls prog 117 #[.slice (some ⟨g,0,none⟩) n cap,.func (.func 145) #[] #[.pointer (some ⟨K,0,none⟩)]] w fun e w'=>∃m xs',e=.returned (.slice (some ⟨g,0,none⟩) m cap)/\(bJ f t bs).length=m/\w'.ownsRow base 64 2 (.slice (some ⟨g,0,none⟩) m cap) m xs'/\Bx w' b1 (bJ f t bs) xs'/\Ch g w w':=by
 obtain⟨hnc,cs,R,rfl⟩:=Rw.open O;have hm:=R.cap;unfold maxLen at hm;have IX:Hid (Calls prog 136 #[.slice (some ⟨g,0,none⟩) n cap,.func (.func 145) #[] #[.pointer (some ⟨K,0,none⟩)]] w fun e w'=>e=.returned (.int .i64 (jf (fun b=>hasB b f t) bs 0))/\Gr w w'):=
  Ae cap (R.bq B hl) hn K (fun b=>hasB b f t) fun W b sa sc G hb=>o9 (atZ _ _ _ _ _ _ (aX G hK)) (atZ _ _ _ _ _ _ (aX G hK)) ht (ok b hb) sa sc
 have HR:=kH R;have HB:=kH B;have HO:=kH O;have HL:=kH hl;have HK:=kH hK;have Cl:Hid (∀(W:World) (b:Bv) (sa:Option Addr) (sc:Nat),W.heap[K]?=some (.cells #[.int .u32 f,.int .u32 t] 175 (0,0))->b∈bs->_):=fun W b sa sc h hb=>o9 (atZ _ _ _ _ _ _ h) (atZ _ _ _ _ _ _ h) ht (ok b hb) sa sc
 clear R B O hl hK ok;rcases R8 (fun b=>hasB b f t) bs with⟨e1,hall⟩|⟨k0,x0,e1,hx0,hp0,hall⟩
 ·rw[e1]at IX;have HA:=kH (Bo hall);clear hall Cl e1 HR;go_enter func117,ntmps117;go_wp2_with fail;refine IX.mono ?_;rintro e w1 ⟨rfl,G1⟩;have aU:=kH G1;clear IX G1;go_wp2_with fail;go_ret;refine⟨n,_,rfl,by rw[HA.out];exact HL,aC HO aU,by rw[HA.out];exact HB.of aU,(Ch.refl g w).gr aU⟩
 ·rw[e1]at IX;have hk0:k0<n:=by rw[<-HL.out];exact(apj.1 hx0).1
  have hne:((k0:Int) == -1)=false:=aub.2 ab;have HKu:Hid (bJ f t (bs.take (k0+1))=bs.take k0):=by
   unfold Hid;rw[wE hx0,at7 hp0];exact Jv hall
  clear hall e1 hp0 hx0 HO;go_enter func117,ntmps117;go_wp2_with fail;refine IX.mono ?_;rintro e w1 ⟨rfl,G1⟩;have aU:=kH G1;clear IX G1;go_wp2_with fail;go_loopw [5,6] (fun vi vj wr=>∃(i j:Nat) (cs:List Value),vi=.int .i64 i/\vj=.int .i64 j/\i<j/\j<=n/\Rw wr base g cap cs/\(bJ f t (bs.take j)).length=i/\Bx wr b1 (bJ f t (bs.take j)) (cs.take (i*2))/\Bx wr b1 (bs.drop j) ((cs.take (n*2)).drop (j*2))/\wr.heap[K]?=some (.cells #[.int .u32 f,.int .u32 t] 175 (0,0))/\Ch g w wr) (fun _ j _=>n-(intOf j).toNat)
  case atStart=>
   have B1:=HB.of aU;refine⟨k0,k0+1,cs,rfl,by go_num,ab,ab,HR.of aU,?_,?_,B1.drop (k0+1),aX aU HK,(Ch.refl g w).gr aU⟩
   ·rw[HKu.out,ap5,HL.out];omega
   ·rw[HKu.out];have:=B1.take k0;rwa[List.take_take,show min (k0*2) (n*2)=k0*2 by omega]at this
  case round=>
   obtain⟨i,j,ds,rfl,rfl,hij,hjn,R,hli,B1,B2,hK,q⟩:=hrel;have Br:Hid (Rw wr base g cap ds):=R;have HB1:Hid (Bx wr b1 (bJ f t (bs.take j)) (ds.take (i*2))):=B1;have HB2:Hid (Bx wr b1 (bs.drop j) ((ds.take (n*2)).drop (j*2))):=B2;have HLi:Hid ((bJ f t (bs.take j)).length=i):=hli;have HKr:Hid (wr.heap[K]?=some (.cells #[.int .u32 f,.int .u32 t] 175 (0,0))):=hK;have HQ:Hid (Ch g w wr):=q;clear R B1 B2 hli hK q HR HB aU HK HKu;by_cases hlt:j<n
   ·obtain⟨b,hb⟩:∃b,bs[j]?=some b:=⟨_,api (by rw[HL.out];exact hlt)⟩;obtain⟨v,h1,h2,h3⟩:=HB2.at_ 0 b (by rw[ap3];exact hb);obtain⟨sa,sc,rfl⟩:=h3.shape;have c0:wr.cell? ⟨g,j*2,none⟩=some (.int .u32 b.pc):=Br.cell (wW h1);have c1:wr.cell? ⟨g,j*2+1,none⟩=some (.slice sa b.is.length sc):=Br.cell (wW h2);have HI3:Hid (Io wr b1 (.slice sa b.is.length sc) b.is):=h3;have wJ:Hid (∀W:World,W.heap[K]?=some (.cells #[.int .u32 f,.int .u32 t] 175 (0,0))->Calls prog 145 #[.agg #[.int .u32 b.pc,.slice sa b.is.length sc],.pointer (some ⟨K,0,none⟩)] W fun e w'=>e=.returned (.bool (hasB b f t))/\Gr W w'):=fun W h=>Cl W b sa sc h (aps hb)
    have HKt:=wE (f:=f) (t:=t) hb;have HBd:Hid (bs.drop (j+1)=(bs.drop j).drop 1):=by unfold Hid;rw[aqG]
    clear h1 h2 h3 Cl hb;cases hh:hasB b f t with
    |true=>
     rw[hh]at wJ;rw[at7 hh]at HKt;have F9:Hid (bJ f t (bs.take (j+1))=bJ f t (bs.take j)):=HKt;clear HKt hh;generalize b.pc=bp at *
     generalize b.is.length=bn at *
     go_wp2_with fail;refine(wJ _ (aX ((Gr.refl wr).alloc _) HKr)).mono ?_;rintro e w2 ⟨rfl,G2⟩;have HG2:=kH (((Gr.refl wr).alloc _).trans G2);clear G2 c0 c1 wJ;go_wp2_with fail;go_roundw
     case rel=>
      refine⟨i,j+1,ds,rfl,by go_num,ab,ab,Br.of HG2,by rw[F9.out];exact HLi,by rw[F9.out];exact HB1.of HG2,?_,aX HG2 HKr,HQ.gr HG2⟩;have:=(HB2.of HG2).drop 1;rwa[aqG,aqG,show j*2+1*2=(j+1)*2 by omega]at this
     case measure=>simp[intOf];omega
    |false=>
     rw[hh]at wJ;rw[at6 (by simp[hh])]at HKt;have F9:Hid (bJ f t (bs.take (j+1))=bJ f t (bs.take j)++[b]):=HKt;have HBs:Hid (∀W:World,Bx W b1 (bJ f t (bs.take j)) (ds.take (i*2))->Io W b1 (.slice sa b.is.length sc) b.is->Bx W b1 (bJ f t (bs.take j)++[b]) (ds.take (i*2)++[.int .u32 b.pc,.slice sa b.is.length sc])):=fun W h k=>h.snoc k
     clear HKt hh;generalize b.pc=bp at *
     generalize b.is.length=bn at *
     go_wp2_with fail;refine(wJ _ (aX ((Gr.refl wr).alloc _) HKr)).mono ?_;rintro e w2 ⟨rfl,G2⟩;have HG2:=kH (((Gr.refl wr).alloc _).trans G2);have HR2:=kH (Br.of HG2);have e0:w2.cell? ⟨wr.heap.size,0,none⟩=some (.int .u32 bp):=atZ _ _ _ _ _ _ (aX G2 (at5 wr _));have e1:w2.cell? ⟨wr.heap.size,1,none⟩=some (.slice sa bn sc):=atZ _ _ _ _ _ _ (aX G2 (at5 wr _));have hcl:=HR2.len;obtain⟨y0,hy0⟩:∃y,w2.cell? ⟨g,i*2,none⟩=some y:=⟨_,HR2.cell (api ab)⟩;obtain⟨y1,hy1⟩:∃y,w2.cell? ⟨g,i*2+1,none⟩=some y:=⟨_,HR2.cell (api ab)⟩;have hfz:∀o,w2.frozen? ⟨g,o,none⟩=false:=fun o=>HR2.fz o
     have hi0:(0:Int)<=(i:Int):=ab;have hi1:(i:Int)<(n:Int):=ab;clear G2 c0 c1 wJ hcl;go_wp2_with fail;go_roundw
     case rel=>
      have q2:Ch g w2 (w2.setCells g (i*2) [.int .u32 bp,.slice sa bn sc]):=chC (Ch.refl g w2) _ _;have hcl:=HR2.len;have R3:=HR2.set (o:=i*2) (vs:=[.int .u32 bp,.slice sa bn sc]) aE;have lt:(ds.take (i*2)).length=i*2:=by rw[ap5,hcl];omega
      refine⟨i+1,j+1,_,by go_num,by go_num,ab,ab,R3,by rw[F9.out,apo,HLi.out];rfl,?_,?_,?_,(HQ.gr HG2).trans q2⟩
      ·have e6:(ds.take (i*2)++[Value.int .u32 bp,Value.slice sa bn sc]++ds.drop (i*2+[Value.int .u32 bp,Value.slice sa bn sc].length)).take ((i+1)*2)=ds.take (i*2)++[Value.int .u32 bp,Value.slice sa bn sc]:=by
        have l2:(ds.take (i*2)++[Value.int .u32 bp,Value.slice sa bn sc]).length=(i+1)*2:=by rw[apo,lt];simp;omega
        rw[<-l2];exact aqY
       rw[F9.out,e6];exact HBs _ ((HB1.of HG2).ch HR2 q2) ((HI3.of HG2).to fun k o r hk=>HR2.keep q2 k o _ r an hk)
      ·have h4:=((HB2.of HG2).ch HR2 q2).drop 1;rw[aqG,aqG,show j*2+1*2=(j+1)*2 by omega]at h4;have e5:((ds.take (i*2)++[Value.int .u32 bp,Value.slice sa bn sc]++ds.drop (i*2+[Value.int .u32 bp,.slice sa bn sc].length)).take (n*2)).drop ((j+1)*2)=(ds.take (n*2)).drop ((j+1)*2):=by
        apply aql;intro z;rw[ap3,ap3,apS,apS];split
        ·have l2:(ds.take (i*2)++[Value.int .u32 bp,Value.slice sa bn sc]).length=(i+1)*2:=by rw[apo,lt];simp;omega
         rw[apv ab,ap3,l2];congr 1;simp;omega
        ·rfl
       rw[e5];exact h4
      ·exact(HR2.keep q2 K _ _ _ an (aX HG2 HKr)).trans (aX HG2 HKr)
     case measure=>simp[intOf];omega
   ·have ej:j=n:=ab;subst ej;have HT:Hid (bs.take j=bs):=by unfold Hid;rw[<-HL.out,ap9]
    have agN:Hid (Bx wr b1 (bJ f t bs) (ds.take (i*2))):=by have:=HB1;rwa[HT.out]at this
    have HLe:Hid ((bJ f t bs).length=i):=by have:=HLi;rwa[HT.out]at this
    have hcr:∀ty,(Builtin.clear_ #[52] ty #[.slice (some ⟨g,i*2,none⟩) (j-i) (cap-i)]).run prog wr=.ok (.tuple #[]) (wr.setCells g (i*2) (Ip (j-i))):=fun ty=>
     tT wr _ _ ty underlying52 Tryz.zeroValue64 g (i*2) (j-i) (cap-i) ab (fun z hz=>Br.isS ab) (fun z hz=>Br.fz _)
    have hi0:(0:Int)<=(i:Int):=ab;have hi1:(i:Int)<(j:Int):=ab;clear HB1 HLi HT HB2 Cl;go_wp2_with fail;go_ret;have R3:=Br.set (o:=i*2) (vs:=Ip (j-i)) (by rw[sG];omega);have lt:(ds.take (i*2)).length=i*2:=by rw[ap5,Br.out.len];omega
    have e5:(ds.take (i*2)++Ip (j-i)++ds.drop (i*2+(Ip (j-i)).length)).take (i*2)=ds.take (i*2):=by
     rw[aqa,aqB ab,ap0 ab]
    have q2:Ch g wr (wr.setCells g (i*2) (Ip (j-i))):=chC (Ch.refl g wr) _ _;refine⟨i,_,rfl,HLe,R3.own ab,?_,HQ.trans q2⟩;rw[e5];exact agN.ch Br q2
end Kc
namespace Kc
open Mm Ts Hc
variable{pc:Int}{bs:List Bv}
theorem Ga (w:World)(rm r1 r2:Int)(h:rm<0/\r1=0/\r2=3\/¬rm<0/\64<rm/\r1=0/\r2=3\/¬rm<0/\¬64<rm/\r1=rm/\r2=0):Calls prog 24 #[.int .i64 rm] w fun e w'=>e=.returned (.tuple #[.agg #[.int .i64 r1,.slice none 0 0,.int .i64 0,.int .i64 0],.int .i64 r2])/\Gr w w':=by
 rcases h with⟨h0,q⟩|⟨h0,h1,q⟩|⟨h0,h1,q⟩
 ·have HE:Hid _:=q;go_enter func24,ntmps24;go_wp2;exact auc (v:=.tuple #[.agg #[.int .i64 0,.slice none 0 0,.int .i64 0,.int .i64 0],.int .i64 3]) (Hf.gm results24 _ _ _ _ _ (0,0) _ _ rfl rfl (at5 w _) underlying54 rfl wF) rfl ⟨by rw[HE.out.1,HE.out.2],(Gr.refl _).alloc _⟩
 ·have HE:Hid _:=q;clear q;go_enter func24,ntmps24;go_wp2;exact auc (v:=.tuple #[.agg #[.int .i64 0,.slice none 0 0,.int .i64 0,.int .i64 0],.int .i64 3]) (Hf.gm results24 _ _ _ _ _ (0,0) _ _ rfl rfl (at5 w _) underlying54 rfl wF) rfl ⟨by rw[HE.out.1,HE.out.2],(Gr.refl _).alloc _⟩
 ·have HE:Hid _:=q;clear q;go_enter func24,ntmps24;go_wp2;exact auc (v:=.tuple #[.agg #[.int .i64 rm,.slice none 0 0,.int .i64 0,.int .i64 0],.int .i64 0]) (Hf.gm results24 _ _ _ _ _ (0,0) _ _ rfl rfl (at5 w _) underlying54 rfl wF) rfl ⟨by rw[HE.out.1,HE.out.2],(Gr.refl _).alloc _⟩
theorem TI (h:place pc bs 0 = -1):wG pc bs=⟨0,[]⟩:=by unfold wG;rw[h,ak]
theorem TJ {x:Bv}(h:place pc bs 0=(j:Int))(hx:bs[j]?=some x):wG pc bs=x:=by unfold wG;rw[h,dU,apG,List.getD,hx];rfl
theorem TK (w:World):Bc w ⟨0,[]⟩ (.int .u32 0) (.slice none 0 0):=⟨rfl,⟨an,an⟩,none,0,0,rfl,⟨rfl,fun i h=>(by cases h),fun h=>absurd h ab⟩,ab⟩
theorem Bu (cap:Nat){bs:List Bv}(B:Bs w ao n bs)(hn:n*32<=140737488351232)(room pu sl pc:Int):Calls prog 109 #[.agg #[.int .i64 room,.slice ao n cap,.int .i64 pu,.int .i64 sl],.int .u32 pc] w fun e w'=>∃x y,e=.returned (.tuple #[.agg #[x,y],.bool (decide (0<=place pc bs 0))])/\Bc w' (wG pc bs) x y/\Gr w w':=by
 have AT:Hid (∀W:World,_):=fun W=>LG W pc
 have NH:Hid (∀(W:World) (K:Nat),Gr w W->W.cell? ⟨K,0,none⟩=some (.int .u32 pc)->Calls prog 136 #[.slice ao n cap,.func (.func 163) #[] #[.pointer (some ⟨K,0,none⟩)]] W fun e w'=>e=.returned (.int .i64 (place pc bs 0))/\Gr W w'):=fun W K G hk=>by
  rw[<-kK];exact LH cap (B.bq.of G) ab K (fun b=>decide (b.pc=pc)) fun W' b sa sc G' _=>FD ((G'.cell _ (by exact aug W _ hk)).trans hk) b.pc sa b.is.length sc
 have HB:=kH B;have HX:Hid (∀W:World,Gr ((w.alloc (.cells #[.int .i64 room,.slice ao n cap,.int .i64 pu,.int .i64 sl] 54)).alloc (.cells #[.int .u32 0,.slice none 0 0] 64)) W->W.cell? ⟨w.heap.size,1,none⟩=some (.slice ao n cap)/\W.heap[w.heap.size+1]?=some (.cells #[.int .u32 0,.slice none 0 0] 64 (0,0))/\Gr w W):=fun W G=>
  ⟨atZ _ _ _ _ _ _ (aX (br.trans G) (at5 w _)),aX G (Iq w _ _),(((Gr.refl w).alloc _).alloc _).trans G⟩
 have HPB:Hid (place pc bs 0 = -1\/∃(j:Nat) (x:Bv),place pc bs 0=(j:Int)/\j<n/\bs[j]?=some x):=by
  rcases fU pc bs 0 with h|⟨j,x,h,hx⟩
  ·exact .inl h
  ·rw[apu]at h;exact .inr ⟨j,x,h,by rw[<-HB.out.len];exact(apj.1 hx).1,hx⟩
 rcases HPB with hp|⟨j,b,hp,hj,hb⟩
 ·have HF:=kH (TI hp);rw[hp]at NH;rw[hp];generalize wG pc bs=fb at *
  go_enter func109,ntmps109;go_wp2_with fail
  go_region_with (first
   |(go_at_call 137;refine(AT _).mono ?_;rintro e w2 ⟨K,rfl,hk,G2⟩;have HG2:Hid (Gr ((w.alloc (.cells #[.int .i64 room,.slice ao n cap,.int .i64 pu,.int .i64 sl] 54)).alloc (.cells #[.int .u32 0,.slice none 0 0] 64)) w2):=Gr.trans b9 G2;have x1:w2.cell? ⟨w.heap.size,1,none⟩=some (.slice ao n cap):=(HX _ HG2).1;clear G2)
   |(go_at_call 136;refine(NH _ K (HX _ HG2).2.2 hk).mono ?_;rintro e w3 ⟨rfl,G3⟩;have fQ:Hid (Gr ((w.alloc (.cells #[.int .i64 room,.slice ao n cap,.int .i64 pu,.int .i64 sl] 54)).alloc (.cells #[.int .u32 0,.slice none 0 0] 64)) w3):=HG2.trans G3;clear G3))
  all_goals
   have y1:=(HX _ fQ).2.1;have HY:=kH y1;have c0:w3.cell? ⟨w.heap.size+1,0,none⟩=some (.int .u32 0):=atZ _ _ _ _ _ _ y1;have c1:w3.cell? ⟨w.heap.size+1,1,none⟩=some (.slice none 0 0):=atZ _ _ _ _ _ _ y1;have cf:∀j,w3.frozen? ⟨w.heap.size+1,j,none⟩=false:=fun j=>aus _ _ _ _ _ y1
   have Xb:=kH ((HX _ fQ).2.2);go_wp2_with fail;have e2:=aul _ _ 0 _ _ (.int .u32 0) HY;have e3:=aul _ _ 1 _ _ (.slice none 0 0) e2;refine auc (v:=.tuple #[.agg #[.int .u32 0,.slice none 0 0],.bool false]) (Hf.gm results109 _ _ _ _ _ (0,0) _ _ rfl rfl e3 underlying64 rfl iBk) rfl ?_;have hf:w.heap.size<=w.heap.size+1:=ab;refine⟨.int .u32 0,.slice none 0 0,rfl,?_,(Xb.setCell (by exact hf) _).setCell (by exact hf) _⟩;rw[HF.out];exact TK _
 ·have HF:=kH (TJ hp hb);rw[hp]at NH;rw[hp];obtain⟨k,o,rfl,hk0,hcell⟩:=HB.spot ab;obtain⟨u,v,p0,p1,hbc⟩:=hcell j b hb;obtain⟨o1,o2,va,vn,vc,rfl⟩:=hbc.ones;have hu:=hbc.1;subst hu;have zS:=kH hbc.ok;have HCe:Hid (∀W:World,Gr w W->W.cell? ⟨k,o+j*2,none⟩=some (.int .u32 b.pc)/\W.cell? ⟨k,o+j*2+1,none⟩=some (.slice va vn vc)):=fun W G=>⟨(G.cell _ (by exact hk0)).trans p0,(G.cell _ (by exact hk0)).trans p1⟩
  have CP:Hid (∀W:World,Gr w W->_):=fun W G=>qW (hbc.of G)
  have hj0:(0:Int)<=(j:Int):=ab;have hj1:(j:Int)<(n:Int):=ab;have HBc:Hid (∀(W:World) (v:Value),Io W w.heap.size v b.is->_):=fun W v h=>h.bc zS
  generalize wG pc bs=fb at *
  generalize hbp:b.pc=bp at *
  go_enter func109,ntmps109;go_wp2_with fail
  go_region_with (first
   |(go_at_call 137;refine(AT _).mono ?_;rintro e w2 ⟨K,rfl,hk,G2⟩;have HG2:Hid (Gr ((w.alloc (.cells #[.int .i64 room,.slice (some ⟨k,o,none⟩) n cap,.int .i64 pu,.int .i64 sl] 54)).alloc (.cells #[.int .u32 0,.slice none 0 0] 64)) w2):=Gr.trans b9 G2;have x1:w2.cell? ⟨w.heap.size,1,none⟩=some (.slice (some ⟨k,o,none⟩) n cap):=(HX _ HG2).1;clear G2)
   |(go_at_call 136;refine(NH _ K (HX _ HG2).2.2 hk).mono ?_;rintro e w3 ⟨rfl,G3⟩;have fQ:Hid (Gr ((w.alloc (.cells #[.int .i64 room,.slice (some ⟨k,o,none⟩) n cap,.int .i64 pu,.int .i64 sl] 54)).alloc (.cells #[.int .u32 0,.slice none 0 0] 64)) w3):=HG2.trans G3;clear G3))
  all_goals
   have y1:=(HX _ fQ).2.1;have HY:=kH y1;have x1:=(HX _ fQ).1;have Xb:=kH ((HX _ fQ).2.2);obtain⟨d0,d1⟩:=HCe _ Xb;go_wp2_with fail;refine(CP _ Xb).mono ?_;rintro e w4 ⟨v4,rfl,I4,G4⟩;have Ze:=kH (Xb.trans G4);have HI4:=kH (I4.low Xb.size);have y2:=aX G4 HY;have KN:=kH y2;have c0:w4.cell? ⟨w.heap.size+1,0,none⟩=some (.int .u32 0):=atZ _ _ _ _ _ _ y2;have c1:w4.cell? ⟨w.heap.size+1,1,none⟩=some (.slice none 0 0):=atZ _ _ _ _ _ _ y2;have cf:∀j,w4.frozen? ⟨w.heap.size+1,j,none⟩=false:=fun j=>aus _ _ _ _ _ y2
   obtain⟨ia,ic,rfl⟩:=I4.shape;generalize b.is.length=iq at *
   go_wp2_with fail;have e2:=aul _ _ 0 _ _ (.int .u32 bp) KN;have e3:=aul _ _ 1 _ _ (.slice ia iq ic) e2;refine auc (v:=.tuple #[.agg #[.int .u32 bp,.slice ia iq ic],.bool true]) (Hf.gm results109 _ _ _ _ _ (0,0) _ _ rfl rfl e3 underlying64 rfl iBk) rfl ?_;have hf:w.heap.size<=w.heap.size+1:=ab;refine⟨.int .u32 bp,.slice ia iq ic,aq,?_,(Ze.setCell (by exact hf) _).setCell (by exact hf) _⟩;rw[HF.out];refine HBc _ _ (HI4.to fun z c r hz=>?_);have nz:=aa hz KN an;rw[auv _ _ _ _ (by exact nz),auv _ _ _ _ (by exact nz)]
end Kc
namespace Kc
open Mm Ts Hc
def Bt (lo:Nat) (w:World) (ao:Option Addr) (n:Nat) (bs:List Bv):Prop:=∀W:World,(∀(k:Nat) (o:Array Value) (t:Nat) (f:Nat×Nat),lo<=k->t=64\/t=59->w.heap[k]?=some (.cells o t f)->W.heap[k]?=w.heap[k]?)->Bs W ao n bs
theorem Bt.bs {lo:Nat}{w:World}{ao:Option Addr}{n:Nat}{bs:List Bv}(h:Bt lo w ao n bs):Bs w ao n bs:=h w fun _ _ _ _ _ _ _=>rfl
theorem Bt.to {lo:Nat}{w':World}{bs:List Bv}(h:Bt lo w ao n bs)(q:∀(k:Nat) (o:Array Value) (t:Nat) (f:Nat×Nat),lo<=k->t=64\/t=59->w.heap[k]?=some (.cells o t f)->w'.heap[k]?=w.heap[k]?):Bt lo w' ao n bs:=fun W hW=>h W fun k o t f hl ht hk=>(hW k o t f hl ht ((q k o t f hl ht hk).trans hk)).trans (q k o t f hl ht hk)
theorem Bt.of {lo:Nat}{bs:List Bv}(h:Bt lo w ao n bs)(G:Gr w w'):Bt lo w' ao n bs:=h.to fun k o t f _ _ hk=>G.block k (apk.1 hk).1
theorem Bt.low {lo l0:Nat}{bs:List Bv}(h:Bt lo w ao n bs)(hl:l0<=lo):Bt l0 w ao n bs:=fun W q=>h W fun k o t f hk=>q k o t f (apr hl hk)
theorem NI (lo:Nat)(w:World)(ao:Option Addr):Bt lo w ao 0 []:=fun W _=>Yz W ao
theorem Bz {e:Nat}(h:w.ownsRow base e sz v n xs)(q:∀(k:Nat) (o:Array Value) (f:Nat×Nat),base<=k->w.heap[k]?=some (.cells o e f)->w'.heap[k]?=w.heap[k]?):w'.ownsRow base e sz v n xs:=by
 obtain⟨h1,h2⟩:=h;refine⟨h1,?_⟩;rcases h2 with h2|⟨g,cap,cur,hv,hb,hg,r⟩
 ·exact .inl h2
 ·exact .inr ⟨g,cap,cur,hv,hb,(q g _ _ hb hg).trans hg,r⟩
theorem NJ {lo b1 m cp:Nat}{bs:List Bv}(O:w.ownsRow base 64 2 (.slice (some ⟨g,0,none⟩) m cp) m xs)(B:Bx w b1 bs xs)(ok:∀b∈bs,b.Ok)(hl:bs.length=m)(l0:lo<=base)(l1:lo<=b1):Bt lo w (some ⟨g,0,none⟩) m bs/\m<=cp:=by
 refine⟨fun W q=>?_,(Rw.open O).1⟩;have B2:Bx W b1 bs xs:=⟨B.len,fun j b hb=>by
  obtain⟨v,h1,h2,h3⟩:=B.at_ j b hb;exact⟨v,h1,h2,Bz h3 fun k o f hk e=>q k o _ f ab (.inr rfl) e⟩⟩
 have:=Yy (Bz O fun k o f hk e=>q k o _ f ab (.inl rfl) e) (B2.bw ok) 0 m ab;rw[List.drop_zero,aqI]at this;exact this
theorem TL {f:Int}{bs:List Bv}(h:∀b∈bs,b.Ok):∀b∈bJ f t bs,b.Ok:=fun b hb=>h b (arz.1 hb).1
theorem D9 (cap:Nat){bs:List Bv}(B:Bs w ao n bs)(hn:n*32<=140737488351232)(room pu sl:Int){f:Int}(hf:0<=f/\f<4294967296)(ht:0<=t/\t<4294967296):Calls prog 88 #[.agg #[.int .i64 room,.slice ao n cap,.int .i64 pu,.int .i64 sl],.agg #[.int .u32 f,.int .u32 t]] w fun e w'=>∃a m c,e=.returned (.agg #[.int .i64 room,.slice a m c,.int .i64 pu,.int .i64 (wrap64 (sl+((n:Int)-((bJ f t bs).length:Int))))])/\(Bt w.heap.size w' a m (bJ f t bs)/\m<=c)/\Gr w w':=by
 have CP:Hid (∀W:World,Gr w W->Calls prog 116 #[.agg #[.int .i64 room,.slice ao n cap,.int .i64 pu,.int .i64 sl]] W fun e w'=>∃g cp xs,e=.returned (.agg #[.int .i64 room,.slice (some ⟨g,0,none⟩) n cp,.int .i64 pu,.int .i64 sl])/\w'.ownsRow W.heap.size 64 2 (.slice (some ⟨g,0,none⟩) n cp) n xs/\Bx w' W.heap.size bs xs/\Gr W w'):=fun W G=>wV cap (B.of G) hn room pu sl
 have zS:Hid (∀b∈bs,b.Ok):=B.ok;have HL:Hid (bs.length=n):=B.len;have TO:Hid (∀W:World,_):=fun W=>Ad W f t
 obtain⟨CV,HC⟩:∃CV,Hid (CV=wrap64 (sl+((n:Int)-((bJ f t bs).length:Int)))):=⟨_,rfl⟩;rw[<-HC.out];have HKl:Hid ((bJ f t bs).length<=n):=by have:=LC f t bs bs.length;rw[ap9,B.len]at this;exact this
 have DF:Hid (∀(W:World) (base b1 g cp K:Nat) (xs:List Value),W.ownsRow base 64 2 (.slice (some ⟨g,0,none⟩) n cp) n xs->Bx W b1 bs xs->W.heap[K]?=some (.cells #[.int .u32 f,.int .u32 t] 175 (0,0))->_):=fun W base b1 g cp K xs O X hK=>NG O X HL ab zS hK ht.2
 clear B hf ht;go_enter func88,ntmps88;go_wp2_with fail;refine(CP _ ((((Gr.refl w).alloc _).alloc _).alloc _)).mono ?_;rintro e w1 ⟨g,cp,xs,rfl,O1,X1,G1⟩;have T1:=jo G1;have aU:=kH (((((Gr.refl w).alloc _).alloc _).alloc _).trans G1);have hsz:(((w.alloc (.cells #[.int .i64 room,.slice ao n cap,.int .i64 pu,.int .i64 sl] 54)).alloc (.cells #[.int .u32 f,.int .u32 t] 175)).alloc (.cells #[.int .i64 0,.slice none 0 0,.int .i64 0,.int .i64 0] 54)).heap.size=w.heap.size+1+1+1:=aq;rw[hsz]at O1 X1;have TM:=kH O1;have kL:=kH X1;have HT1:=kH T1;clear O1 X1 T1 G1 CP hsz;go_wp2_with fail;refine Bl (fun W=>(W.heap[w.heap.size]?=some (.cells #[.int .i64 room,.slice ao n cap,.int .i64 pu,.int .i64 sl] 54 (0,0))/\W.heap[w.heap.size+1]?=some (.cells #[.int .u32 f,.int .u32 t] 175 (0,0))/\W.heap[w.heap.size+1+1]?=some (.cells #[.int .i64 0,.slice none 0 0,.int .i64 0,.int .i64 0] 54 (0,0)))/\(W.ownsRow (w.heap.size+1+1+1) 64 2 (.slice (some ⟨g,0,none⟩) n cp) n xs/\Bx W (w.heap.size+1+1+1) bs xs)/\W.heap[w1.heap.size]?=some (.cells #[.int .i64 room,.slice (some ⟨g,0,none⟩) n cp,.int .i64 pu,.int .i64 sl] 54 (0,0))/\Gr w W) ?_ ?_
 ·have G:=(Gr.refl w1).alloc (.cells #[.int .i64 room,.slice (some ⟨g,0,none⟩) n cp,.int .i64 pu,.int .i64 sl] 54);exact⟨⟨aX G HT1.1,aX G HT1.2.1,aX G HT1.2.2⟩,⟨aC TM G,kL.of G⟩,at5 w1 _,aU.alloc _⟩
 have ho:=(apk.1 HT1.2.2).1;clear HT1 TM kL aU;generalize w1.heap.size=o at *
 clear w1;rintro W ⟨T0,OX0,R0,G0⟩;have HT:=kH T0;have NK:=kH OX0;have HR:=kH R0;have HG:=kH G0;have x1:W.cell? ⟨o,1,none⟩=some (.slice (some ⟨g,0,none⟩) n cp):=atZ _ _ _ _ _ _ R0;have q0:W.cell? ⟨w.heap.size+1,0,none⟩=some (.int .u32 f):=atZ _ _ _ _ _ _ T0.2.1;have q1:W.cell? ⟨w.heap.size+1,1,none⟩=some (.int .u32 t):=atZ _ _ _ _ _ _ T0.2.1;clear T0 OX0 R0 G0
 go_region_with (first
  |(go_at_call 118;refine(TO _).mono ?_;rintro e w2 ⟨K,rfl,hK,G2⟩;have HG2:Hid (Gr W w2):=Gr.trans b9 G2;have HK:Hid (w2.heap[K]?=some (.cells #[.int .u32 f,.int .u32 t] 175 (0,0))):=hK;have x2:w2.cell? ⟨o,1,none⟩=some (.slice (some ⟨g,0,none⟩) n cp):=atZ _ _ _ _ _ _ (aX HG2 HR);clear G2 hK)
  |(go_at_call 117;refine(DF _ _ _ g cp K xs (aC NK.1 HG2) (NK.2.of HG2) HK).mono ?_;rintro e w3 ⟨m,ys,rfl,hm,O3,X3,Q3⟩;have H3:Hid (((w3.heap[w.heap.size]?=some (.cells #[.int .i64 room,.slice ao n cap,.int .i64 pu,.int .i64 sl] 54 (0,0))/\w3.heap[w.heap.size+1]?=some (.cells #[.int .u32 f,.int .u32 t] 175 (0,0))/\w3.heap[w.heap.size+1+1]?=some (.cells #[.int .i64 0,.slice none 0 0,.int .i64 0,.int .i64 0] 54 (0,0)))/\(w3.ownsRow (w.heap.size+1+1+1) 64 2 (.slice (some ⟨g,0,none⟩) m cp) m ys/\Bx w3 (w.heap.size+1+1+1) (bJ f t bs) ys)/\w3.heap[o]?=some (.cells #[.int .i64 room,.slice (some ⟨g,0,none⟩) n cp,.int .i64 pu,.int .i64 sl] 54 (0,0)))/\Gr w w3/\(bJ f t bs).length=m):=(⟨⟨⟨dL (aC NK.1 HG2) Q3 (aX HG2 HT.1) an,dL (aC NK.1 HG2) Q3 (aX HG2 HT.2.1) an,dL (aC NK.1 HG2) Q3 (aX HG2 HT.2.2) an⟩,⟨O3,X3⟩,dL (aC NK.1 HG2) Q3 (aX HG2 HR) an⟩,WM (HG.trans HG2) (by have:=(NK.1.lt g rfl).1;omega) Q3,hm⟩);have y1:w3.cell? ⟨o,1,none⟩=some (.slice (some ⟨g,0,none⟩) n cp):=atZ _ _ _ _ _ _ H3.1.2.2;have yf:w3.frozen? ⟨o,1,none⟩=false:=aus _ _ _ _ _ H3.1.2.2;clear hm O3 X3 Q3))
 all_goals
  refine Bl (fun W=>(W.heap[w.heap.size]?=some (.cells #[.int .i64 room,.slice ao n cap,.int .i64 pu,.int .i64 sl] 54 (0,0))/\W.heap[w.heap.size+1]?=some (.cells #[.int .u32 f,.int .u32 t] 175 (0,0))/\W.heap[w.heap.size+1+1]?=some (.cells #[.int .i64 0,.slice none 0 0,.int .i64 0,.int .i64 0] 54 (0,0)))/\(W.ownsRow (w.heap.size+1+1+1) 64 2 (.slice (some ⟨g,0,none⟩) m cp) m ys/\Bx W (w.heap.size+1+1+1) (bJ f t bs) ys)/\W.heap[o]?=some (.cells #[.int .i64 room,.slice (some ⟨g,0,none⟩) m cp,.int .i64 pu,.int .i64 sl] 54 (0,0))/\Gr w W) ?_ ?_
  ·obtain⟨⟨⟨t0,t1,t2⟩,⟨O3,X3⟩,R3⟩,G3,_⟩:=H3;refine⟨⟨?_,?_,?_⟩,⟨?_,?_⟩,?_,?_⟩
   ·rw[auv _ _ _ _ (by show w.heap.size≠o;omega)];exact t0
   ·rw[auv _ _ _ _ (by show w.heap.size+1≠o;omega)];exact t1
   ·rw[auv _ _ _ _ (by show w.heap.size+1+1≠o;omega)];exact t2
   ·exact aj O3 fun q c r hq=>auv _ _ _ _ (by exact aa hq R3 an)
   ·exact X3.to fun q c r hq=>auv _ _ _ _ (by exact aa hq R3 an)
   ·rw[aul _ _ _ _ _ _ R3];rfl
   ·exact G3.setCell (by show w.heap.size<=o;omega) _
  have HM:=kH H3.2.2;clear y1 yf H3 HG2 HK HT NK HR HG x2;clear w3 w2 x1 q0 q1;clear W;rintro W ⟨T0,OX0,R0,G0⟩;have HT:=kH T0;have NK:=kH OX0;have HR:=kH R0;have HG:=kH G0;have c1:W.cell? ⟨w.heap.size,1,none⟩=some (.slice ao n cap):=atZ _ _ _ _ _ _ T0.1;have x0:W.cell? ⟨o,0,none⟩=some (.int .i64 room):=atZ _ _ _ _ _ _ R0;have x1:W.cell? ⟨o,1,none⟩=some (.slice (some ⟨g,0,none⟩) m cp):=atZ _ _ _ _ _ _ R0;have x2:W.cell? ⟨o,2,none⟩=some (.int .i64 pu):=atZ _ _ _ _ _ _ R0;have x3:W.cell? ⟨o,3,none⟩=some (.int .i64 sl):=atZ _ _ _ _ _ _ R0;have xf:W.frozen? ⟨o,3,none⟩=false:=aus _ _ _ _ _ R0;have z0:W.cell? ⟨w.heap.size+1+1,0,none⟩=some (.int .i64 0):=atZ _ _ _ _ _ _ T0.2.2;have z1:W.cell? ⟨w.heap.size+1+1,1,none⟩=some (.slice none 0 0):=atZ _ _ _ _ _ _ T0.2.2;have z2:W.cell? ⟨w.heap.size+1+1,2,none⟩=some (.int .i64 0):=atZ _ _ _ _ _ _ T0.2.2;have z3:W.cell? ⟨w.heap.size+1+1,3,none⟩=some (.int .i64 0):=atZ _ _ _ _ _ _ T0.2.2;have zf:∀j,W.frozen? ⟨w.heap.size+1+1,j,none⟩=false:=fun j=>aus _ _ _ _ _ T0.2.2
  have hne:¬w.heap.size+1+1=o:=ab;have hne2:¬o=w.heap.size+1+1:=ab;have lU:m<=n:=by have:=HKl;rw[HM.out]at this;exact this
  clear T0 OX0 R0 G0 TO DF;go_wp2_with fail;generalize hS:wrap64 (sl+((n:Int)-(m:Int)))=SV at *
  have HS:Hid (wrap64 (sl+((n:Int)-(m:Int)))=SV):=hS;clear hS;have e1:(W.setCell ⟨o,3,none⟩ (.int .i64 SV)).heap[w.heap.size+1+1]?=some (.cells #[.int .i64 0,.slice none 0 0,.int .i64 0,.int .i64 0] 54 (0,0)):=(auv _ _ _ _ (by exact hne)).trans HT.2.2;have hk:∀(k:Nat) (c:Array Value) (r:Nat) (z:Nat×Nat),W.heap[k]?=some (.cells c r z)->r≠54->(((((W.setCell ⟨o,3,none⟩ (.int .i64 SV)).setCell ⟨w.heap.size+1+1,0,none⟩ (.int .i64 room)).setCell ⟨w.heap.size+1+1,1,none⟩ (.slice (some ⟨g,0,none⟩) m cp)).setCell ⟨w.heap.size+1+1,2,none⟩ (.int .i64 pu)).setCell ⟨w.heap.size+1+1,3,none⟩ (.int .i64 SV)).heap[k]?=W.heap[k]?:=fun k c r z hq hr=>by
   rw[yI _ _ _ _ _ _ (aa hq HT.out.2.2 hr),auv _ _ _ _ (by exact aa hq HR.out hr)]
  refine auc (v:=.agg #[.int .i64 room,.slice (some ⟨g,0,none⟩) m cp,.int .i64 pu,.int .i64 SV]) (auD results88 _ _ _ _ _ (0,0) _ rfl (uC e1 _ _ _ _) underlying54 rfl wF) rfl ⟨some ⟨g,0,none⟩,m,cp,by rw[HC.out,HM.out,HS.out],?_,?_⟩
  ·exact NJ (aj NK.1 fun q c r hq=>hk q c _ r hq an) (NK.2.to fun q c r hq=>hk q c _ r hq an) (TL zS) HM ab ab
  ·have q1:w.heap.size<=w.heap.size+1+1:=ab;exact((((HG.setCell (by show w.heap.size<=o;omega) _).setCell (by exact q1) _).setCell (by exact q1) _).setCell (by exact q1) _).setCell (by exact q1) _
end Kc
namespace En
open Mm Hh Hc Mc
def rsE (room:Int) (a:Option Addr) (n cap:Nat) (pu sl:Int) (mb:Nat):List Value:=[.int .i64 room,.slice a n cap,.int .i64 pu,.int .i64 sl,.map (some mb)]
structure Ew (lo:Nat) (w:World) (base g:Nat) (room:Int) (M:Value) (gh hc:Nat) (O:Value) (a:Option Addr) (n cap mb mn:Nat) (D:DataW Value) (s:Sh) (L:List Kc.Bv) (pu sl:Int):Prop where
 bw:Bw 94 (rsE room a n cap pu sl mb) w base g M gh hc O s
 bt:Kc.Bt lo w a n L
 cap:n<=cap
 bm:base<=mb
 map:w.ownsMap prog 37 Rh mb mn D
 code:∀b∈L,∃ca cn cc,(∀z,D.atKey (.int .u32 b.pc) z=.held (.slice ca cn cc))/\Ts.Ct w ca cn (Ts.aS b.pc b.is 0)
def si (w:World) (g:Nat) (r:Int) (a':Option Addr) (n' cap':Nat) (kZ sl':Int):World:=(((w.setCell ⟨g,4,none⟩ (.int .i64 r)).setCell ⟨g,5,none⟩ (.slice a' n' cap')).setCell ⟨g,6,none⟩ (.int .i64 kZ)).setCell ⟨g,7,none⟩ (.int .i64 sl')
def Ev (lo:Nat) (w:World) (base g:Nat) (room:Int) (s:Sh) (L:List Kc.Bv) (pu sl:Int) (mn:Nat):Prop:=∃M gh hc O a n cap mb D,Ew lo w base g room M gh hc O a n cap mb mn D s L pu sl
structure Fm (base:Nat) (w w':World):Prop where
 below:Below base w w'
 keep:∀(k:Nat) (q:Array Value) (t:Nat) (f:Nat×Nat),w.heap[k]?=some (.cells q t f)->t≠94->w'.heap[k]?=w.heap[k]?
theorem Fm.refl (base:Nat)(w:World):Fm base w w:=⟨auC _ _,fun _ _ _ _ _ _=>rfl⟩
theorem Fm.trans {base:Nat}{a b c:World}(h:Fm base a b)(k:Fm base b c):Fm base a c:=⟨h.below.trans k.below,fun i q t f e t1=>(k.keep i q t f ((h.keep i q t f e t1).trans e) t1).trans (h.keep i q t f e t1)⟩
theorem Fm.bD (G:Gr w w')(hb:base<=w.heap.size):Fm base w w':=⟨aun G hb,fun i q t f e _=>G.block i (gs e).1⟩
theorem Fm.row {base:Nat}{w w':World}(h:Fm base w w'){k:Nat}{q:Array Value}{t:Nat}{f:Nat×Nat}(e:w.heap[k]?=some (.cells q t f))(t1:t≠94):w'.heap[k]?=some (.cells q t f):=(h.keep k q t f e t1).trans e
theorem Fm.set {a:World}(h:Fm base a w)(hy:w.heap[g]?=some (.cells Y 94 f))(hg:base<=g)(i:Nat)(v:Value):Fm base a (w.setCell ⟨g,i,none⟩ v):=⟨auS h.below (by exact hg) _,fun k q t f' e t1=>by
 have e2:=h.row e t1;rw[hso (by exact aa e2 hy t1)];exact h.keep k q t f' e t1⟩
theorem Fm.setRow {base k:Nat}{w w':World}(h:Fm base w w')(hb:base<=k)(hk:w.heap.size<=k)(cs:Array Value):Fm base w (w'.setRow k cs):=⟨below_setRow h.below hb cs,fun i q t f e t1=>by have:=(gs e).1;rw[sV ab];exact h.keep i q t f e t1⟩
section
variable{lo:Nat}{w w':World}{base g gh hc:Nat}{room:Int}{M O:Value}{a:Option Addr}{n cap mb mn:Nat}{D:DataW Value}{s:Sh}{L:List Kc.Bv}{pu sl:Int}
variable{D':DataW Value}{L':List Kc.Bv}{cd:List Mi.Mv}
theorem Bw.to {ty:Nat}{rs:List Value}(B:Bw ty rs w base g M gh hc O s)(q:∀(k:Nat) (o:Array Value) (t:Nat) (f:Nat×Nat),w.heap[k]?=some (.cells o t f)->w'.heap[k]?=w.heap[k]?):Bw ty rs w' base g M gh hc O s:=⟨B.t1,B.t2,B.t3,B.bg,(q _ _ _ _ B.blk).trans B.blk,B.mem.to fun k o f e=>q k o _ f e,B.bh,B.row.to fun k o f e=>q k o _ f e,aj B.out fun k o f e=>q k o _ f e,⟨B.hz.1.to fun k o f e=>q k o _ f e,B.hz.2⟩⟩
theorem l8 (h:w.ownsMap prog 37 Rh mb mn D)(e:w'.heap[mb]?=w.heap[mb]?):w'.ownsMap prog 37 Rh mb mn D:=by obtain⟨es,clock,hb,r⟩:=h;exact⟨es,clock,e.trans hb,r⟩
theorem Ew.of (E:Ew lo w base g room M gh hc O a n cap mb mn D s L pu sl)(G:Gr w w'):Ew lo w' base g room M gh hc O a n cap mb mn D s L pu sl:=
 ⟨E.bw.of G,E.bt.of G,E.cap,E.bm,l8 E.map (G.block _ E.map.lt),fun b hb=>by
  obtain⟨ca,cn,cc,h1,h2⟩:=E.code b hb;exact⟨ca,cn,cc,h1,h2.of G⟩⟩
theorem Ev.of (E:Ev lo w base g room s L pu sl mn)(G:Gr w w'):Ev lo w' base g room s L pu sl mn:=by obtain⟨M,gh,hc,O,a,n,cap,mb,D,E⟩:=E;exact⟨M,gh,hc,O,a,n,cap,mb,D,E.of G⟩
theorem Ew.ay (E:Ew lo w base g room M gh hc O a n cap mb mn D s L pu sl):base<=w.heap.size:=E.bw.ay
theorem yJ (h:w.ownsMap prog 37 Rh mb mn D)(q:w.grownBy w' (some mb)):∀(k:Nat) (o:Array Value) (t:Nat) (f:Nat×Nat),w.heap[k]?=some (.cells o t f)->w'.heap[k]?=w.heap[k]?:=fun k o t f e=>by refine q.block k (gs e).1 (fun hk=>?_);injection hk with hk;subst hk;obtain⟨es,clock,hb,_⟩:=h;rw[hb]at e;cases e
theorem adw {W:World}(B:Kc.Bt lo w a n L)(F:Fe 94 base w W):Kc.Bt lo W a n L:=B.to fun k o t f _ ht e=>F.cells e (by rcases ht with rfl|rfl<;>decide) (by rcases ht with rfl|rfl<;>decide) (by rcases ht with rfl|rfl<;>decide)
theorem Xc {W:World}(B:Kc.Bt lo w a n L)(F:Fm base w W):Kc.Bt lo W a n L:=B.to fun k o t f _ ht e=>F.keep k o t f e (by rcases ht with rfl|rfl<;>decide)
theorem Xd {W:World}(C:Ts.Ct w ca cn cd)(F:Fm base w W):Ts.Ct W ca cn cd:=C.to fun k o f e=>F.keep k o _ f e an
theorem adx {W:World}(C:Ts.Ct w ca cn cd)(F:Fe 94 base w W):Ts.Ct W ca cn cd:=C.to fun k o f e=>F.cells e an an an
theorem Ew.turn (E:Ew lo w base g room M gh hc O a n cap mb mn D s L pu sl)(q:w.grownBy w' (some mb))(h:w'.ownsMap prog 37 Rh mb iK D')(hc':∀b∈L,∀z,D'.atKey (.int .u32 b.pc) z=D.atKey (.int .u32 b.pc) z):Ew lo w' base g room M gh hc O a n cap mb iK D' s L pu sl/\Fm base w w':=by have st:=yJ E.map q;refine⟨⟨Bw.to E.bw st,E.bt.to fun k o t f _ _ e=>st k o t f e,E.cap,E.bm,h,fun b hb=>?_⟩,⟨(auC base w).grown q E.ay (fun k hk=>by injection hk with hk;subst hk;exact E.bm),fun k o t f e _=>st k o t f e⟩⟩;obtain⟨ca,cn,cc,h1,h2⟩:=E.code b hb;exact⟨ca,cn,cc,fun z=>(hc' b hb z).trans (h1 z),h2.to fun k o f e=>st k o _ f e⟩
theorem Ew.take (E:Ew lo w base g room M gh hc O a n cap mb mn D s L pu sl){s':Sh}(B:Bd 94 (rsE room a n cap pu sl mb) w' base g s')(F:Fe 94 base w w'):Ev lo w' base g room s' L pu sl mn:=by
 obtain⟨M',gh',hc',O',B⟩:=B;refine⟨M',gh',hc',O',a,n,cap,mb,D,B,adw E.bt F,E.cap,E.bm,?_,fun b hb=>?_⟩
 ·obtain⟨es,clock,hb,r⟩:=E.map;exact⟨es,clock,F.keep mb _ hb (fun _ _ h=>by cases h) (fun _ _ h=>by cases h) (fun _ _ h=>by cases h),r⟩
 ·obtain⟨ca,cn,cc,h1,h2⟩:=E.code b hb;exact⟨ca,cn,cc,h1,adx h2 F⟩
theorem Ew.mid (E:Ew lo w base g room M gh hc O a n cap mb mn D s L pu sl)(r:Int)(a':Option Addr)(n' cap':Nat)(kZ sl':Int):Bw 94 (rsE r a' n' cap' kZ sl' mb) (si w g r a' n' cap' kZ sl') base g M gh hc O s/\Fm base w (si w g r a' n' cap' kZ sl')/\(si w g r a' n' cap' kZ sl').ownsMap prog 37 Rh mb mn D:=by
 have B0:=E.bw.vM 0 (.int .i64 r);have B1:=B0.vM 1 (.slice a' n' cap');have B2:=B1.vM 2 (.int .i64 kZ);have B3:=B2.vM 3 (.int .i64 sl');have F:Fe 94 base w (si w g r a' n' cap' kZ sl'):=
  ((((Fe.refl base w).setCell E.bw.blk E.bw.bg _ _).setCell B0.blk E.bw.bg _ _).setCell B1.blk E.bw.bg _ _).setCell B2.blk E.bw.bg _ _
 refine⟨B3,((((Fm.refl base w).set E.bw.blk E.bw.bg _ _).set B0.blk E.bw.bg _ _).set B1.blk E.bw.bg _ _).set B2.blk E.bw.bg _ _,?_⟩;obtain⟨es,clock,hb,r⟩:=E.map;exact⟨es,clock,F.keep mb _ hb (fun _ _ h=>by cases h) (fun _ _ h=>by cases h) (fun _ _ h=>by cases h),r⟩
theorem Ew.set (E:Ew lo w base g room M gh hc O a n cap mb mn D s L pu sl)(kZ sl':Int)(B:Kc.Bt lo' w a' n' L')(hcap:n'<=cap')(hc':∀b∈L',b∈L):Ew lo' (si w g room a' n' cap' kZ sl') base g room M gh hc O a' n' cap' mb mn D s L' kZ sl'/\Fm base w (si w g room a' n' cap' kZ sl'):=by obtain⟨B3,F,m⟩:=E.mid room a' n' cap' kZ sl';refine⟨⟨B3,Xc B F,hcap,E.bm,m,fun b hb=>?_⟩,F⟩;obtain⟨ca,cn,cc,h1,h2⟩:=E.code b (hc' b hb);exact⟨ca,cn,cc,h1,Xd h2 F⟩
theorem Ew.put (E:Ew lo w base g room M gh hc O a n cap mb mn D s L pu sl){kZ sl':Int}(B:Kc.Bt lo' w a' n' L')(hcap:n'≤cap'){W:World}(q:(si w g room a' n' cap' kZ sl').grownBy W (some mb))(h:W.ownsMap prog 37 Rh mb iK D')(hc':∀b∈L',∃ca cn cc,(∀z,D'.atKey (.int .u32 b.pc) z=.held (.slice ca cn cc))/\Ts.Ct w ca cn (Ts.aS b.pc b.is 0)):Ew lo' W base g room M gh hc O a' n' cap' mb iK D' s L' kZ sl'/\Fm base w W:=by obtain⟨B3,F,m⟩:=E.mid room a' n' cap' kZ sl';have st:=yJ m q;refine⟨⟨Bw.to B3 st,(Xc B F).to fun k o t f _ _ e=>st k o t f e,hcap,E.bm,h,fun b hb=>?_⟩,F.trans ⟨(auC base _).grown q B3.ay (fun k hk=>by injection hk with hk;subst hk;exact E.bm),fun k o t f e _=>st k o t f e⟩⟩;obtain⟨ca,cn,cc,h1,h2⟩:=hc' b hb;exact⟨ca,cn,cc,h1,(Xd h2 F).to fun k o f e=>st k o _ f e⟩
theorem Ew.row (E:Ew lo w base g room M gh hc O a n cap mb mn D s L pu sl){z:Nat}{Z:Array Value}(hz:w.heap[z]?=some (.cells Z 64 (0,0)))(hl:z<lo)(cs:Array Value):Ew lo (w.setRow z cs) base g room M gh hc O a n cap mb mn D s L pu sl:=by
 have st:∀(k:Nat) (o:Array Value) (t:Nat) (f:Nat×Nat),t≠64->w.heap[k]?=some (.cells o t f)->(w.setRow z cs).heap[k]?=w.heap[k]?:=fun k o t f ht e=>sV (aa e hz ht)
 refine⟨⟨E.bw.t1,E.bw.t2,E.bw.t3,E.bw.bg,(st _ _ _ _ an E.bw.blk).trans E.bw.blk,E.bw.mem.to fun k o f e=>st k o _ f an e,E.bw.bh,E.bw.row.to fun k o f e=>st k o _ f an e,aj E.bw.out fun k o f e=>st k o _ f an e,⟨E.bw.hz.1.to fun k o f e=>st k o _ f an e,E.bw.hz.2⟩⟩,E.bt.to fun k o t f hk _ e=>sV ab,E.cap,E.bm,l8 E.map (sV (fun e=>?_)),fun b hb=>?_⟩
 ·obtain⟨es,clock,hb,_⟩:=E.map;rw[e,hz]at hb;cases hb
 ·obtain⟨ca,cn,cc,h1,h2⟩:=E.code b hb;exact⟨ca,cn,cc,h1,h2.to fun k o f e=>st k o _ f an e⟩
theorem Ev.row (E:Ev lo w base g room s L pu sl mn){z:Nat}{Z:Array Value}(hz:w.heap[z]?=some (.cells Z 64 (0,0)))(hl:z<lo)(cs:Array Value):Ev lo (w.setRow z cs) base g room s L pu sl mn:=by obtain⟨M,gh,hc,O,a,n,cap,mb,D,E⟩:=E;exact⟨M,gh,hc,O,a,n,cap,mb,D,E.row hz hl cs⟩
theorem Ew.low (E:Ew lo w base g room M gh hc O a n cap mb mn D s L pu sl):Ew 0 w base g room M gh hc O a n cap mb mn D s L pu sl:=⟨E.bw,E.bt.low (apF _),E.cap,E.bm,E.map,E.code⟩
theorem Ev.low (E:Ev lo w base g room s L pu sl mn):Ev 0 w base g room s L pu sl mn:=by obtain⟨M,gh,hc,O,a,n,cap,mb,D,E⟩:=E;exact⟨M,gh,hc,O,a,n,cap,mb,D,E.low⟩
theorem Ew.c4 (E:Ew lo w base g room M gh hc O a n cap mb mn D s L pu sl):w.cell? ⟨g,4,none⟩=some (.int .i64 room):=E.bw.rest 0
theorem Ew.c5 (E:Ew lo w base g room M gh hc O a n cap mb mn D s L pu sl):w.cell? ⟨g,5,none⟩=some (.slice a n cap):=E.bw.rest 1
theorem Ew.c6 (E:Ew lo w base g room M gh hc O a n cap mb mn D s L pu sl):w.cell? ⟨g,6,none⟩=some (.int .i64 pu):=E.bw.rest 2
theorem Ew.c7 (E:Ew lo w base g room M gh hc O a n cap mb mn D s L pu sl):w.cell? ⟨g,7,none⟩=some (.int .i64 sl):=E.bw.rest 3
theorem Ew.c8 (E:Ew lo w base g room M gh hc O a n cap mb mn D s L pu sl):w.cell? ⟨g,8,none⟩=some (.map (some mb)):=E.bw.rest 4
theorem Jw {pd:Lit->DataW Value->Bool}{kl:Lit}(h:∀d,pd kl d=false)(z:DataW Value):(Lib.deleteFuncD pd D).atKey kl z=D.atKey kl z:=by
 cases D with
 |map es=>
  simp only[Lib.deleteFuncD,DataW.atKey];rw[Maps.find_filter_keep fun p hp=>by rw[WideAt.sameKey_eq hp,h];rfl]
 |_=>rfl
theorem uE (E:Ew lo w base g room M gh hc O a n cap mb mn D s L pu sl)(hn:n<=140737488351232):Calls prog 89 #[.pointer (some ⟨g,0,none⟩)] w fun e w'=>e=.returned (.tuple #[])/\(∃D',Ew lo w' base g room M gh hc O a n cap mb mn D' s L pu sl)/\Fm base w w':=by
 have HM:Hid (∀(W:World) (C:Nat),Gr w W->W.cell? ⟨C,0,none⟩=some (.pointer (some ⟨g,0,none⟩))->Calls prog 119 #[.map (some mb),.func (.func 120) #[] #[.pointer (some ⟨C,0,none⟩)]] W fun e w'=>e=.returned (.tuple #[])/\(∃D',Ew lo w' base g room M gh hc O a n cap mb mn D' s L pu sl)/\Fm base w w'):=fun W C G kc=>by
  have EW:=E.of G;refine(LJ (fun kl _=>match kl with|.int _ x=>!decide (0<=Kc.place x L 0)|_=>true) C EW.map ?_).mono ?_
  ·intro V x v q h0 h1;have st:=yJ EW.map q;have ck:V.cell? ⟨C,0,none⟩=some (.pointer (some ⟨g,0,none⟩)):=by
    have hne:some C≠some mb:=fun hk=>by
     injection hk with hk;subst hk;obtain⟨es,clock,hb,_⟩:=EW.map;simp[World.cell?,hb]at kc
    exact(aui (q.block C (aug W _ kc) hne)).trans kc
   have c5:=(aui (st _ _ _ _ EW.bw.blk)).trans EW.c5;exact LM ck c5 (EW.bt.to fun k o t f _ _ e=>st k o t f e).bs hn x v
  ·rintro e w' ⟨rfl,hm,q⟩;have:=EW.turn q hm (fun b hb z=>Jw (fun d=>by
    have:0<=Kc.place b.pc L 0:=by
     obtain⟨i,hi⟩:=aqe.1 hb;exact WX hi
    simp[this]) z)
   exact⟨rfl,⟨_,this.1⟩,(Fm.bD G E.ay).trans this.2⟩
 have k8:=E.c8;have hg:=E.bw.lt;go_enter func89,ntmps89;go_wp2_with fail;refine(HM _ w.heap.size br aq).mono ?_;rintro e w1 ⟨rfl,h1,h2⟩;have H1:=kH h1;have H2:=kH h2;go_wp2_with fail;go_end0;exact⟨rfl,H1,H2⟩
end
end En
namespace Kc
open Mm Ts Hc
structure Once (P:Prop):Prop where
 out:P
theorem share {P Q:Prop}(h:Once P->Q)(p:P):Q:=h ⟨p⟩
structure Ps (w W:World) (o:Nat) (room pu sl bp:Int) (va:Option Addr) (vn vc g m cp:Nat) (L:List Bv) (xs:List Value):Prop where
 lo:w.heap.size+1+1<o
 b:W.heap[w.heap.size+1]?=some (.cells #[.int .u32 bp,.slice va vn vc] 64 (0,0))
 z:W.heap[w.heap.size+1+1]?=some (.cells #[.int .i64 0,.slice none 0 0,.int .i64 0,.int .i64 0] 54 (0,0))
 r:W.heap[o]?=some (.cells #[.int .i64 room,.slice (some ⟨g,0,none⟩) m cp,.int .i64 pu,.int .i64 sl] 54 (0,0))
 own:W.ownsRow (w.heap.size+1+1+1) 64 2 (.slice (some ⟨g,0,none⟩) m cp) m xs
 bx:Bx W w.heap.size L xs
 len:L.length=m
 gr:Gr w W
section
variable{w W W':World}{o:Nat}{room pu sl bp:Int}{va:Option Addr}{vn vc g m cp:Nat}{L:List Bv}{xs:List Value}
theorem Ps.of (P:Ps w W o room pu sl bp va vn vc g m cp L xs)(G:Gr W W'):Ps w W' o room pu sl bp va vn vc g m cp L xs:=⟨P.lo,aX G P.b,aX G P.z,aX G P.r,aC P.own G,P.bx.of G,P.len,P.gr.trans G⟩
theorem Ps.row (P:Ps w W o room pu sl bp va vn vc g m cp L xs)(Q:Ch g W W'):W'.heap[o]?=some (.cells #[.int .i64 room,.slice (some ⟨g,0,none⟩) m cp,.int .i64 pu,.int .i64 sl] 54 (0,0)):=dL P.own Q P.r an
theorem Ps.put (P:Ps w W o room pu sl bp va vn vc g m cp L xs)(Q:Ch g W W'){g' m' cp':Nat}{L':List Bv}(O:W'.ownsRow (w.heap.size+1+1+1) 64 2 (.slice (some ⟨g',0,none⟩) m' cp') m' ys)(X:Bx W' w.heap.size L' ys)(hl:L'.length=m'):Ps w (W'.setCell ⟨o,1,none⟩ (.slice (some ⟨g',0,none⟩) m' cp')) o room pu sl bp va vn vc g' m' cp' L' ys:=by
 have hg:=(P.own.lt g rfl).1;have hr:=P.row Q;have hlo:=P.lo;refine⟨P.lo,?_,?_,?_,?_,?_,hl,?_⟩
 ·rw[hso (by show w.heap.size+1≠o;omega),Q.block _ (gs P.b).1 (fun e=>by injection e with e;omega)];exact P.b
 ·rw[hso (by show w.heap.size+1+1≠o;omega),Q.block _ (gs P.z).1 (fun e=>by injection e with e;omega)];exact P.z
 ·rw[hss hr];rfl
 ·exact aj O fun q c r hq=>hso (by exact aa hq hr an)
 ·exact X.to fun q c r hq=>hso (by exact aa hq hr an)
 ·exact(WM P.gr ab Q).setCell (by show w.heap.size<=o;omega) _
theorem Ps.push (P:Ps w W o room pu sl bp va vn vc g m cp L xs)(v:Int):Ps w (W.setCell ⟨o,2,none⟩ (.int .i64 v)) o room v sl bp va vn vc g m cp L xs:=by
 have hlo:=P.lo;have hr:=P.r;refine⟨P.lo,?_,?_,?_,?_,?_,P.len,?_⟩
 ·rw[hso (by show w.heap.size+1≠o;omega)];exact P.b
 ·rw[hso (by show w.heap.size+1+1≠o;omega)];exact P.z
 ·rw[hss hr];rfl
 ·exact aj P.own fun q c r hq=>hso (by exact aa hq hr an)
 ·exact P.bx.to fun q c r hq=>hso (by exact aa hq hr an)
 ·exact P.gr.setCell (by show w.heap.size<=o;omega) _
theorem Ps.fin (P:Ps w W o room pu sl bp va vn vc g m cp L xs)(ok:∀b∈L,b.Ok):((((W.setCell ⟨w.heap.size+1+1,0,none⟩ (.int .i64 room)).setCell ⟨w.heap.size+1+1,1,none⟩ (.slice (some ⟨g,0,none⟩) m cp)).setCell ⟨w.heap.size+1+1,2,none⟩ (.int .i64 pu)).setCell ⟨w.heap.size+1+1,3,none⟩ (.int .i64 sl)).heap[w.heap.size+1+1]?=some (.cells #[.int .i64 room,.slice (some ⟨g,0,none⟩) m cp,.int .i64 pu,.int .i64 sl] 54 (0,0))/\(Bt w.heap.size ((((W.setCell ⟨w.heap.size+1+1,0,none⟩ (.int .i64 room)).setCell ⟨w.heap.size+1+1,1,none⟩ (.slice (some ⟨g,0,none⟩) m cp)).setCell ⟨w.heap.size+1+1,2,none⟩ (.int .i64 pu)).setCell ⟨w.heap.size+1+1,3,none⟩ (.int .i64 sl)) (some ⟨g,0,none⟩) m L/\m<=cp)/\Gr w ((((W.setCell ⟨w.heap.size+1+1,0,none⟩ (.int .i64 room)).setCell ⟨w.heap.size+1+1,1,none⟩ (.slice (some ⟨g,0,none⟩) m cp)).setCell ⟨w.heap.size+1+1,2,none⟩ (.int .i64 pu)).setCell ⟨w.heap.size+1+1,3,none⟩ (.int .i64 sl)):=by
 refine⟨uC P.z _ _ _ _,NJ (aj P.own fun q c r hq=>yI _ _ _ _ _ _ (aa hq P.z an)) (P.bx.to fun q c r hq=>yI _ _ _ _ _ _ (aa hq P.z an)) ok P.len ab (apn _),?_⟩;have q1:w.heap.size<=w.heap.size+1+1:=ab;exact(((P.gr.setCell (by exact q1) _).setCell (by exact q1) _).setCell (by exact q1) _).setCell (by exact q1) _
end
theorem Xe:∀(bs:List Bv) (j i:Nat),o6 ((i+j:Nat):Int) bs i=bs.take j++bs.drop (j+1)
 | [],j,i=>by simp[o6]
 |b::r,0,i=>by
  unfold o6;rw[at7 aq,pU ab];rfl
 |b::r,j+1,i=>by
  unfold o6;rw[ak,show i+(j+1)=i+1+j by omega,Xe r j (i+1)];rfl
theorem Zf (bs:List Bv):o6 (-1) bs 0=bs:=pU ab
theorem Zg (w:World)(room pu sl bp:Int)(ao va:Option Addr)(n cap vn vc:Nat)(hv:vn<1\/16<vn)(hvb:vn<=140737488351232):Calls prog 141 #[.agg #[.int .i64 room,.slice ao n cap,.int .i64 pu,.int .i64 sl],.agg #[.int .u32 bp,.slice va vn vc]] w fun e w'=>e=.returned (.tuple #[.agg #[.int .i64 0,.slice none 0 0,.int .i64 0,.int .i64 0],.int .i64 2])/\Gr w w':=by
 have hv2:vn=0\/¬(vn:Int)<1/\(16:Int)<(vn:Int):=ab;rcases hv2 with rfl|⟨h0,h1⟩
 all_goals
  go_enter func141,ntmps141;go_wp2_with fail;refine auc (v:=.tuple #[.agg #[.int .i64 0,.slice none 0 0,.int .i64 0,.int .i64 0],.int .i64 2]) (Hf.gm results141 _ _ _ _ _ (0,0) _ _ rfl rfl (jo (Gr.refl _)).2.2 underlying54 rfl wF) rfl ⟨rfl,(br.alloc _).alloc _⟩
theorem Ch.Xf (G:Gr w w'):Ch g w w':=(Ch.refl g w).gr G
theorem agO (cap:Nat){bs:List Bv}(B:Bs w ao n bs)(hn:n*32<=140737488351232)(room pu sl:Int){b0:Bv}(hb:Bc w b0 (.int .u32 b0.pc) (.slice va vn vc))(hv1:1<=vn)(hv2:vn<=16):Calls prog 141 #[.agg #[.int .i64 room,.slice ao n cap,.int .i64 pu,.int .i64 sl],.agg #[.int .u32 b0.pc,.slice va vn vc]] w fun e w'=>∃a m c,e=.returned (.tuple #[.agg #[.int .i64 room,.slice a m c,.int .i64 (rX room pu bs b0),.int .i64 sl],.int .i64 0])/\(Bt w.heap.size w' a m (jy room bs b0)/\m<=c)/\Gr w w':=by
 have CP:Hid (∀W:World,Gr w W->_):=fun W G=>wV cap (B.of G) hn room pu sl
 have zS:=kH B.ok;have HOb:=kH hb.ok;have HL:=kH B.len;have AT:Hid (∀W:World,_):=fun W=>LG W b0.pc
 have NH:Hid (∀(W:World) (K base b1 g cp:Nat) (xs:List Value),W.ownsRow base 64 2 (.slice (some ⟨g,0,none⟩) n cp) n xs->Bx W b1 bs xs->W.cell? ⟨K,0,none⟩=some (.int .u32 b0.pc)->Calls prog 136 #[.slice (some ⟨g,0,none⟩) n cp,.func (.func 163) #[] #[.pointer (some ⟨K,0,none⟩)]] W fun e w'=>e=.returned (.int .i64 (place b0.pc bs 0))/\Gr W w'):=fun W K base b1 g cp xs O X hk=>by
  obtain⟨hnc,cs,R,rfl⟩:=Rw.open O;rw[<-kK];exact LH cp (R.bq X HL) ab K (fun b=>decide (b.pc=b0.pc)) fun W' b sa sc G' _=>FD ((G'.cell _ (by exact aug W _ hk)).trans hk) b.pc sa b.is.length sc
 have WO:Hid (∀(W:World) (base b1 g m cp k:Nat) (L:List Bv) (xs:List Value),W.ownsRow base 64 2 (.slice (some ⟨g,0,none⟩) m cp) m xs->Bx W b1 L xs->L.length=m->k<m->_):=fun W base b1 g m cp k L xs O X hl hk=>D8 O X hl hk
 have CB:Hid (∀W:World,Gr w W->_):=fun W G=>qW (hb.of G)
 have HP:Hid (place b0.pc bs 0 = -1\/∃j:Nat,place b0.pc bs 0=(j:Int)/\j<n):=by
  rcases fU b0.pc bs 0 with h|⟨j,x,h,hx⟩
  ·exact .inl h
  ·rw[apu]at h;exact .inr ⟨j,h,by rw[<-HL.out];exact(apj.1 hx).1⟩
 have HSn:Hid (∀(W:World) (v:Value) (L:List Bv) (xs:List Value),Bx W w.heap.size L xs->Io W w.heap.size v b0.is->_):=fun W v L xs h1 h2=>h1.snoc h2
 have Gf:Hid (∀L1:List Bv,o6 (place b0.pc bs 0) bs 0=L1->(room<((L1.length+1:Nat):Int)->jy room bs b0=(L1++[b0]).drop 1/\rX room pu bs b0=wrap64 (pu+1))/\(¬room<((L1.length+1:Nat):Int)->jy room bs b0=L1++[b0]/\rX room pu bs b0=pu)):=fun L1 e=>by
  unfold jy rX;rw[e,apo,apW];exact⟨fun h=>⟨at7 h,at7 h⟩,fun h=>⟨at6 h,at6 h⟩⟩
 have adz:∀b∈jy room bs b0,b.Ok:=fun b hb2=>by
  have hsub:=yA bs (place b0.pc bs 0) 0;have h1:∀b∈o6 (place b0.pc bs 0) bs 0++[b0],b.Ok:=fun b h=>by
   rcases apR.1 h with h|h
   ·exact zS b (hsub.subset h)
   ·rw[apE]at h;rw[h];exact HOb
  unfold jy at hb2;split at hb2
  ·exact h1 b (aqR hb2)
  ·exact h1 b hb2
 have TN:=kH adz;obtain⟨i0,hi,hz0,hz1,hz2⟩:=auz LD;clear B hb adz;generalize jy room bs b0=PL at *
 generalize rX room pu bs b0=PP at *
 generalize b0.pc=bp at *
 rcases HP.out with hp|⟨j,hp,hj⟩
 ·have HRm:Hid (o6 (place bp bs 0) bs 0=bs):=by unfold Hid;rw[hp];exact Zf bs
  rw[hp]at NH;clear HP hp;go_enter func141,ntmps141;go_wp2_with fail;refine(CP _ ((((Gr.refl w).alloc _).alloc _).alloc _)).mono ?_;rintro e w1 ⟨g,cp,xs,rfl,O1,X1,G1⟩;have T1:=jo G1;have hsz:(((w.alloc (.cells #[.int .i64 room,.slice ao n cap,.int .i64 pu,.int .i64 sl] 54)).alloc (.cells #[.int .u32 bp,.slice va vn vc] 64)).alloc (.cells #[.int .i64 0,.slice none 0 0,.int .i64 0,.int .i64 0] 54)).heap.size=w.heap.size+1+1+1:=aq;rw[hsz]at O1 X1;have QZ:Hid (∀W,Gr w1 W->W.heap[w1.heap.size]?=some (.cells #[.int .i64 room,.slice (some ⟨g,0,none⟩) n cp,.int .i64 pu,.int .i64 sl] 54 (0,0))->Ps w W w1.heap.size room pu sl bp va vn vc g n cp bs xs):=fun W G hr=>
   ⟨(apk.1 T1.2.2).1,aX G T1.2.1,aX G T1.2.2,hr,aC O1 G,(X1.of G).low ab,HL,(((((Gr.refl w).alloc _).alloc _).alloc _).trans G1).trans G⟩
  clear O1 X1 T1 G1 CP hsz;go_wp2_with fail;refine Bl (fun W=>Ps w W w1.heap.size room pu sl bp va vn vc g n cp bs xs) (QZ _ ((Gr.refl w1).alloc _) (at5 w1 _)) ?_;clear QZ;generalize w1.heap.size=o at *
  clear w1;intro W P0;have nk:=kH P0;have x1:W.cell? ⟨o,1,none⟩=some (.slice (some ⟨g,0,none⟩) n cp):=atZ _ _ _ _ _ _ P0.r;have q0:W.cell? ⟨w.heap.size+1,0,none⟩=some (.int .u32 bp):=atZ _ _ _ _ _ _ P0.b;clear P0;apply share
  ·intro jO
   go_region_with (first
    |(go_at_call 137;refine(AT _).mono ?_;rintro e w2 ⟨K,rfl,hk,G2⟩;have HG2:Hid (Gr W w2):=Gr.trans b9 G2;have x2:w2.cell? ⟨o,1,none⟩=some (.slice (some ⟨g,0,none⟩) n cp):=atZ _ _ _ _ _ _ (nk.of HG2).r;clear G2)
    |(go_at_call 136;refine(NH _ K _ _ g cp xs (nk.of HG2).own (nk.of HG2).bx hk).mono ?_;rintro e w3 ⟨rfl,G3⟩;have KT:Hid (Ps w w3 o room pu sl bp va vn vc g n cp bs xs):=nk.of (HG2.trans G3);clear G3))
   all_goals
    clear x2 hk HG2;clear w2
    revert KT
    revert w3
    revert K
    exact jO.out
  clear nk x1 q0 NH AT;clear W;intro K W nk;have x1:W.cell? ⟨o,1,none⟩=some (.slice (some ⟨g,0,none⟩) n cp):=atZ _ _ _ _ _ _ nk.r;go_wp2_with fail;have q0:W.cell? ⟨w.heap.size+1,0,none⟩=some (.int .u32 bp):=atZ _ _ _ _ _ _ nk.b;have q1:W.cell? ⟨w.heap.size+1,1,none⟩=some (.slice va vn vc):=atZ _ _ _ _ _ _ nk.b;apply share
  ·intro jO
   go_region_law (first
    |(refine aZ rfl (.tmp 35) (.tmp 38) 52 rfl (w.heap.size+1+1+1) 64 i0 _ 2 32 underlying52 hi hz0 hz1 hz2 rfl an (.slice (some ⟨g,0,none⟩) n cp) n xs ar (aC ny.own (by repeat (first|exact Gr.refl w2|refine Gr.drewN ?_ _|refine Gr.drew ?_|refine Gr.alloc ?_ _))) ⟨w2.heap.size,0,none⟩ 1 1 [.int .u32 bp,.slice ia iq ic] ar rfl (dP aq aq) (tQ rfl rfl) bj ab (by have:=ny.lo;have:=(apk.1 ny.r).1;simp;omega) ?_;intro v' w' hown hgrow;obtain⟨g',cp',rfl⟩:=dh hown ab;have Jy:Hid (Ch g w2 w'):=(Ch.Xf (by repeat (first|exact Gr.refl w2|refine Gr.drewN ?_ _|refine Gr.drew ?_|refine Gr.alloc ?_ _))).trans hgrow;have Zi:Hid (w'.ownsRow (w.heap.size+1+1+1) 64 2 (.slice (some ⟨g',0,none⟩) (n+1) cp') (n+1) (xs++[.int .u32 bp,.slice ia iq ic])):=hown;have y1:w'.cell? ⟨o,1,none⟩=some (.slice (some ⟨g,0,none⟩) n cp):=atZ _ _ _ _ _ _ (ny.row Jy);have yf:w'.frozen? ⟨o,1,none⟩=false:=aus _ _ _ _ _ (ny.row Jy);clear hown hgrow)
    |(go_simp;go_wp2_with (go_at_call 138;refine(CB _ (Gr.trans nk.gr (by repeat (first|exact Gr.refl W|refine Gr.drewN ?_ _|refine Gr.drew ?_)))).mono ?_;rintro e w2 ⟨v2,rfl,I2,G2⟩;have HG2:Hid (Gr W w2):=Gr.trans (by repeat (first|exact Gr.refl W|refine Gr.drewN ?_ _|refine Gr.drew ?_)) G2;have ny:Hid (Ps w w2 o room pu sl bp va vn vc g n cp bs xs):=nk.of HG2;have HI2:Hid (Io w2 w.heap.size v2 b0.is):=I2.low (by have:=nk.gr.size;simpa using this);obtain⟨ia,ic,rfl⟩:=I2.shape;have x2:w2.cell? ⟨o,1,none⟩=some (.slice (some ⟨g,0,none⟩) n cp):=atZ _ _ _ _ _ _ ny.r;have ho2:o<w2.heap.size:=(apk.1 ny.r).1;clear I2 G2;generalize b0.is.length=iq at *)))
   all_goals
    have Xg:=HSn _ _ _ _ (ny.bx.to fun q c r hq=>(dL ny.own Jy hq an).trans hq.symm) (HI2.to fun q c r hq=>(dL ny.own Jy hq an).trans hq.symm);have qX:=ny.put Jy Zi Xg (by rw[apo,ny.out.len];rfl);refine Bl (fun W=>Ps w W o room pu sl bp va vn vc g' (n+1) cp' (bs++[b0]) (xs++[.int .u32 bp,.slice ia iq ic])) qX ?_;clear qX Xg y1 yf Jy Zi x2 ho2 HI2 ny HG2;clear w';generalize w2.heap.size=z9 at *
    clear w2
    revert cp'
    revert g'
    revert ic
    revert iq
    revert ia
    revert z9
    exact jO.out
  clear q0 q1 x1 CB nk;clear W;intro z9 ia iq ic g7 wX W P7;have qX:=kH P7;have x0:W.cell? ⟨o,0,none⟩=some (.int .i64 room):=atZ _ _ _ _ _ _ P7.r;have x1:W.cell? ⟨o,1,none⟩=some (.slice (some ⟨g7,0,none⟩) (n+1) wX):=atZ _ _ _ _ _ _ P7.r;have x2:W.cell? ⟨o,2,none⟩=some (.int .i64 pu):=atZ _ _ _ _ _ _ P7.r;have x3:W.cell? ⟨o,3,none⟩=some (.int .i64 sl):=atZ _ _ _ _ _ _ P7.r;have z0:W.cell? ⟨w.heap.size+1+1,0,none⟩=some (.int .i64 0):=atZ _ _ _ _ _ _ P7.z;have z1:W.cell? ⟨w.heap.size+1+1,1,none⟩=some (.slice none 0 0):=atZ _ _ _ _ _ _ P7.z;have z2:W.cell? ⟨w.heap.size+1+1,2,none⟩=some (.int .i64 0):=atZ _ _ _ _ _ _ P7.z;have z3:W.cell? ⟨w.heap.size+1+1,3,none⟩=some (.int .i64 0):=atZ _ _ _ _ _ _ P7.z;have zf:∀j,W.frozen? ⟨w.heap.size+1+1,j,none⟩=false:=fun j=>aus _ _ _ _ _ P7.z
  have hne:¬w.heap.size+1+1=o:=by have:=P7.lo;omega
  have hne2:¬o=w.heap.size+1+1:=by have:=P7.lo;omega
  clear P7;have HLm:Hid ((bs).length=n):=HL;by_cases hroom:room<(((bs).length+1:Nat):Int)
  ·obtain⟨e1,e2⟩:=(Gf _ HRm).1 hroom;have oK:Hid (PL=(bs++[b0]).drop 1/\PP=wrap64 (pu+1)):=⟨e1,e2⟩;have Ea:room<(n:Int)+1:=by rw[HLm.out]at hroom;omega
   clear e1 e2 Gf hroom;go_wp2_with fail;refine(WO _ _ _ g7 (n+1) wX 0 _ _ qX.own qX.bx qX.len ab).mono ?_;rintro e w8 ⟨rfl,ys,O8,X8,Q8⟩;rw[Nat.add_sub_cancel]at O8;have Zj:=qX.put Q8 O8 X8 (by have:=qX.len;simp only[aqF,apO,aqh];omega);rw[aqF,apO]at Zj;have HP9:Hid (Ps w ((w8.setCell ⟨o,1,none⟩ (.slice (some ⟨g7,0,none⟩) n wX)).setCell ⟨o,2,none⟩ (.int .i64 (wrap64 (pu+1)))) o room (wrap64 (pu+1)) sl bp va vn vc g7 n wX ((bs++[b0]).drop (0+1)) ys):=Zj.push _;have Jz:=qX.row Q8;have y0:w8.cell? ⟨o,0,none⟩=some (.int .i64 room):=atZ _ _ _ _ _ _ Jz;have y1:w8.cell? ⟨o,1,none⟩=some (.slice (some ⟨g7,0,none⟩) (n+1) wX):=atZ _ _ _ _ _ _ Jz;have y2:w8.cell? ⟨o,2,none⟩=some (.int .i64 pu):=atZ _ _ _ _ _ _ Jz;have y3:w8.cell? ⟨o,3,none⟩=some (.int .i64 sl):=atZ _ _ _ _ _ _ Jz;have yf:∀j,w8.frozen? ⟨o,j,none⟩=false:=fun j=>aus _ _ _ _ _ Jz
   have JA:w8.heap[w.heap.size+1+1]?=some (.cells #[.int .i64 0,.slice none 0 0,.int .i64 0,.int .i64 0] 54 (0,0)):=dL qX.own Q8 qX.z an;have v0:w8.cell? ⟨w.heap.size+1+1,0,none⟩=some (.int .i64 0):=atZ _ _ _ _ _ _ JA;have v1:w8.cell? ⟨w.heap.size+1+1,1,none⟩=some (.slice none 0 0):=atZ _ _ _ _ _ _ JA;have v2:w8.cell? ⟨w.heap.size+1+1,2,none⟩=some (.int .i64 0):=atZ _ _ _ _ _ _ JA;have v3:w8.cell? ⟨w.heap.size+1+1,3,none⟩=some (.int .i64 0):=atZ _ _ _ _ _ _ JA;have vf:∀j,w8.frozen? ⟨w.heap.size+1+1,j,none⟩=false:=fun j=>aus _ _ _ _ _ JA
   clear O8 X8 Q8 Zj Jz JA qX x0 x1 x2 x3 z0 z1 z2 z3 zf WO;go_wp2_with fail;obtain⟨f1,f2,f3⟩:=HP9.fin (by rw[apu,<-oK.out.1];exact TN);refine auc (v:=.tuple #[.agg #[.int .i64 room,.slice (some ⟨g7,0,none⟩) n wX,.int .i64 (wrap64 (pu+1)),.int .i64 sl],.int .i64 0]) (Hf.gm results141 _ _ _ _ _ (0,0) _ _ rfl rfl f1 underlying54 rfl wF) rfl ⟨_,n,wX,by rw[oK.out.2],?_,f3⟩;rw[oK.out.1];exact f2
  ·obtain⟨e1,e2⟩:=(Gf _ HRm).2 (Int.not_lt.1 hroom);have oK:Hid (PL=bs++[b0]/\PP=pu):=⟨e1,e2⟩;have Ea:¬room<(n:Int)+1:=by rw[HLm.out]at hroom;omega
   clear e1 e2 Gf hroom WO;go_wp2_with fail;obtain⟨f1,f2,f3⟩:=qX.out.fin (by rw[<-oK.out.1];exact TN.out);refine auc (v:=.tuple #[.agg #[.int .i64 room,.slice (some ⟨g7,0,none⟩) (n+1) wX,.int .i64 pu,.int .i64 sl],.int .i64 0]) (Hf.gm results141 _ _ _ _ _ (0,0) _ _ rfl rfl f1 underlying54 rfl wF) rfl ⟨_,n+1,wX,by rw[oK.out.2],?_,f3⟩;rw[oK.out.1];exact f2
 ·have HRm:Hid (o6 (place bp bs 0) bs 0=bs.take j++bs.drop (j+1)):=by unfold Hid;rw[hp];have:=Xe bs j 0;rwa[apu]at this
  have HLb:Hid ((bs.take j++bs.drop (j+1)).length=n-1):=by unfold Hid;rw[apo,ap5,aqh,HL.out];omega
  rw[hp]at NH;clear HP hp;go_enter func141,ntmps141;go_wp2_with fail;refine(CP _ ((((Gr.refl w).alloc _).alloc _).alloc _)).mono ?_;rintro e w1 ⟨g,cp,xs,rfl,O1,X1,G1⟩;have T1:=jo G1;have hsz:(((w.alloc (.cells #[.int .i64 room,.slice ao n cap,.int .i64 pu,.int .i64 sl] 54)).alloc (.cells #[.int .u32 bp,.slice va vn vc] 64)).alloc (.cells #[.int .i64 0,.slice none 0 0,.int .i64 0,.int .i64 0] 54)).heap.size=w.heap.size+1+1+1:=aq;rw[hsz]at O1 X1;have QZ:Hid (∀W,Gr w1 W->W.heap[w1.heap.size]?=some (.cells #[.int .i64 room,.slice (some ⟨g,0,none⟩) n cp,.int .i64 pu,.int .i64 sl] 54 (0,0))->Ps w W w1.heap.size room pu sl bp va vn vc g n cp bs xs):=fun W G hr=>
   ⟨(apk.1 T1.2.2).1,aX G T1.2.1,aX G T1.2.2,hr,aC O1 G,(X1.of G).low ab,HL,(((((Gr.refl w).alloc _).alloc _).alloc _).trans G1).trans G⟩
  clear O1 X1 T1 G1 CP hsz;go_wp2_with fail;refine Bl (fun W=>Ps w W w1.heap.size room pu sl bp va vn vc g n cp bs xs) (QZ _ ((Gr.refl w1).alloc _) (at5 w1 _)) ?_;clear QZ;generalize w1.heap.size=o at *
  clear w1;intro W P0;have nk:Hid (Ps w W o room pu sl bp va vn vc g n cp bs xs):=P0;have x1:W.cell? ⟨o,1,none⟩=some (.slice (some ⟨g,0,none⟩) n cp):=atZ _ _ _ _ _ _ P0.r;have q0:W.cell? ⟨w.heap.size+1,0,none⟩=some (.int .u32 bp):=atZ _ _ _ _ _ _ P0.b;clear P0;apply share
  ·intro jO
   go_region_with (first
    |(go_at_call 137;refine(AT _).mono ?_;rintro e w2 ⟨K,rfl,hk,G2⟩;have HG2:Hid (Gr W w2):=Gr.trans b9 G2;have x2:w2.cell? ⟨o,1,none⟩=some (.slice (some ⟨g,0,none⟩) n cp):=atZ _ _ _ _ _ _ (nk.of HG2).r;clear G2)
    |(go_at_call 136;refine(NH _ K _ _ g cp xs (nk.of HG2).own (nk.of HG2).bx hk).mono ?_;rintro e w3 ⟨rfl,G3⟩;have KT:Hid (Ps w w3 o room pu sl bp va vn vc g n cp bs xs):=nk.of (HG2.trans G3);clear G3))
   all_goals
    clear x2 hk HG2;clear w2
    revert KT
    revert w3
    revert K
    exact jO.out
  clear nk x1 q0 NH AT;clear W;intro K W nk;have x1:W.cell? ⟨o,1,none⟩=some (.slice (some ⟨g,0,none⟩) n cp):=atZ _ _ _ _ _ _ nk.r;have hj0:(0:Int)<=(j:Int):=ab;go_wp2_with fail;refine(WO _ _ _ g n cp j bs xs nk.own nk.bx nk.len hj).mono ?_;rintro e w5 ⟨rfl,ys,O5,X5,Q5⟩;have Q9:Hid (Ps w (w5.setCell ⟨o,1,none⟩ (.slice (some ⟨g,0,none⟩) (n-1) cp)) o room pu sl bp va vn vc g (n-1) cp (bs.take j++bs.drop (j+1)) ys):=nk.put Q5 O5 X5 HLb;have hr5:=nk.row Q5;have y1:w5.cell? ⟨o,1,none⟩=some (.slice (some ⟨g,0,none⟩) n cp):=atZ _ _ _ _ _ _ hr5;have yf:w5.frozen? ⟨o,1,none⟩=false:=aus _ _ _ _ _ hr5;clear O5 X5 Q5 hr5 x1 nk;clear W;go_wp2_with fail;refine Bl (fun W=>Ps w W o room pu sl bp va vn vc g (n-1) cp (bs.take j++bs.drop (j+1)) ys) Q9 ?_;clear Q9 y1 yf;clear w5;generalize bs.take j++bs.drop (j+1)=L1 at *
  have lU:n-1<=n:=ab;generalize n-1=m at *
  intro W P0;have nk:Hid (Ps w W o room pu sl bp va vn vc g m cp L1 ys):=P0;have x1:W.cell? ⟨o,1,none⟩=some (.slice (some ⟨g,0,none⟩) m cp):=atZ _ _ _ _ _ _ P0.r;clear P0;have q0:W.cell? ⟨w.heap.size+1,0,none⟩=some (.int .u32 bp):=atZ _ _ _ _ _ _ nk.b;have q1:W.cell? ⟨w.heap.size+1,1,none⟩=some (.slice va vn vc):=atZ _ _ _ _ _ _ nk.b;apply share
  ·intro jO
   go_region_law (first
    |(refine aZ rfl (.tmp 35) (.tmp 38) 52 rfl (w.heap.size+1+1+1) 64 i0 _ 2 32 underlying52 hi hz0 hz1 hz2 rfl an (.slice (some ⟨g,0,none⟩) m cp) m ys ar (aC ny.own (by repeat (first|exact Gr.refl w2|refine Gr.drewN ?_ _|refine Gr.drew ?_|refine Gr.alloc ?_ _))) ⟨w2.heap.size,0,none⟩ 1 1 [.int .u32 bp,.slice ia iq ic] ar rfl (dP aq aq) (tQ rfl rfl) bj ab (by have:=ny.lo;have:=(apk.1 ny.r).1;simp;omega) ?_;intro v' w' hown hgrow;obtain⟨g',cp',rfl⟩:=dh hown ab;have Jy:Hid (Ch g w2 w'):=(Ch.Xf (by repeat (first|exact Gr.refl w2|refine Gr.drewN ?_ _|refine Gr.drew ?_|refine Gr.alloc ?_ _))).trans hgrow;have Zi:Hid (w'.ownsRow (w.heap.size+1+1+1) 64 2 (.slice (some ⟨g',0,none⟩) (m+1) cp') (m+1) (ys++[.int .u32 bp,.slice ia iq ic])):=hown;have y1:w'.cell? ⟨o,1,none⟩=some (.slice (some ⟨g,0,none⟩) m cp):=atZ _ _ _ _ _ _ (ny.row Jy);have yf:w'.frozen? ⟨o,1,none⟩=false:=aus _ _ _ _ _ (ny.row Jy);clear hown hgrow)
    |(go_simp;go_wp2_with (go_at_call 138;refine(CB _ (Gr.trans nk.gr (by repeat (first|exact Gr.refl W|refine Gr.drewN ?_ _|refine Gr.drew ?_)))).mono ?_;rintro e w2 ⟨v2,rfl,I2,G2⟩;have HG2:Hid (Gr W w2):=Gr.trans (by repeat (first|exact Gr.refl W|refine Gr.drewN ?_ _|refine Gr.drew ?_)) G2;have ny:Hid (Ps w w2 o room pu sl bp va vn vc g m cp L1 ys):=nk.of HG2;have HI2:Hid (Io w2 w.heap.size v2 b0.is):=I2.low (by have:=nk.gr.size;simpa using this);obtain⟨ia,ic,rfl⟩:=I2.shape;have x2:w2.cell? ⟨o,1,none⟩=some (.slice (some ⟨g,0,none⟩) m cp):=atZ _ _ _ _ _ _ ny.r;have ho2:o<w2.heap.size:=(apk.1 ny.r).1;clear I2 G2;generalize b0.is.length=iq at *)))
   all_goals
    have Xg:Bx w' w.heap.size (L1++[b0]) (ys++[.int .u32 bp,.slice ia iq ic]):=HSn _ _ _ _ (ny.bx.to fun q c r hq=>(dL ny.own Jy hq an).trans hq.symm) (HI2.to fun q c r hq=>(dL ny.own Jy hq an).trans hq.symm);have qX:=ny.put Jy Zi Xg (by rw[apo,ny.out.len];rfl);refine Bl (fun W=>Ps w W o room pu sl bp va vn vc g' (m+1) cp' (L1++[b0]) (ys++[.int .u32 bp,.slice ia iq ic])) qX ?_;clear qX Xg y1 yf Jy Zi x2 ho2 HI2 ny HG2;clear w';generalize w2.heap.size=z9 at *
    clear w2
    revert cp'
    revert g'
    revert ic
    revert iq
    revert ia
    revert z9
    exact jO.out
  clear q0 q1 x1 CB nk;clear W;intro z9 ia iq ic g7 wX W P7;have qX:Hid (Ps w W o room pu sl bp va vn vc g7 (m+1) wX (L1++[b0]) (ys++[.int .u32 bp,.slice ia iq ic])):=P7;have x0:W.cell? ⟨o,0,none⟩=some (.int .i64 room):=atZ _ _ _ _ _ _ P7.r;have x1:W.cell? ⟨o,1,none⟩=some (.slice (some ⟨g7,0,none⟩) (m+1) wX):=atZ _ _ _ _ _ _ P7.r;have x2:W.cell? ⟨o,2,none⟩=some (.int .i64 pu):=atZ _ _ _ _ _ _ P7.r;have x3:W.cell? ⟨o,3,none⟩=some (.int .i64 sl):=atZ _ _ _ _ _ _ P7.r;have z0:W.cell? ⟨w.heap.size+1+1,0,none⟩=some (.int .i64 0):=atZ _ _ _ _ _ _ P7.z;have z1:W.cell? ⟨w.heap.size+1+1,1,none⟩=some (.slice none 0 0):=atZ _ _ _ _ _ _ P7.z;have z2:W.cell? ⟨w.heap.size+1+1,2,none⟩=some (.int .i64 0):=atZ _ _ _ _ _ _ P7.z;have z3:W.cell? ⟨w.heap.size+1+1,3,none⟩=some (.int .i64 0):=atZ _ _ _ _ _ _ P7.z;have zf:∀j,W.frozen? ⟨w.heap.size+1+1,j,none⟩=false:=fun j=>aus _ _ _ _ _ P7.z
  have hne:¬w.heap.size+1+1=o:=by have:=P7.lo;omega
  have hne2:¬o=w.heap.size+1+1:=by have:=P7.lo;omega
  clear P7;have HLm:Hid ((L1).length=m):=HLb;by_cases hroom:room<(((L1).length+1:Nat):Int)
  ·obtain⟨e1,e2⟩:=(Gf _ HRm).1 hroom;have oK:Hid (PL=(L1++[b0]).drop 1/\PP=wrap64 (pu+1)):=⟨e1,e2⟩;have Ea:room<(m:Int)+1:=by rw[HLm.out]at hroom;omega
   clear e1 e2 Gf hroom;go_wp2_with fail;refine(WO _ _ _ g7 (m+1) wX 0 _ _ qX.own qX.bx qX.len ab).mono ?_;rintro e w8 ⟨rfl,ys,O8,X8,Q8⟩;rw[Nat.add_sub_cancel]at O8;have Zj:=qX.put Q8 O8 X8 (by have:=qX.len;simp only[aqF,apO,aqh];omega);rw[aqF,apO]at Zj;have HP9:Hid (Ps w ((w8.setCell ⟨o,1,none⟩ (.slice (some ⟨g7,0,none⟩) m wX)).setCell ⟨o,2,none⟩ (.int .i64 (wrap64 (pu+1)))) o room (wrap64 (pu+1)) sl bp va vn vc g7 m wX ((L1++[b0]).drop (0+1)) ys):=Zj.push _;have Jz:=qX.row Q8;have y0:w8.cell? ⟨o,0,none⟩=some (.int .i64 room):=atZ _ _ _ _ _ _ Jz;have y1:w8.cell? ⟨o,1,none⟩=some (.slice (some ⟨g7,0,none⟩) (m+1) wX):=atZ _ _ _ _ _ _ Jz;have y2:w8.cell? ⟨o,2,none⟩=some (.int .i64 pu):=atZ _ _ _ _ _ _ Jz;have y3:w8.cell? ⟨o,3,none⟩=some (.int .i64 sl):=atZ _ _ _ _ _ _ Jz;have yf:∀j,w8.frozen? ⟨o,j,none⟩=false:=fun j=>aus _ _ _ _ _ Jz
   have JA:w8.heap[w.heap.size+1+1]?=some (.cells #[.int .i64 0,.slice none 0 0,.int .i64 0,.int .i64 0] 54 (0,0)):=dL qX.own Q8 qX.z an;have v0:w8.cell? ⟨w.heap.size+1+1,0,none⟩=some (.int .i64 0):=atZ _ _ _ _ _ _ JA;have v1:w8.cell? ⟨w.heap.size+1+1,1,none⟩=some (.slice none 0 0):=atZ _ _ _ _ _ _ JA;have v2:w8.cell? ⟨w.heap.size+1+1,2,none⟩=some (.int .i64 0):=atZ _ _ _ _ _ _ JA;have v3:w8.cell? ⟨w.heap.size+1+1,3,none⟩=some (.int .i64 0):=atZ _ _ _ _ _ _ JA;have vf:∀j,w8.frozen? ⟨w.heap.size+1+1,j,none⟩=false:=fun j=>aus _ _ _ _ _ JA
   clear O8 X8 Q8 Zj Jz JA qX x0 x1 x2 x3 z0 z1 z2 z3 zf WO;go_wp2_with fail;obtain⟨f1,f2,f3⟩:=HP9.fin (by rw[apu,<-oK.out.1];exact TN);refine auc (v:=.tuple #[.agg #[.int .i64 room,.slice (some ⟨g7,0,none⟩) m wX,.int .i64 (wrap64 (pu+1)),.int .i64 sl],.int .i64 0]) (Hf.gm results141 _ _ _ _ _ (0,0) _ _ rfl rfl f1 underlying54 rfl wF) rfl ⟨_,m,wX,by rw[oK.out.2],?_,f3⟩;rw[oK.out.1];exact f2
  ·obtain⟨e1,e2⟩:=(Gf _ HRm).2 (Int.not_lt.1 hroom);have oK:Hid (PL=L1++[b0]/\PP=pu):=⟨e1,e2⟩;have Ea:¬room<(m:Int)+1:=by rw[HLm.out]at hroom;omega
   clear e1 e2 Gf hroom WO;go_wp2_with fail;obtain⟨f1,f2,f3⟩:=qX.fin (by rw[<-oK.out.1];exact TN);refine auc (v:=.tuple #[.agg #[.int .i64 room,.slice (some ⟨g7,0,none⟩) (m+1) wX,.int .i64 pu,.int .i64 sl],.int .i64 0]) (Hf.gm results141 _ _ _ _ _ (0,0) _ _ rfl rfl f1 underlying54 rfl wF) rfl ⟨_,m+1,wX,by rw[oK.out.2],?_,f3⟩;rw[oK.out.1];exact f2
end Kc
end Go.Proofs.YtiadhbmnfjfioaaGreatDoor
