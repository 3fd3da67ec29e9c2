/- ours -/
import Derived.Test.YtiadhbmnfjfioaaGreatDoorX15
set_option linter.unusedVariables false
set_option linter.unusedSimpArgs false
set_option maxHeartbeats 8000000
set_option maxRecDepth 100000
set_option linter.unusedSectionVars false
namespace Go.Proofs.YtiadhbmnfjfioaaGreatDoor
open Go.Proofs.Tryz hiding d0 d1
open Go.ChangeShapes Go.WideShapes Go.ChangeAt Go.RowKit
variable [Inhabited Hc.bN]
namespace Kc
open Mm Ts Hc

variable {w w' :World} {ao :Option Addr} {n m base e bytes :Nat} {vx z :Value} {news :List Value} {P :Program} {i :TypeInfo} {t :TypeId}
theorem ND:(prog.info? 59).map (fun i=>(i.zero,i.size,i.bytes))=some (some (.agg #[.int .i64 0,.int .i64 0,.int .i64 0,.int .i64 0,.int .i32 0]),5,40):=by kernel_rfl
theorem iBk:(prog.info? 64).map (·.size)=some 2:=by kernel_rfl
def Sc (w:World) (vx:Value) (m:Nat) (news:List Value):Prop:=(∃x c,vx=.slice x 0 c/\m=0/\news=[])\/∃ad c,vx=.slice (some ad) m c/\news.length=m*5/\∀j u,news[j]?=some u->w.cell? (ad.add j)=some u
theorem adp {c:Nat}{is:List Iv}(h:Is w ao n is):Sc w (.slice ao n c) n (QT is):=by
 have hl:=h.len;by_cases hn:0<n
 ·obtain⟨b,o,rfl,hb,hc⟩:=h.spot hn;refine .inr ⟨_,c,rfl,by rw[Fz,hl],fun j u hj=>?_⟩;have hlt:=(apj.1 hj).1;rw[Fz]at hlt;obtain⟨i,hi⟩:∃i,is[j/5]?=some i:=⟨_,api (by omega)⟩;have q:=ym is (j/5) (j%5) i hi (by omega);rw[show j/5*5+j%5=j by omega,hj]at q;obtain⟨h0,h1,h2,h3,h4⟩:=hc _ i hi;rw[cz];have hm:j%5<5:=by omega
  generalize hr:j%5=r at *
  have ej:j=j/5*5+r:=by omega
  match r,hm,q,ej with
  |0,_,q,ej=>rw[ej,show o+(j/5*5+0)=o+j/5*5 by omega,h0];exact q.symm
  |1,_,q,ej=>rw[ej,<-aqU,h1];exact q.symm
  |2,_,q,ej=>rw[ej,<-aqU,h2];exact q.symm
  |3,_,q,ej=>rw[ej,<-aqU,h3];exact q.symm
  |4,_,q,ej=>rw[ej,<-aqU,h4];exact q.symm
  |r+5,hm,_,_=>exact absurd hm (by omega)
 ·have e:n=0:=by omega
  subst e;have e2:=apX hl;subst e2;exact .inl ⟨ao,c,rfl,rfl,rfl⟩
theorem Sc.gr (h:Sc w vx m news)(G:Gr w w'):Sc w' vx m news:=by
 rcases h with h|⟨ad,c,e,hl,hc⟩
 ·exact .inl h
 ·exact .inr ⟨ad,c,e,hl,fun j u hj=>(G.cell _ (aug w _ (hc j u hj))).trans (hc j u hj)⟩
theorem vO (ty : TypeId)(h1 :P.underlying t =some (.slice e)) (h2 :P.info? e =some i) (h3 :i.zero =some z) (h4 :i.size =5) (h5 :i.bytes =bytes) (h6 :z.cells.size =5)(hsrc :Sc w vx m news) (h1c : ∀ u ∈ news, u.oneCell' =true) (b1 :m <= maxLen) (b2 :m * bytes <= 140737488355328) (hbase :base <= w.heap.size) :∃ v' w', (Builtin.append_ #[t, t] ty #[.slice none 0 0, vx]).run P w = .ok v' w' /\ w'.ownsRow base e 5 v' m news /\ w.grownBy w' none :=by
  rcases hsrc with⟨x, c, rfl, rfl, rfl⟩ |⟨ad, c, rfl, hl, hc⟩
  · refine ⟨.slice none 0 0, w, ?_, aur w base e 5, ⟨rfl, rfl, rfl, apn _, fun _ _ _ => rfl⟩⟩
    cases x <;> simp[Builtin.append_, run_underlying h1, sizeOf, typeInfo, h2, Builtin.lenOf, Builtin.firstCells, loadCells, loadCellsFrom]
  · obtain ⟨v', w', hrun, r1, r2, _⟩ := au6 (P := P) w base t ty e i z 5 bytes h1 h2 h3 h4 h5 h6 (by decide) (.slice none 0 0) 0 [] (aur w base e 5) ad m c news hl hc h1c (by omega) (by rw [apu]; exact b2) hbase
    exact⟨v', w', hrun, by simpa using r1, r2⟩
theorem qV {ops : Array Oper} {rest : List Oper} {o : Oper} {a : Act} {Q : Exit → Act → World → Prop}(hg :o.guard =none) (s x :Operand) (hop :o.op =Op.call { callee :=Callee.builtin Builtin.append, args := #[s, x], argTypes := #[t, t] })(h1 :P.underlying t =some (.slice e)) (h2 :P.info? e =some i) (h3 :i.zero =some z) (h4 :i.size =5) (h5 :i.bytes =bytes) (h6 :z.cells.size =5)(hs : a.eval s = .slice none 0 0) (hx : a.eval x = vx) (hsrc : Sc w vx m news) (h1c : ∀ u ∈ news, u.oneCell' = true) (b1 : m ≤ maxLen) (b2 : m * bytes ≤ 140737488355328) (hbase : base ≤ w.heap.size)(hK : ∀ v' w', w'.ownsRow base e 5 v' m news -> w.grownBy w' none -> wpList P ops Q rest (a.put o.dst v') w') :wpList P ops Q (o ::rest) a w :=by
  refine au5 hg fun K hk => ?_
  obtain⟨v', w', hrun, r1, r2⟩ :=vO (P :=P) o.type h1 h2 h3 h4 h5 h6 hsrc h1c b1 b2 hbase;unfold Oper.wp;simp[execOp, hop, resolve, invoke, builtin, hs, hx, hrun, Result.andThen];exact hk _ _ (hK v' w' r1 r2)
theorem F7 (h:w.grownBy w' none):Gr w w':=Gr.grown (Gr.refl w) h (fun k e=>by cases e)
theorem qW {b:Bv}{va:Option Addr}{vn vc:Nat}(hb:Bc w b (.int .u32 b.pc) (.slice va vn vc)):Calls prog 138 #[.agg #[.int .u32 b.pc,.slice va vn vc]] w fun e w'=>∃v,e=.returned (.agg #[.int .u32 b.pc,v])/\Io w' w.heap.size v b.is/\Gr w w':=by
 obtain⟨_,_,sa,sn,sc,e2,I,hsz⟩:=hb;injection e2 with q1 q2 q3;subst q1;subst q2;subst q3;have hbl:b.is.length*40<=140737488351232:=by rw[I.len];exact hsz
 have HS:Hid (Sc w (.slice va vn vc) vn (QT b.is)):=adp I;have HL:Hid _:=I.len;obtain⟨i0,hi,hz0,hz1,hz2⟩:=auz ND;clear I hbl;generalize b.pc=x at *
 go_enter func138,ntmps138;go_wp2_with (at_builtin;refine qV (base:=w.heap.size) rfl _ _ rfl underlying62 hi hz0 hz1 hz2 rfl rfl rfl (HS.out.gr (((Gr.refl w).alloc _).alloc _)) (RY _) (by unfold maxLen;omega) (by omega) (by simp;omega) ?_);intro v' w' hown hgrow;have G2:=F7 hgrow;have HIo:Hid (Io w' w.heap.size v' b.is):=by unfold Hid Io;rw[HL.out];exact hown
 have HG:=kH ((((Gr.refl w).alloc _).alloc _).trans G2);obtain⟨a',c',rfl⟩:=HIo.out.shape;have B0:=aX (((Gr.refl _).alloc _).trans G2) (at5 w _);have B1:=aX G2 (Ip w _ _);have HB0:=kH B0;have HB1:=kH B1;have c0:=iE B0;have c1:=iY B0;have f1:w'.frozen? ⟨w.heap.size,1,none⟩=false:=lh B0;have d0:=iE B1;have d1:=iY B1;have g1:∀j,w'.frozen? ⟨w.heap.size+1,j,none⟩=false:=fun j=>lh B1
 generalize b.is.length=q at *
 go_wp2_with fail;have e1:(w'.setCell ⟨w.heap.size,1,none⟩ (.slice a' q c')).heap[w.heap.size+1]?=some (.cells #[.int .u32 0,.slice none 0 0] 64 (0,0)):=(hso (by show w.heap.size+1≠w.heap.size;omega)).trans HB1.out;have e2:=aul _ _ 0 _ _ (.int .u32 x) e1;have e3:=aul _ _ 1 _ _ (.slice a' q c') e2;refine auc (v:=.agg #[.int .u32 x,.slice a' q c']) (auD results138 _ _ _ _ _ (0,0) _ rfl e3 underlying64 rfl iBk) rfl ⟨_,rfl,?_,?_⟩
 ·refine HIo.out.to fun k o f hk=>?_
  have n0:=aa hk HB0.out (by decide);have n1:=aa hk HB1.out (by decide);rw[hso (by exact n1),hso (by exact n1),hso (by exact n0)]
 ·exact((HG.out.setCell (by show w.heap.size<=w.heap.size;omega) _).setCell (by show w.heap.size<=w.heap.size+1;omega) _).setCell (by show w.heap.size<=w.heap.size+1;omega) _
theorem yI (W:World)(g:Nat)(a b c d:Value){k:Nat}(hk:k≠g):((((W.setCell ⟨g,0,none⟩ a).setCell ⟨g,1,none⟩ b).setCell ⟨g,2,none⟩ c).setCell ⟨g,3,none⟩ d).heap[k]?=W.heap[k]?:=by rw[hso (by exact hk),hso (by exact hk),hso (by exact hk),hso (by exact hk)]
theorem uD {b0 sz:Nat}{v:Value}{xs:List Value}(h:w.ownsRow base e sz v n xs)(hb:b0<=base):w.ownsRow b0 e sz v n xs:=by
 obtain⟨h1,h2⟩:=h;refine⟨h1,?_⟩;rcases h2 with h2|⟨g,cp,cur,e1,e2,e3⟩
 ·exact .inl h2
 ·exact .inr ⟨g,cp,cur,e1,by omega,e3⟩
theorem jo {A B C:Array Value}{t u s:Nat}(g:Gr (((w.alloc (.cells A t)).alloc (.cells B u)).alloc (.cells C s)) w'):w'.heap[w.heap.size]?=some (.cells A t (0,0))/\w'.heap[w.heap.size+1]?=some (.cells B u (0,0))/\w'.heap[w.heap.size+1+1]?=some (.cells C s (0,0)):=by refine⟨aX ((((Gr.refl _).alloc _).alloc _).trans g) (at5 w _),aX (((Gr.refl _).alloc _).trans g) (Ip w _ _),aX g ?_⟩;have:=at5 ((w.alloc (.cells A t)).alloc (.cells B u)) (.cells C s);simpa using this
theorem wW {w:World}{ao:Option Addr}{n:Nat}(cap:Nat){bs:List Bv}(B:Bs w ao n bs)(hn:n*32<=140737488351232)(room pu sl:Int):Calls prog 116 #[.agg #[.int .i64 room,.slice ao n cap,.int .i64 pu,.int .i64 sl]] w fun e w'=>∃g cp xs,e=.returned (.agg #[.int .i64 room,.slice (some ⟨g,0,none⟩) n cp,.int .i64 pu,.int .i64 sl])/\w'.ownsRow w.heap.size 64 2 (.slice (some ⟨g,0,none⟩) n cp) n xs/\Bx w' w.heap.size bs xs/\Gr w w':=by
 have HL:Hid _:=B.len;have HB:=kH B;have CP:Hid (∀(W:World) (b:Bv) (va:Option Addr) (vn vc:Nat),Gr w W->Bc w b (.int .u32 b.pc) (.slice va vn vc)->_):=fun W b va vn vc G h=>qW (h.of G)
 obtain⟨i0,hi,hz0,hz1,hz2⟩:=auz LC;clear B;go_enter func116,ntmps116;go_wp2_with (at_make;refine wpList_make_own _ rfl _ _ 52 rfl (w.heap.size+1+1) 64 i0 _ 2 underlying52 hi hz0 hz1 _ _ _ (n+1) rfl rfl (by go_num) (by rw[hz2];omega) (by unfold maxLen;omega) (by simp) ?_);intro w0 hown0 tJ;have G0:=F7 tJ;have HO0:Hid (∃g,w0.ownsRow (w.heap.size+1+1) 64 2 (.slice (some ⟨g,0,none⟩) 0 (n+1)) 0 []/\g=w.heap.size+1+1):=⟨_,hown0,by simp⟩;have H00:Hid _:=aX (((Gr.refl _).alloc _).trans G0) (at5 w _);have H01:Hid _:=aX G0 (Ip w _ _);have oJ:=kH ((((Gr.refl w).alloc _).alloc _).trans G0);have z1:w0.cell? ⟨w.heap.size,1,none⟩=some (.slice ao n cap):=atZ _ _ _ _ _ _ H00.out;clear hown0 tJ G0;go_wp2_with fail;go_loopw [3,14] (fun V i wr=>∃j:Nat,j<=n/\i=.int .i64 j/\∃g cp xs,V=.slice (some ⟨g,0,none⟩) j cp/\wr.heap[w.heap.size]?=some (.cells #[.int .i64 room,.slice ao n cap,.int .i64 pu,.int .i64 sl] 54 (0,0))/\wr.heap[w.heap.size+1]?=some (.cells #[.int .i64 0,.slice none 0 0,.int .i64 0,.int .i64 0] 54 (0,0))/\wr.ownsRow (w.heap.size+1+1) 64 2 (.slice (some ⟨g,0,none⟩) j cp) j xs/\Bx wr w.heap.size (bs.take j) xs/\Gr w wr) (fun _ i _=>n-(intOf i).toNat)
 case atStart=>
  obtain⟨g,O,rfl⟩:=HO0.out;exact⟨0,apF _,rfl,_,_,[],rfl,H00.out,H01.out,O,Bx.nil _ _,oJ.out⟩
 case round=>
  obtain⟨j,hj,rfl,g,cp,xs,rfl,h0,h1,hO,hX,G⟩:=hrel;have HG:=kH G;have HO:=kH hO;have HX:=kH hX;have H0:=kH h0;have H1:=kH h1;clear h0 h1 hO hX G HO0 H00 H01 oJ z1;by_cases hlt:j<n
  ·obtain⟨b,hb⟩:∃b,bs[j]?=some b:=⟨_,api (by rw[HL.out];exact hlt)⟩;obtain⟨k,o,rfl,hk,hcell⟩:=HB.out.spot (by omega);obtain⟨u,v,p0,p1,hbc⟩:=hcell j b hb;obtain⟨o1,o2,va,vn,vc,rfl⟩:=hbc.ones;have d0:=(HG.out.cell _ (by exact hk)).trans p0;have d1:=(HG.out.cell _ (by exact hk)).trans p1;have hu:=hbc.1;subst hu;have CP2:Hid (∀W:World,Gr w W->_):=fun W G=>CP.out W b va vn vc G hbc
   have HT:Hid (∀(W:World) (v:Value),Bx W w.heap.size (bs.take j) xs->Io W w.heap.size v b.is->Bx W w.heap.size (bs.take (j+1)) (xs++[.int .u32 b.pc,v])):=fun W v h1 h2=>by rw[apU,hb];exact h1.snoc h2
   clear hcell p0 p1 hbc CP hb;generalize b.pc=bp at *
   go_wp2_with fail;refine(CP2.out _ (HG.out.alloc _)).mono ?_;rintro e w2 ⟨v2,rfl,I2,G2⟩;have HG2:Hid _:=((Gr.refl wr).alloc _).trans G2;have HI2:Hid (Io w2 w.heap.size v2 b.is):=I2.low (by have:=HG.out.size;simp;omega);obtain⟨ia,ic,rfl⟩:=I2.shape;clear CP2 G2 I2;generalize b.is.length=iq at *
   have kY:=kH (aC HO.out HG2.out);have ll:Hid (w.heap.size+1+1<=w2.heap.size):=by
    have q1:=HG2.out.size;have q3:=(apk.1 H1.out).1;unfold Hid;omega
   go_wp2_with (at_builtin;have q0:=ll.out;have q1:=aC kY.out ((Gr.refl w2).alloc (.cells #[.int .u32 bp,.slice ia iq ic] 64));refine auK _ rfl (.tmp 18) (.tmp 21) 52 rfl (w.heap.size+1+1) 64 i0 _ 2 32 underlying52 hi hz0 hz1 hz2 rfl (by decide) (.slice (some ⟨g,0,none⟩) j cp) j xs rfl q1 ⟨w2.heap.size,0,none⟩ 1 1 [.int .u32 bp,.slice ia iq ic] rfl rfl ?xc (tQ rfl rfl) ?xd ?xe ?xf ?xg;(case xc=>exact dP (by simp) (by simp));(case xd=>unfold maxLen;omega);(case xe=>omega);(case xf=>simp;omega));rintro v' w' hown hgrow -
   obtain⟨g',cp',rfl⟩:=dh hown (by omega);have HOn:=kH hown;have WY:Hid (∀(q:Nat) (c:Array Value) (r:Nat) (z:Nat×Nat),w2.heap[q]?=some (.cells c r z)->r≠64->_):=fun q c r z hq hr=>dL (aC kY.out ((Gr.refl w2).alloc _)) hgrow (aX ((Gr.refl w2).alloc _) hq) hr
   have HGn:=kH (Gr.grown ((HG.out.trans HG2.out).alloc _) hgrow (fun q e=>by have:=(kY.out.lt q e).1;omega));clear hown hgrow d0 d1 HB;go_wp2_with fail;go_roundw
   case rel=>
    refine⟨j+1,by omega,by go_num,g',cp',xs++[.int .u32 bp,.slice ia iq ic],rfl,WY.out _ _ _ _ (aX HG2.out H0.out) (by decide),WY.out _ _ _ _ (aX HG2.out H1.out) (by decide),HOn.out,?_,HGn.out⟩;exact HT.out _ _ ((HX.out.of HG2.out).to fun q c f hq=>by rw[WY.out _ _ _ _ hq (by decide)];exact hq.symm) (HI2.out.to fun q c f hq=>by rw[WY.out _ _ _ _ hq (by decide)];exact hq.symm)
   case measure=>simp[intOf];omega
  ·have ej:j=n:=by omega
   have HE:Hid (bs.take j=bs):=by unfold Hid;rw[ej,<-HL.out,ap9]
   have Jt:Hid (Bx wr w.heap.size bs xs):=by have:=HX.out;rwa[HE.out]at this
   have HOe:Hid (wr.ownsRow (w.heap.size+1+1) 64 2 (.slice (some ⟨g,0,none⟩) n cp) n xs):=by have:=HO.out;rwa[ej]at this
   subst ej;have y0:wr.cell? ⟨w.heap.size,0,none⟩=some (.int .i64 room):=atZ _ _ _ _ _ _ H0.out;have y1:wr.cell? ⟨w.heap.size,1,none⟩=some (.slice ao j cap):=atZ _ _ _ _ _ _ H0.out;have y2:wr.cell? ⟨w.heap.size,2,none⟩=some (.int .i64 pu):=atZ _ _ _ _ _ _ H0.out;have y3:wr.cell? ⟨w.heap.size,3,none⟩=some (.int .i64 sl):=atZ _ _ _ _ _ _ H0.out;have yf:wr.frozen? ⟨w.heap.size,1,none⟩=false:=aus _ _ _ _ _ H0.out;have x0:wr.cell? ⟨w.heap.size+1,0,none⟩=some (.int .i64 0):=atZ _ _ _ _ _ _ H1.out;have x1:wr.cell? ⟨w.heap.size+1,1,none⟩=some (.slice none 0 0):=atZ _ _ _ _ _ _ H1.out;have x2:wr.cell? ⟨w.heap.size+1,2,none⟩=some (.int .i64 0):=atZ _ _ _ _ _ _ H1.out;have x3:wr.cell? ⟨w.heap.size+1,3,none⟩=some (.int .i64 0):=atZ _ _ _ _ _ _ H1.out;have xf:∀j,wr.frozen? ⟨w.heap.size+1,j,none⟩=false:=fun j=>aus _ _ _ _ _ H1.out
   clear HB HE HO HX CP;go_wp2_with fail;have e1:(wr.setCell ⟨w.heap.size,1,none⟩ (.slice (some ⟨g,0,none⟩) j cp)).heap[w.heap.size+1]?=some (.cells #[.int .i64 0,.slice none 0 0,.int .i64 0,.int .i64 0] 54 (0,0)):=(auv _ _ _ _ (by show w.heap.size+1≠w.heap.size;omega)).trans H1.out;have hk:∀(k:Nat) (c:Array Value) (r:Nat) (f:Nat×Nat),wr.heap[k]?=some (.cells c r f)->r≠54->(((((wr.setCell ⟨w.heap.size,1,none⟩ (.slice (some ⟨g,0,none⟩) j cp)).setCell ⟨w.heap.size+1,0,none⟩ (.int .i64 room)).setCell ⟨w.heap.size+1,1,none⟩ (.slice (some ⟨g,0,none⟩) j cp)).setCell ⟨w.heap.size+1,2,none⟩ (.int .i64 pu)).setCell ⟨w.heap.size+1,3,none⟩ (.int .i64 sl)).heap[k]?=wr.heap[k]?:=fun k c r f hq hr=>by
    rw[yI _ _ _ _ _ _ (aa hq H1.out hr),auv _ _ _ _ (by exact aa hq H0.out hr)]
   refine auc (v:=.agg #[.int .i64 room,.slice (some ⟨g,0,none⟩) j cp,.int .i64 pu,.int .i64 sl]) (auD results116 _ _ _ _ _ (0,0) _ rfl (uC e1 _ _ _ _) underlying54 rfl wG) rfl ⟨g,cp,xs,rfl,?_,?_,?_⟩
   ·exact aj (uD HOe.out (by omega)) fun q c r hq=>hk q c _ r hq (by decide)
   ·exact Jt.out.to fun q c r hq=>hk q c _ r hq (by decide)
   ·have q1:w.heap.size<=w.heap.size+1:=by omega
    exact((((HG.out.setCell (by show w.heap.size<=w.heap.size;omega) _).setCell (by exact q1) _).setCell (by exact q1) _).setCell (by exact q1) _).setCell (by exact q1) _
end Kc
namespace Kc
open Mm Ts Hc

variable {w :World} {base g n cap k :Nat} {cs :List Value}
theorem DZ (R:Rw w base g cap cs)(hn:n<=cap)(hk:k<n)(h1c:∀u∈(cs.take (n*2)).drop ((k+1)*2),u.oneCell'=true):Calls prog 182 #[.slice (some ⟨g,0,none⟩) n cap,.int .i64 k,.int .i64 ((k:Int)+1)] w fun e w'=>e=.returned (.slice (some ⟨g,0,none⟩) (n-1) cap)/\∃cs',Rw w' base g cap cs'/\cs'.take ((n-1)*2)=cs.take (k*2)++(cs.take (n*2)).drop ((k+1)*2)/\Ch g w w':=by
 have hm:=R.cap;unfold maxLen at hm;have HR:=kH R;obtain⟨i0,hi,hz0,hz1,hz2⟩:=auz LC;obtain⟨news,hnews⟩:∃news,news=(cs.take (n*2)).drop ((k+1)*2):=⟨_,rfl⟩;have hcl:=R.len;have hlen:news.length=(n-(k+1))*2:=by rw[hnews,aqh,ap5,hcl];omega
 have hget:∀t u,news[t]?=some u->cs[(k+1)*2+t]?=some u:=fun t u hu=>by
  rw[hnews,ap3,apS]at hu;split at hu
  ·exact hu
  ·cases hu
 obtain⟨A,hA,hsrc⟩:∃A:Addr,(if cap=k+1 then some (⟨g,0,none⟩:Addr)else some ⟨g,(k+1)*2,none⟩)=some A/\Hid (∀t u,news[t]?=some u->w.drew.cell? (A.add t)=some u):=by
  by_cases h:cap=k+1
  ·refine⟨⟨g,0,none⟩,by simp[h],fun t u hu=>?_⟩;have:=(apj.1 hu).1;omega
  ·refine⟨⟨g,(k+1)*2,none⟩,by simp[h],fun t u hu=>?_⟩;rw[cz];exact R.cell (hget t u hu)
 have s1:=kH hlen;have s2:Hid (∀u∈news,_):=fun u hu=>h1c u (by rw[<-hnews];exact hu)
 have s3:Hid (∀j,j<news.length->(w.drew.cell? ⟨g,0+k*2+j,none⟩).isSome=true/\w.drew.frozen? ⟨g,0+k*2+j,none⟩=false):=fun j hj=>⟨R.isS (w:=w) (by omega),R.fz _⟩
 obtain⟨W1,hW1⟩:∃W1,W1=w.drew.setCells g (0+k*2) news:=⟨_,rfl⟩;have HW:=kH hW1;have R1:Rw W1 base g cap (cs.take (k*2)++news++cs.drop (k*2+news.length)):=by
  rw[hW1,apu];exact(R.of (Gr.refl w).drew).set (by omega)
 have HR1:=kH R1;have TF:Hid (Ch g w W1):=by unfold Hid;rw[hW1];exact chC ((Ch.refl g w).gr (Gr.refl w).drew) _ _
 have sM:=kH hnews;have hcr:∀ty,(Builtin.clear_ #[52] ty #[.slice (some ⟨g,(n-1)*2,none⟩) (n-(n-1)) (cap-(n-1))]).run prog W1=.ok (.tuple #[]) (W1.setCells g ((n-1)*2) (Im (n-(n-1)))):=fun ty=>
  tT W1 _ _ ty underlying52 Tryz.zeroValue64 g ((n-1)*2) (n-(n-1)) (cap-(n-1)) (by omega) (fun j hj=>R1.isS (by omega)) (fun j hj=>R1.fz _)
 clear R hget hnews hlen hW1 R1 h1c hcl;have e1:k+(n-(k+1))=n-1:=by omega
 have hic:k<=cap:=by omega
 have hjc:k+1<=cap:=by omega
 have hq1:(0:Int)<=(k:Int)+1:=by omega
 have hq2:(k:Int)+1<=(n:Int):=by omega
 go_enter func182,ntmps182;go_wp2_with fail;go_region_law (refine step_append_room rfl (.tmp 22) (.tmp 25) 52 rfl 64 i0 2 underlying52 hi hz1 g 0 k cap (by simp[Act.eval,Act.put]) A (n-(k+1)) (cap-(k+1)) news (by simp[Act.eval,Act.put]) s1.out hsrc.out s2.out (by omega) s3.out ?_;rw[<-HW.out]);go_wp2_with fail;go_ret;have hl:=HR.out.len;have hnl:=s1.out;refine⟨rfl,_,HR1.out.set (by rw[sG];omega),?_,chC TF.out _ _⟩;have e2:(cs.take (k*2)).length=k*2:=by rw[ap5,hl];omega
 have e3:(cs.take (k*2)++news).length=(n-1)*2:=by rw[apo,e2,hnl];omega
 rw[aqa,aqB (by simp only[ap5,apo,aqh];omega),List.take_take,Nat.min_self,<-e3,aqY,sM.out]
theorem Bl (R:Rw w base g cap cs)(hn:n<=cap)(hk:k<n)(h1c:∀u∈(cs.take (n*2)).drop ((k+1)*2),u.oneCell'=true):Calls prog 168 #[.slice (some ⟨g,0,none⟩) n cap,.int .i64 k] w fun e w'=>e=.returned (.slice (some ⟨g,0,none⟩) (n-1) cap)/\∃cs',Rw w' base g cap cs'/\cs'.take ((n-1)*2)=cs.take (k*2)++(cs.take (n*2)).drop ((k+1)*2)/\Ch g w w':=by have hm:=R.cap;unfold maxLen at hm;have D:=kH (DZ R hn hk h1c);go_enter func168,ntmps168;go_wp2_with fail;refine D.out.mono ?_;rintro e w1 ⟨rfl,X⟩;have HX:=kH X;go_wp2_with fail;go_ret;exact⟨rfl,HX.out⟩
theorem D7 {b1:Nat}{xs:List Value}{bs:List Bv}(O:w.ownsRow base 64 2 (.slice (some ⟨g,0,none⟩) n cap) n xs)(B:Bx w b1 bs xs)(hl:bs.length=n)(hk:k<n):Calls prog 168 #[.slice (some ⟨g,0,none⟩) n cap,.int .i64 k] w fun e w'=>e=.returned (.slice (some ⟨g,0,none⟩) (n-1) cap)/\∃xs',w'.ownsRow base 64 2 (.slice (some ⟨g,0,none⟩) (n-1) cap) (n-1) xs'/\Bx w' b1 (bs.take k++bs.drop (k+1)) xs'/\Ch g w w':=by obtain⟨hn,cs,R,rfl⟩:=Rw.open O;refine(Bl R hn hk fun u hu=>B.one u (aqR hu)).mono ?_;rintro e w' ⟨rfl,cs',R',e',q⟩;have O':=R'.own (m:=n-1) (by omega);rw[e']at O';refine⟨rfl,_,O',?_,q⟩;have h1:=B.take k;rw[List.take_take,show min (k*2) (n*2)=k*2 by omega]at h1;exact(h1.app (B.drop (k+1))).ch R q
end Kc
namespace Kc
open Mm Ts Hc

variable {f t :Int} {bs :List Bv} {n :Nat}
theorem Bn (h:∀(i:Nat) (x:Bv),bs[i]?=some x->hasB x f t=false):bJ f t bs=bs:=by unfold bJ;rw[List.filter_eq_self];intro b hb;obtain⟨i,hi⟩:=aqe.1 hb;rw[h i b hi];rfl
theorem Ju {k:Nat}(h:∀(i:Nat) (x:Bv),i<k->bs[i]?=some x->hasB x f t=false):bJ f t (bs.take k)=bs.take k:=
 Bn fun i x hx=>by
  rw[apS]at hx;split at hx
  ·rename_i hi;exact h i x hi hx
  ·cases hx
theorem wX {cs:List Value}{j r:Nat}{u:Value}(h:((cs.take (n*2)).drop (j*2))[r]?=some u):cs[j*2+r]?=some u:=by
 rw[ap3,apS]at h;split at h
 ·exact h
 ·cases h
theorem NF {w:World}{base b1 g n cap:Nat}{xs:List Value}{bs:List Bv}(O:w.ownsRow base 64 2 (.slice (some ⟨g,0,none⟩) n cap) n xs)(B:Bx w b1 bs xs)(hl:bs.length=n)(hn:n<=140737488351232)(ok:∀b∈bs,b.Ok){K:Nat}{f t:Int}(hK:w.heap[K]?=some (.cells #[.int .u32 f,.int .u32 t] 175 (0,0)))(ht:t<4294967296):Calls prog 117 #[.slice (some ⟨g,0,none⟩) n cap,.func (.func 145) #[] #[.pointer (some ⟨K,0,none⟩)]] w fun e w'=>∃m xs',e=.returned (.slice (some ⟨g,0,none⟩) m cap)/\(bJ f t bs).length=m/\w'.ownsRow base 64 2 (.slice (some ⟨g,0,none⟩) m cap) m xs'/\Bx w' b1 (bJ f t bs) xs'/\Ch g w w':=by
 obtain⟨hnc,cs,R,rfl⟩:=Rw.open O;have hm:=R.cap;unfold maxLen at hm;have IX:Hid (Calls prog 136 #[.slice (some ⟨g,0,none⟩) n cap,.func (.func 145) #[] #[.pointer (some ⟨K,0,none⟩)]] w fun e w'=>e=.returned (.int .i64 (jf (fun b=>hasB b f t) bs 0))/\Gr w w'):=
  Ad cap (R.bq B hl) hn K (fun b=>hasB b f t) fun W b sa sc G hb=>o9 (atZ _ _ _ _ _ _ (aX G hK)) (atZ _ _ _ _ _ _ (aX G hK)) ht (ok b hb) sa sc
 have HR:=kH R;have HB:=kH B;have HO:=kH O;have HL:=kH hl;have HK:=kH hK;have Cl:Hid (∀(W:World) (b:Bv) (sa:Option Addr) (sc:Nat),W.heap[K]?=some (.cells #[.int .u32 f,.int .u32 t] 175 (0,0))->b∈bs->_):=fun W b sa sc h hb=>o9 (atZ _ _ _ _ _ _ h) (atZ _ _ _ _ _ _ h) ht (ok b hb) sa sc
 clear R B O hl hK ok;rcases R6 (fun b=>hasB b f t) bs with⟨e1,hall⟩|⟨k0,x0,e1,hx0,hp0,hall⟩
 ·rw[e1]at IX;have HA:=kH (Bn hall);clear hall Cl e1 HR;go_enter func117,ntmps117;go_wp2_with fail;refine IX.out.mono ?_;rintro e w1 ⟨rfl,G1⟩;have aU:=kH G1;clear IX G1;go_wp2_with fail;go_ret;refine⟨n,_,rfl,by rw[HA.out];exact HL.out,aC HO.out aU.out,by rw[HA.out];exact HB.out.of aU.out,(Ch.refl g w).gr aU.out⟩
 ·rw[e1]at IX;have hk0:k0<n:=by rw[<-HL.out];exact(apj.1 hx0).1
  have hne:((k0:Int) == -1)=false:=aub.2 (by omega);have HKu:Hid (bJ f t (bs.take (k0+1))=bs.take k0):=by
   unfold Hid;rw[wF hx0,at7 hp0];exact Ju hall
  clear hall e1 hp0 hx0 HO;go_enter func117,ntmps117;go_wp2_with fail;refine IX.out.mono ?_;rintro e w1 ⟨rfl,G1⟩;have aU:=kH G1;clear IX G1;go_wp2_with fail;go_loopw [5,6] (fun vi vj wr=>∃(i j:Nat) (cs:List Value),vi=.int .i64 i/\vj=.int .i64 j/\i<j/\j<=n/\Rw wr base g cap cs/\(bJ f t (bs.take j)).length=i/\Bx wr b1 (bJ f t (bs.take j)) (cs.take (i*2))/\Bx wr b1 (bs.drop j) ((cs.take (n*2)).drop (j*2))/\wr.heap[K]?=some (.cells #[.int .u32 f,.int .u32 t] 175 (0,0))/\Ch g w wr) (fun _ j _=>n-(intOf j).toNat)
  case atStart=>
   have B1:=HB.out.of aU.out;refine⟨k0,k0+1,cs,rfl,by go_num,by omega,by omega,HR.out.of aU.out,?_,?_,B1.drop (k0+1),aX aU.out HK.out,(Ch.refl g w).gr aU.out⟩
   ·rw[HKu.out,ap5,HL.out];omega
   ·rw[HKu.out];have:=B1.take k0;rwa[List.take_take,show min (k0*2) (n*2)=k0*2 by omega]at this
  case round=>
   obtain⟨i,j,ds,rfl,rfl,hij,hjn,R,hli,B1,B2,hK,q⟩:=hrel;have Bo:Hid (Rw wr base g cap ds):=R;have HB1:Hid (Bx wr b1 (bJ f t (bs.take j)) (ds.take (i*2))):=B1;have HB2:Hid (Bx wr b1 (bs.drop j) ((ds.take (n*2)).drop (j*2))):=B2;have HLi:Hid ((bJ f t (bs.take j)).length=i):=hli;have HKr:Hid (wr.heap[K]?=some (.cells #[.int .u32 f,.int .u32 t] 175 (0,0))):=hK;have HQ:Hid (Ch g w wr):=q;clear R B1 B2 hli hK q HR HB aU HK HKu;by_cases hlt:j<n
   ·obtain⟨b,hb⟩:∃b,bs[j]?=some b:=⟨_,api (by rw[HL.out];exact hlt)⟩;obtain⟨v,h1,h2,h3⟩:=HB2.out.at_ 0 b (by rw[ap3];exact hb);obtain⟨sa,sc,rfl⟩:=h3.shape;have c0:wr.cell? ⟨g,j*2,none⟩=some (.int .u32 b.pc):=Bo.out.cell (wX h1);have c1:wr.cell? ⟨g,j*2+1,none⟩=some (.slice sa b.is.length sc):=Bo.out.cell (wX h2);have HI3:Hid (Io wr b1 (.slice sa b.is.length sc) b.is):=h3;have wK:Hid (∀W:World,W.heap[K]?=some (.cells #[.int .u32 f,.int .u32 t] 175 (0,0))->Calls prog 145 #[.agg #[.int .u32 b.pc,.slice sa b.is.length sc],.pointer (some ⟨K,0,none⟩)] W fun e w'=>e=.returned (.bool (hasB b f t))/\Gr W w'):=fun W h=>Cl.out W b sa sc h (aps hb)
    have HKt:=wF (f:=f) (t:=t) hb;have HBd:Hid (bs.drop (j+1)=(bs.drop j).drop 1):=by unfold Hid;rw[aqG]
    clear h1 h2 h3 Cl hb;cases hh:hasB b f t with
    |true=>
     rw[hh]at wK;rw[at7 hh]at HKt;have F8:Hid (bJ f t (bs.take (j+1))=bJ f t (bs.take j)):=HKt;clear HKt hh;generalize b.pc=bp at *
     generalize b.is.length=bn at *
     go_wp2_with fail;refine(wK.out _ (aX ((Gr.refl wr).alloc _) HKr.out)).mono ?_;rintro e w2 ⟨rfl,G2⟩;have HG2:=kH (((Gr.refl wr).alloc _).trans G2);clear G2 c0 c1 wK;go_wp2_with fail;go_roundw
     case rel=>
      refine⟨i,j+1,ds,rfl,by go_num,by omega,by omega,Bo.out.of HG2.out,by rw[F8.out];exact HLi.out,by rw[F8.out];exact HB1.out.of HG2.out,?_,aX HG2.out HKr.out,HQ.out.gr HG2.out⟩;have:=(HB2.out.of HG2.out).drop 1;rwa[aqG,aqG,show j*2+1*2=(j+1)*2 by omega]at this
     case measure=>simp[intOf];omega
    |false=>
     rw[hh]at wK;rw[at6 (by simp[hh])]at HKt;have F8:Hid (bJ f t (bs.take (j+1))=bJ f t (bs.take j)++[b]):=HKt;have HBs:Hid (∀W:World,Bx W b1 (bJ f t (bs.take j)) (ds.take (i*2))->Io W b1 (.slice sa b.is.length sc) b.is->Bx W b1 (bJ f t (bs.take j)++[b]) (ds.take (i*2)++[.int .u32 b.pc,.slice sa b.is.length sc])):=fun W h k=>h.snoc k
     clear HKt hh;generalize b.pc=bp at *
     generalize b.is.length=bn at *
     go_wp2_with fail;refine(wK.out _ (aX ((Gr.refl wr).alloc _) HKr.out)).mono ?_;rintro e w2 ⟨rfl,G2⟩;have HG2:=kH (((Gr.refl wr).alloc _).trans G2);have HR2:=kH (Bo.out.of HG2.out);have e0:w2.cell? ⟨wr.heap.size,0,none⟩=some (.int .u32 bp):=atZ _ _ _ _ _ _ (aX G2 (at5 wr _));have e1:w2.cell? ⟨wr.heap.size,1,none⟩=some (.slice sa bn sc):=atZ _ _ _ _ _ _ (aX G2 (at5 wr _));have hcl:=HR2.out.len;obtain⟨y0,hy0⟩:∃y,w2.cell? ⟨g,i*2,none⟩=some y:=⟨_,HR2.out.cell (api (by omega))⟩;obtain⟨y1,hy1⟩:∃y,w2.cell? ⟨g,i*2+1,none⟩=some y:=⟨_,HR2.out.cell (api (by omega))⟩;have hfz:∀o,w2.frozen? ⟨g,o,none⟩=false:=fun o=>HR2.out.fz o
     have hi0:(0:Int)<=(i:Int):=by omega
     have hi1:(i:Int)<(n:Int):=by omega
     clear G2 c0 c1 wK hcl;go_wp2_with fail;go_roundw
     case rel=>
      have q2:Ch g w2 (w2.setCells g (i*2) [.int .u32 bp,.slice sa bn sc]):=chC (Ch.refl g w2) _ _;have hcl:=HR2.out.len;have R3:=HR2.out.set (o:=i*2) (vs:=[.int .u32 bp,.slice sa bn sc]) (by simp;omega);have lt:(ds.take (i*2)).length=i*2:=by rw[ap5,hcl];omega
      refine⟨i+1,j+1,_,by go_num,by go_num,by omega,by omega,R3,by rw[F8.out,apo,HLi.out];rfl,?_,?_,?_,(HQ.out.gr HG2.out).trans q2⟩
      ·have e6:(ds.take (i*2)++[Value.int .u32 bp,Value.slice sa bn sc]++ds.drop (i*2+[Value.int .u32 bp,Value.slice sa bn sc].length)).take ((i+1)*2)=ds.take (i*2)++[Value.int .u32 bp,Value.slice sa bn sc]:=by
        have l2:(ds.take (i*2)++[Value.int .u32 bp,Value.slice sa bn sc]).length=(i+1)*2:=by rw[apo,lt];simp;omega
        rw[<-l2];exact aqY
       rw[F8.out,e6];exact HBs.out _ ((HB1.out.of HG2.out).ch HR2.out q2) ((HI3.out.of HG2.out).to fun k o r hk=>HR2.out.keep q2 k o _ r (by decide) hk)
      ·have h4:=((HB2.out.of HG2.out).ch HR2.out q2).drop 1;rw[aqG,aqG,show j*2+1*2=(j+1)*2 by omega]at h4;have e5:((ds.take (i*2)++[Value.int .u32 bp,Value.slice sa bn sc]++ds.drop (i*2+[Value.int .u32 bp,.slice sa bn sc].length)).take (n*2)).drop ((j+1)*2)=(ds.take (n*2)).drop ((j+1)*2):=by
        apply aql;intro z;rw[ap3,ap3,apS,apS];split
        ·have l2:(ds.take (i*2)++[Value.int .u32 bp,Value.slice sa bn sc]).length=(i+1)*2:=by rw[apo,lt];simp;omega
         rw[apv (by omega),ap3,l2];congr 1;simp;omega
        ·rfl
       rw[e5];exact h4
      ·exact(HR2.out.keep q2 K _ _ _ (by decide) (aX HG2.out HKr.out)).trans (aX HG2.out HKr.out)
     case measure=>simp[intOf];omega
   ·have ej:j=n:=by omega
    subst ej;have HT:Hid (bs.take j=bs):=by unfold Hid;rw[<-HL.out,ap9]
    have agJ:Hid (Bx wr b1 (bJ f t bs) (ds.take (i*2))):=by have:=HB1.out;rwa[HT.out]at this
    have HLe:Hid ((bJ f t bs).length=i):=by have:=HLi.out;rwa[HT.out]at this
    have hcr:∀ty,(Builtin.clear_ #[52] ty #[.slice (some ⟨g,i*2,none⟩) (j-i) (cap-i)]).run prog wr=.ok (.tuple #[]) (wr.setCells g (i*2) (Im (j-i))):=fun ty=>
     tT wr _ _ ty underlying52 Tryz.zeroValue64 g (i*2) (j-i) (cap-i) (by omega) (fun z hz=>Bo.out.isS (by omega)) (fun z hz=>Bo.out.fz _)
    have hi0:(0:Int)<=(i:Int):=by omega
    have hi1:(i:Int)<(j:Int):=by omega
    clear HB1 HLi HT HB2 Cl;go_wp2_with fail;go_ret;have R3:=Bo.out.set (o:=i*2) (vs:=Im (j-i)) (by rw[sG];omega);have lt:(ds.take (i*2)).length=i*2:=by rw[ap5,Bo.out.len];omega
    have e5:(ds.take (i*2)++Im (j-i)++ds.drop (i*2+(Im (j-i)).length)).take (i*2)=ds.take (i*2):=by
     rw[aqa,aqB (by omega),ap0 (by omega)]
    have q2:Ch g wr (wr.setCells g (i*2) (Im (j-i))):=chC (Ch.refl g wr) _ _;refine⟨i,_,rfl,HLe.out,R3.own (by omega),?_,HQ.out.trans q2⟩;rw[e5];exact agJ.out.ch Bo.out q2
end Kc
namespace Kc
open Mm Ts Hc

variable {pc :Int} {bs :List Bv}
theorem dB {P:Program}{fn:Func}{p t:Tmp}{ty:TypeId}(h:fn.results=#[.cell p ty,.tmp t])(tmps:Array Value)(w:World)(g:Nat)(tt:TypeId)(cs:Array Value)(fr:Nat×Nat)(d:TypeDesc)
  (v:Value)(hp:tmps.getD p undef=.pointer (some ⟨g,0,none⟩))(hv:tmps.getD t undef=v)(hg:w.heap[g]?=some (.cells cs tt fr))
  (hu:P.underlying ty=some d)(hd:(match d with|.struct _|.array _ _=>true|_=>false)=true)(hi:(P.info? ty).map (·.size)=some cs.size):
  (results fn tmps).run P w=.ok (.tuple #[.agg cs,v]) w:=by
 subst hv;have hp':tmps[p]?.getD undef=.pointer (some ⟨g,0,none⟩):=by simpa using hp
 simp[results,h,hp',asAddr,au4 w g tt ty cs fr d hg hu hd hi]
theorem F9 (w:World)(rm r1 r2:Int)(h:rm<0/\r1=0/\r2=3\/¬rm<0/\64<rm/\r1=0/\r2=3\/¬rm<0/\¬64<rm/\r1=rm/\r2=0):Calls prog 24 #[.int .i64 rm] w fun e w'=>e=.returned (.tuple #[.agg #[.int .i64 r1,.slice none 0 0,.int .i64 0,.int .i64 0],.int .i64 r2])/\Gr w w':=by
 rcases h with⟨h0,q⟩|⟨h0,h1,q⟩|⟨h0,h1,q⟩
 ·have HE:Hid _:=q;go_enter func24,ntmps24;go_wp2;exact auc (v:=.tuple #[.agg #[.int .i64 0,.slice none 0 0,.int .i64 0,.int .i64 0],.int .i64 3]) (dB results24 _ _ _ _ _ (0,0) _ _ rfl rfl (at5 w _) underlying54 rfl wG) rfl ⟨by rw[HE.out.1,HE.out.2],(Gr.refl _).alloc _⟩
 ·have HE:Hid _:=q;clear q;go_enter func24,ntmps24;go_wp2;exact auc (v:=.tuple #[.agg #[.int .i64 0,.slice none 0 0,.int .i64 0,.int .i64 0],.int .i64 3]) (dB results24 _ _ _ _ _ (0,0) _ _ rfl rfl (at5 w _) underlying54 rfl wG) rfl ⟨by rw[HE.out.1,HE.out.2],(Gr.refl _).alloc _⟩
 ·have HE:Hid _:=q;clear q;go_enter func24,ntmps24;go_wp2;exact auc (v:=.tuple #[.agg #[.int .i64 rm,.slice none 0 0,.int .i64 0,.int .i64 0],.int .i64 0]) (dB results24 _ _ _ _ _ (0,0) _ _ rfl rfl (at5 w _) underlying54 rfl wG) rfl ⟨by rw[HE.out.1,HE.out.2],(Gr.refl _).alloc _⟩
theorem TG (h:place pc bs 0 = -1):wH pc bs=⟨0,[]⟩:=by unfold wH;rw[h,ak]
theorem TH {j:Nat}{x:Bv}(h:place pc bs 0=(j:Int))(hx:bs[j]?=some x):wH pc bs=x:=by unfold wH;rw[h,dU,apG,List.getD,hx];rfl
theorem TI (w:World):Bc w ⟨0,[]⟩ (.int .u32 0) (.slice none 0 0):=⟨rfl,⟨by decide,by decide⟩,none,0,0,rfl,⟨rfl,fun i h=>(by cases h),fun h=>absurd h (by omega)⟩,by omega⟩
theorem Br {w:World}{ao:Option Addr}{n:Nat}(cap:Nat){bs:List Bv}(B:Bs w ao n bs)(hn:n*32<=140737488351232)(room pu sl pc:Int):Calls prog 109 #[.agg #[.int .i64 room,.slice ao n cap,.int .i64 pu,.int .i64 sl],.int .u32 pc] w fun e w'=>∃x y,e=.returned (.tuple #[.agg #[x,y],.bool (decide (0<=place pc bs 0))])/\Bc w' (wH pc bs) x y/\Gr w w':=by
 have AT:Hid (∀W:World,_):=fun W=>LF W pc
 have NG:Hid (∀(W:World) (K:Nat),Gr w W->W.cell? ⟨K,0,none⟩=some (.int .u32 pc)->Calls prog 136 #[.slice ao n cap,.func (.func 163) #[] #[.pointer (some ⟨K,0,none⟩)]] W fun e w'=>e=.returned (.int .i64 (place pc bs 0))/\Gr W w'):=fun W K G hk=>by
  rw[<-kK];exact LG cap (B.bq.of G) (by omega) K (fun b=>decide (b.pc=pc)) fun W' b sa sc G' _=>FC ((G'.cell _ (by exact aug W _ hk)).trans hk) b.pc sa b.is.length sc
 have HB:=kH B;have HX:Hid (∀W:World,Gr ((w.alloc (.cells #[.int .i64 room,.slice ao n cap,.int .i64 pu,.int .i64 sl] 54)).alloc (.cells #[.int .u32 0,.slice none 0 0] 64)) W->W.cell? ⟨w.heap.size,1,none⟩=some (.slice ao n cap)/\W.heap[w.heap.size+1]?=some (.cells #[.int .u32 0,.slice none 0 0] 64 (0,0))/\Gr w W):=fun W G=>
  ⟨atZ _ _ _ _ _ _ (aX (((Gr.refl _).alloc _).trans G) (at5 w _)),aX G (Ip w _ _),(((Gr.refl w).alloc _).alloc _).trans G⟩
 have HPB:Hid (place pc bs 0 = -1\/∃(j:Nat) (x:Bv),place pc bs 0=(j:Int)/\j<n/\bs[j]?=some x):=by
  rcases fU pc bs 0 with h|⟨j,x,h,hx⟩
  ·exact .inl h
  ·rw[apu]at h;exact .inr ⟨j,x,h,by rw[<-HB.out.len];exact(apj.1 hx).1,hx⟩
 rcases HPB.out with hp|⟨j,b,hp,hj,hb⟩
 ·have HF:=kH (TG hp);rw[hp]at NG;rw[hp];generalize wH pc bs=fb at *
  go_enter func109,ntmps109;go_wp2_with fail
  go_region_with (first
   |(go_at_call 137;refine(AT.out _).mono ?_;rintro e w2 ⟨K,rfl,hk,G2⟩;have HG2:Hid (Gr ((w.alloc (.cells #[.int .i64 room,.slice ao n cap,.int .i64 pu,.int .i64 sl] 54)).alloc (.cells #[.int .u32 0,.slice none 0 0] 64)) w2):=Gr.trans (by repeat (first|exact Gr.refl _|refine Gr.drewN ?_ _|refine Gr.drew ?_)) G2;have x1:w2.cell? ⟨w.heap.size,1,none⟩=some (.slice ao n cap):=(HX.out _ HG2.out).1;clear G2)
   |(go_at_call 136;refine(NG.out _ K (HX.out _ HG2.out).2.2 hk).mono ?_;rintro e w3 ⟨rfl,G3⟩;have fQ:Hid (Gr ((w.alloc (.cells #[.int .i64 room,.slice ao n cap,.int .i64 pu,.int .i64 sl] 54)).alloc (.cells #[.int .u32 0,.slice none 0 0] 64)) w3):=HG2.out.trans G3;clear G3))
  all_goals
   have y1:=(HX.out _ fQ.out).2.1;have HY:=kH y1;have c0:w3.cell? ⟨w.heap.size+1,0,none⟩=some (.int .u32 0):=atZ _ _ _ _ _ _ y1;have c1:w3.cell? ⟨w.heap.size+1,1,none⟩=some (.slice none 0 0):=atZ _ _ _ _ _ _ y1;have cf:∀j,w3.frozen? ⟨w.heap.size+1,j,none⟩=false:=fun j=>aus _ _ _ _ _ y1
   have WZ:=kH ((HX.out _ fQ.out).2.2);go_wp2_with fail;have e2:=aul _ _ 0 _ _ (.int .u32 0) HY.out;have e3:=aul _ _ 1 _ _ (.slice none 0 0) e2;refine auc (v:=.tuple #[.agg #[.int .u32 0,.slice none 0 0],.bool false]) (dB results109 _ _ _ _ _ (0,0) _ _ rfl rfl e3 underlying64 rfl iBk) rfl ?_;have hf:w.heap.size<=w.heap.size+1:=by omega
   refine⟨.int .u32 0,.slice none 0 0,rfl,?_,(WZ.out.setCell (by exact hf) _).setCell (by exact hf) _⟩;rw[HF.out];exact TI _
 ·have HF:=kH (TH hp hb);rw[hp]at NG;rw[hp];obtain⟨k,o,rfl,hk0,hcell⟩:=HB.out.spot (by omega);obtain⟨u,v,p0,p1,hbc⟩:=hcell j b hb;obtain⟨o1,o2,va,vn,vc,rfl⟩:=hbc.ones;have hu:=hbc.1;subst hu;have zS:=kH hbc.ok;have HCe:Hid (∀W:World,Gr w W->W.cell? ⟨k,o+j*2,none⟩=some (.int .u32 b.pc)/\W.cell? ⟨k,o+j*2+1,none⟩=some (.slice va vn vc)):=fun W G=>⟨(G.cell _ (by exact hk0)).trans p0,(G.cell _ (by exact hk0)).trans p1⟩
  have CP:Hid (∀W:World,Gr w W->_):=fun W G=>qW (hbc.of G)
  have hj0:(0:Int)<=(j:Int):=by omega
  have hj1:(j:Int)<(n:Int):=by omega
  have HBc:Hid (∀(W:World) (v:Value),Io W w.heap.size v b.is->_):=fun W v h=>h.bc zS.out
  generalize wH pc bs=fb at *
  generalize hbp:b.pc=bp at *
  go_enter func109,ntmps109;go_wp2_with fail
  go_region_with (first
   |(go_at_call 137;refine(AT.out _).mono ?_;rintro e w2 ⟨K,rfl,hk,G2⟩;have HG2:Hid (Gr ((w.alloc (.cells #[.int .i64 room,.slice (some ⟨k,o,none⟩) n cap,.int .i64 pu,.int .i64 sl] 54)).alloc (.cells #[.int .u32 0,.slice none 0 0] 64)) w2):=Gr.trans (by repeat (first|exact Gr.refl _|refine Gr.drewN ?_ _|refine Gr.drew ?_)) G2;have x1:w2.cell? ⟨w.heap.size,1,none⟩=some (.slice (some ⟨k,o,none⟩) n cap):=(HX.out _ HG2.out).1;clear G2)
   |(go_at_call 136;refine(NG.out _ K (HX.out _ HG2.out).2.2 hk).mono ?_;rintro e w3 ⟨rfl,G3⟩;have fQ:Hid (Gr ((w.alloc (.cells #[.int .i64 room,.slice (some ⟨k,o,none⟩) n cap,.int .i64 pu,.int .i64 sl] 54)).alloc (.cells #[.int .u32 0,.slice none 0 0] 64)) w3):=HG2.out.trans G3;clear G3))
  all_goals
   have y1:=(HX.out _ fQ.out).2.1;have HY:=kH y1;have x1:=(HX.out _ fQ.out).1;have WZ:=kH ((HX.out _ fQ.out).2.2);obtain⟨d0,d1⟩:=HCe.out _ WZ.out;go_wp2_with fail;refine(CP.out _ WZ.out).mono ?_;rintro e w4 ⟨v4,rfl,I4,G4⟩;have Zc:=kH (WZ.out.trans G4);have HI4:=kH (I4.low WZ.out.size);have y2:=aX G4 HY.out;have KJ:=kH y2;have c0:w4.cell? ⟨w.heap.size+1,0,none⟩=some (.int .u32 0):=atZ _ _ _ _ _ _ y2;have c1:w4.cell? ⟨w.heap.size+1,1,none⟩=some (.slice none 0 0):=atZ _ _ _ _ _ _ y2;have cf:∀j,w4.frozen? ⟨w.heap.size+1,j,none⟩=false:=fun j=>aus _ _ _ _ _ y2
   obtain⟨ia,ic,rfl⟩:=I4.shape;generalize b.is.length=iq at *
   go_wp2_with fail;have e2:=aul _ _ 0 _ _ (.int .u32 bp) KJ.out;have e3:=aul _ _ 1 _ _ (.slice ia iq ic) e2;refine auc (v:=.tuple #[.agg #[.int .u32 bp,.slice ia iq ic],.bool true]) (dB results109 _ _ _ _ _ (0,0) _ _ rfl rfl e3 underlying64 rfl iBk) rfl ?_;have hf:w.heap.size<=w.heap.size+1:=by omega
   refine⟨.int .u32 bp,.slice ia iq ic,by simp,?_,(Zc.out.setCell (by exact hf) _).setCell (by exact hf) _⟩;rw[HF.out];refine HBc.out _ _ (HI4.out.to fun z c r hz=>?_);have nz:=aa hz KJ.out (by decide);rw[auv _ _ _ _ (by exact nz),auv _ _ _ _ (by exact nz)]
end Kc
end Go.Proofs.YtiadhbmnfjfioaaGreatDoor
