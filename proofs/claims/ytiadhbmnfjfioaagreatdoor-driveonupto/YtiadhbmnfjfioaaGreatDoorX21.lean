/- ours -/
import Derived.Test.YtiadhbmnfjfioaaGreatDoorX18
import Derived.Test.YtiadhbmnfjfioaaGreatDoorX20
set_option linter.unusedVariables false
set_option linter.unusedSimpArgs false
set_option maxHeartbeats 8000000
set_option maxRecDepth 100000
set_option linter.unusedSectionVars false
namespace Go.Proofs.YtiadhbmnfjfioaaGreatDoor
open Go.Proofs.Tryz
open Go.ChangeShapes Go.WideShapes Go.ChangeAt Go.RowKit
variable [Inhabited Hc.bN]
namespace Bk
open Mm Hh Hc

variable {w W w' :World} {base e sz n b t k g :Nat} {v z0 z1 :Value} {xs :List Value}
def bkP (n:Nat) (pc:Int):Int:=if 4096<n then 0 else pc
def bkX (n:Nat) (l:List UInt8) (pc:Int):List Int:=if 4096<n then[]else blk l pc 16 0
theorem iB:(prog.info? 64).map (·.size)=some 2:=by kernel_rfl
theorem ND:(prog.info? 59).map (fun i=>(i.zero,i.size,i.bytes))=some (some (.agg #[.int .i64 0,.int .i64 0,.int .i64 0,.int .i64 0,.int .i32 0]),5,40):=by kernel_rfl
theorem qZ (h:w.ownsRow base e sz v n xs):∃a c,v=.slice a n c:=by
 rcases h.2 with⟨rfl,rfl⟩|⟨g,cap,_,rfl,_⟩
 ·exact⟨none,0,rfl⟩
 ·exact⟨_,cap,rfl⟩
theorem kD {b':Nat}(h:w.ownsRow b e sz v n xs)(hb:b'<=b):w.ownsRow b' e sz v n xs:=by
 refine⟨h.1,?_⟩;rcases h.2 with h|⟨g',cap,cur,hv,hb1,r⟩
 ·exact .inl h
 ·exact .inr ⟨g',cap,cur,hv,by omega,r⟩
theorem Ee {x0 x1 x2 x3 x4:Value}(h0:W.cell? ⟨b,0,none⟩=some x0)(h1:W.cell? ⟨b,1,none⟩=some x1)(h2:W.cell? ⟨b,2,none⟩=some x2)(h3:W.cell? ⟨b,3,none⟩=some x3)(h4:W.cell? ⟨b,4,none⟩=some x4):∀j u,([x0,x1,x2,x3,x4]:List Value)[j]?=some u->W.cell? ((⟨b,0,none⟩:Addr).add j)=some u:=by
 intro j u hj;rw[cz]
 match j,hj with
 |0,hj=>simp at hj;subst hj;exact h0
 |1,hj=>simp at hj;subst hj;exact h1
 |2,hj=>simp at hj;subst hj;exact h2
 |3,hj=>simp at hj;subst hj;exact h3
 |4,hj=>simp at hj;subst hj;exact h4
theorem BH (op:Int)(w:World):Calls prog 30 #[.int .i64 op] w fun e w'=>e=.returned (.bool (eB op))/\w'=w:=by
 go_enter func30,ntmps30;go_wp2
 all_goals
  go_ret;refine⟨Dw.aM ?_,rfl⟩;simp only[auU,aub,ne_eq]at *
  unfold eB;first|exact(auq (by omega)).symm|exact(auh (by omega)).symm
structure Aft (w w3:World) (g gi:Nat) (pc:Int) (v:Value) (k:Nat) (xs:List Value) (y:Value):Prop where
 b1:w3.heap[g+1]?=some (.cells #[.int .u32 pc,v] 64 (0,0))
 b0:w3.heap[g]?=some (.cells #[.int .u32 0,.slice none 0 0] 64 (0,0))
 own:w3.ownsRow (g+2) 59 5 v k xs
 gr:Gr w w3
 op:w3.cell? ⟨gi,0,none⟩=some y
theorem uK {O:Value}(hO:w.ownsRow base e sz O n xs)(q:w.grownBy w' O.ownBlock)(ht:t≠e){o:Array Value}{f:Nat×Nat}(hk:w.heap[k]?=some (.cells o t f)):w'.heap[k]?=some (.cells o t f):=
 (q.block k (gs hk).1 (fun h=>by
  rcases hO.2 with⟨h0,_⟩|⟨g',cap,cur,hv,_,hg,_⟩
  ·rw[h0]at h;cases h
  ·rw[hv]at h;injection h with h;exact aa hk hg ht h)).trans hk
theorem dR (g:Gr w w'){x:Obj}(h:w.heap[k]?=some x):w'.heap[k]?=some x:=by rw[au1 g k (gs h).1];exact h
theorem aft {wr w1 w2:World}{pc:Int}{S v':Value}{xs':List Value}{Y Z:Array Value}{y:Value}(hg:w.heap.size=g)(B1:wr.heap[g+1]?=some (.cells #[.int .u32 pc,S] 64 (0,0)))(B0:wr.heap[g]?=some (.cells #[.int .u32 0,.slice none 0 0] 64 (0,0)))(O:wr.ownsRow (g+2) 59 5 S k xs)(G:Gr w wr)(G1:Gr wr w1)(q:((w1.alloc (.cells Y 59)).alloc (.cells Z 59)).grownBy w2 S.ownBlock)(O2:w2.ownsRow (g+2) 59 5 v' (k+1) xs')(hy:Y[0]?=some y):w2.cell? ⟨g+1,1,none⟩=some S/\w2.frozen? ⟨g+1,1,none⟩=false/\Aft w (w2.setCell ⟨g+1,1,none⟩ v') g w1.heap.size pc v' (k+1) xs' y:=by
 have G2:Gr wr ((w1.alloc (.cells Y 59)).alloc (.cells Z 59)):=(G1.alloc _).alloc _;have O1:=aC O G2;have b1:=uK O1 q (by decide) (dR G2 B1);have b0:=uK O1 q (by decide) (dR G2 B0);have hY:w2.heap[w1.heap.size]?=some (.cells Y 59 (0,0)):=by
  have e:((w1.alloc (.cells Y 59)).alloc (.cells Z 59)).heap[w1.heap.size]?=some (.cells Y 59 (0,0)):=auR w1 _ _;refine(q.block _ (gs e).1 (fun h=>?_)).trans e;have:=(O.lt _ h.symm).2;have:=G1.size;omega
 have ne:∀{t:Nat},t≠64->∀{k:Nat} {o:Array Value} {f:Nat×Nat},w2.heap[k]?=some (.cells o t f)->(w2.setCell ⟨g+1,1,none⟩ v').heap[k]?=w2.heap[k]?:=fun ht _ _ _ hk=>hso (by exact aa hk b1 ht)
 refine⟨cr b1,lh b1,?_,?_,?_,?_,?_⟩
 ·rw[hss b1];rfl
 ·exact(hso (by show g≠g+1;omega)).trans b0
 ·exact aj O2 fun k o f hk=>ne (by decide) hk
 ·refine Gr.setCell ?_ (by show w.heap.size<=g+1;omega) _;exact(G.trans G2).grown q (fun b e=>by have:=(O.lt b e).1;omega)
 ·exact(cr ((ne (by decide) hY).trans hY)).trans hy
theorem yV (h:W.heap[g]?=some (.cells #[z0,z1] t (0,0)))(a b:Value):((W.setCell ⟨g,0,none⟩ a).setCell ⟨g,1,none⟩ b).heap[g]?=some (.cells #[a,b] t (0,0)):=by have h0:=aul W g 0 _ _ a h;exact aul _ g 1 _ _ b h0
theorem uM (h:W.ownsRow base 59 5 v n xs)(hb:W.heap[g]?=some (.cells #[z0,z1] 64 (0,0)))(hg:g<=base)(a b:Value):((W.setCell ⟨g,0,none⟩ a).setCell ⟨g,1,none⟩ b).ownsRow g 59 5 v n xs:=
 kD (aj h fun k o f hk=>by
  have e:=aa hk hb (by decide);rw[hso (by exact e),hso (by exact e)]) hg
theorem NV (x0 x1 x2 x3 x4:Int):∀u∈([.int .i64 x0,.int .i64 x1,.int .i64 x2,.int .i64 x3,.int .i32 x4]:List Value),u.oneCell'=true:=by intro u hu;simp only[apx,apB,auw]at hu;rcases hu with rfl|rfl|rfl|rfl|rfl<;>rfl
theorem BI {w:World}{ao:Option Addr}{n:Nat}(cap:Nat){l:List UInt8}(pc:Int)(M:Mem w ao n l)(T:Dw.nK w)(hn:n<=4096)(h0:0<=pc)(h1:pc<4294967296):Calls prog 15 #[.slice ao n cap,.int .u32 pc] w fun e w'=>∃v,e=.returned (.agg #[.int .u32 (bkP n pc),v])/\w'.ownsRow w.heap.size 59 5 v (bkX n l pc).length (vL (bkX n l pc))/\Gr w w':=by
 have e1:bkP n pc=pc:=ak;have e2:bkX n l pc=blk l pc 16 0:=ak;rw[e1,e2];have HT:∀W:World,Gr w W->Dw.nK W:=fun W G=>⟨fun i v e=>(G.cell _ (by exact Dw.lt_of_cell (T.shapes i v e))).trans (T.shapes i v e),fun i v e=>(G.cell _ (by exact Dw.lt_of_cell (T.uppers i v e))).trans (T.uppers i v e)⟩
 have F:Hid (∀(k:Nat) (W:World),Gr w W->_):=fun k W G=>Hf.ng cap (at4 pc k) (M.of G) (HT W G) (by omega) (yn pc k).1 (yn pc k).2
 obtain⟨i0,hi,hz0,hz1,hz2⟩:=auz ND;clear e1 e2 M T HT;go_enter func15,ntmps15;go_wp2_with fail;go_loopw [15] (fun i wr=>∃(k:Nat) (xs:List Int) (a:Option Addr) (c:Nat),k<=16/\i=.int .u32 k/\xs.length=k/\xs++blk l pc (16-k) k=blk l pc 16 0/\wr.heap[w.heap.size+1]?=some (.cells #[.int .u32 pc,.slice a k c] 64 (0,0))/\wr.heap[w.heap.size]?=some (.cells #[.int .u32 0,.slice none 0 0] 64 (0,0))/\wr.ownsRow (w.heap.size+2) 59 5 (.slice a k c) k (vL xs)/\Gr w wr) (fun i _=>16-(intOf i).toNat)
 case atStart=>exact⟨0,[],none,0,by omega,rfl,rfl,rfl,au8 w _ _,auR w _ _,aur _ _ _ _,((Gr.refl _).alloc _).alloc _⟩
 case round=>
  obtain⟨k,xs,a,c,hk,rfl,hl,hx,B1,B0,O,G⟩:=hrel;have HX:=kH hx;have HL:=kH hl;have HB1:=kH B1;have HB0:=kH B0;have HO:=kH O;have HG:=kH G;have hlt:=(apk.1 B1).1;clear hl hx B1 B0 O G;by_cases h16:k<16
  ·have FK:Hid _:=F.out k;have HA:Hid (¬jR l (at4 pc k)=0->xs=blk l pc 16 0):=fun h=>by
    have e:=HX.out;rw[show 16-k=(15-k)+1 by omega,pg h,apz]at e;exact e
   have Zz:Hid (jR l (at4 pc k)=0->eB (Dc.aO (aN l 13 (at4 pc k)))=true->xs++[aN l 13 (at4 pc k)]=blk l pc 16 0):=fun h h2=>by
    have e:=HX.out;rw[show 16-k=(15-k)+1 by omega,pq h h2]at e;exact e
   have HC:Hid (jR l (at4 pc k)=0->eB (Dc.aO (aN l 13 (at4 pc k)))=false->(xs++[aN l 13 (at4 pc k)])++blk l pc (16-(k+1)) (k+1)=blk l pc 16 0):=fun h h2=>by
    have e:=HX.out;rw[show 16-k=(15-k)+1 by omega,yo h h2]at e;rw[show 16-(k+1)=15-k by omega];simpa using e
   have HIC:Hid (vK (aN l 13 (at4 pc k))=[.int .i64 (Dc.aO (aN l 13 (at4 pc k))),.int .i64 (Dc.iF (Dc.aJ (Dc.aO (aN l 13 (at4 pc k)))) (aN l 13 (at4 pc k))),.int .i64 (Dc.bZ (Dc.aJ (Dc.aO (aN l 13 (at4 pc k)))) (aN l 13 (at4 pc k))),.int .i64 (Dc.bV (Dc.aJ (Dc.aO (aN l 13 (at4 pc k)))) (aN l 13 (at4 pc k))),.int .i32 (Dc.bS (Dc.aJ (Dc.aO (aN l 13 (at4 pc k)))) (aN l 13 (at4 pc k)))]):=rfl;clear HX;unfold Dw.kP Dw.df at FK;clear F;generalize aN l 13 (at4 pc k)=X at *
   generalize jR l (at4 pc k)=cc at *
   generalize Dc.iF (Dc.aJ (Dc.aO X)) X=x1 at *
   generalize Dc.bZ (Dc.aJ (Dc.aO X)) X=x2 at *
   generalize Dc.bV (Dc.aJ (Dc.aO X)) X=x3 at *
   generalize Dc.bS (Dc.aJ (Dc.aO X)) X=x4 at *
   generalize Dc.aO X=x0 at *
   have FK2:=kH FK;clear FK;by_cases hc:cc=0
   ·subst hc;go_wp2_with fail;refine(FK2.out _ HG.out).mono ?_;rintro e w1 ⟨rfl,G1⟩;have aU:=kH G1;have q1:w1.cell? ⟨w.heap.size+1,1,none⟩=some (.slice a k c):=atZ _ _ _ _ _ _ (dR G1 HB1.out);have hlt1:=apq hlt G1.size;clear G1 FK2;go_wp2_with (at_builtin;refine auK _ rfl (.tmp 30) (.tmp 32) 62 rfl (w.heap.size+2) 59 i0 (.agg #[.int .i64 0,.int .i64 0,.int .i64 0,.int .i64 0,.int .i32 0]) 5 40 underlying62 hi hz0 hz1 hz2 rfl (by decide) (.slice a k c) k (vL xs) rfl (aC HO.out ((aU.out.alloc _).alloc _)) ⟨w1.heap.size+1,0,none⟩ 1 1 [.int .i64 x0,.int .i64 x1,.int .i64 x2,.int .i64 x3,.int .i32 x4] rfl rfl (Ee (by simp) (by simp) (by simp) (by simp) (by simp)) (NV _ _ _ _ _) (by unfold maxLen;omega) (by omega) (by simp;omega) ?_;intro v' w2 hown hgrow _;obtain⟨a',c',rfl⟩:=qZ hown;obtain⟨z1,z2,A0⟩:=aft rfl HB1.out HB0.out HO.out HG.out aU.out hgrow hown (y:=.int .i64 x0) (by simp);have HF:Hid (Aft w (w2.setCell ⟨w.heap.size+1,1,none⟩ (.slice a' (k+1) c')) w.heap.size w1.heap.size pc (.slice a' (k+1) c') (k+1) (vL xs++[.int .i64 x0,.int .i64 x1,.int .i64 x2,.int .i64 x3,.int .i32 x4]) (.int .i64 x0)):=A0;have z3:=A0.op;clear A0 hown hgrow);clear z1 z2 z3 HO HB1 HB0 HG aU q1;generalize w2.setCell ⟨w.heap.size+1,1,none⟩ (.slice a' (k+1) c')=w3 at *
    have KV:Hid ((xs++[X]).length=k+1):=by unfold Hid;rw[apo,HL.out];rfl
    have HCC:Hid (vL (xs++[X])=vL xs++[.int .i64 x0,.int .i64 x1,.int .i64 x2,.int .i64 x3,.int .i32 x4]):=by unfold Hid;rw[Nk,HIC.out]
    cases hL:eB x0 with
    |true=>
     have HE:Hid (∀W:World,Calls prog 30 #[.int .i64 x0] W fun e w'=>e=.returned (.bool true)/\w'=W):=fun W=>by have:=BH x0 W;rwa[hL]at this
     have ZA:Hid _:=Zz.out (by simp) hL;refine(HE.out _).mono ?_;rintro e w4 ⟨rfl,rfl⟩;clear HE hL Zz HC HA;have HOW:Hid (w4.ownsRow (w.heap.size+2) 59 5 (.slice a' (k+1) c') (blk l pc 16 0).length (vL (blk l pc 16 0))):=(by unfold Hid;rw[<-ZA.out,KV.out,HCC.out];exact HF.out.own);have q0:w4.cell? ⟨w.heap.size+1,0,none⟩=some (.int .u32 pc):=atZ _ _ _ _ _ _ HF.out.b1;have q1:w4.cell? ⟨w.heap.size+1,1,none⟩=some (.slice a' (k+1) c'):=atZ _ _ _ _ _ _ HF.out.b1;have r0:w4.cell? ⟨w.heap.size,0,none⟩=some (.int .u32 0):=atZ _ _ _ _ _ _ HF.out.b0;have r1:w4.cell? ⟨w.heap.size,1,none⟩=some (.slice none 0 0):=atZ _ _ _ _ _ _ HF.out.b0;have f0:∀j,w4.frozen? ⟨w.heap.size,j,none⟩=false:=fun j=>aus _ _ _ _ _ HF.out.b0
     go_wp2_with fail;refine auc (v:=.agg #[.int .u32 pc,.slice a' (k+1) c']) (auD results15 _ _ _ _ _ (0,0) _ rfl (yV HF.out.b0 _ _) underlying64 rfl iB) rfl ⟨_,rfl,?_,?_⟩
     ·exact uM HOW.out HF.out.b0 (by omega) _ _
     ·exact(HF.out.gr.setCell (apn _) _).setCell (apn _) _
    |false=>
     have HE:Hid (∀W:World,Calls prog 30 #[.int .i64 x0] W fun e w'=>e=.returned (.bool false)/\w'=W):=fun W=>by have:=BH x0 W;rwa[hL]at this
     have ZA:Hid _:=HC.out (by simp) hL;refine(HE.out _).mono ?_;rintro e w4 ⟨rfl,rfl⟩;clear HE hL Zz HC HA;go_wp2_with fail;go_roundw
     case rel=>exact⟨k+1,xs++[X],a',c',by omega,by go_num,KV.out,ZA.out,HF.out.b1,HF.out.b0,by rw[HCC.out];exact HF.out.own,HF.out.gr⟩
     case measure=>simp[intOf];omega
   ·have hb:(cc ==0)=false:=by simpa using hc
    have ZA:Hid _:=HA.out hc;go_wp2_with fail;refine(FK2.out _ HG.out).mono ?_;rintro e w1 ⟨rfl,G1⟩;have aU:=kH G1;have TZ:Hid (Gr wr (w1.alloc (.cells #[.int .i64 x0,.int .i64 x1,.int .i64 x2,.int .i64 x3,.int .i32 x4] 59))):=G1.alloc _;clear G1 FK2;have HOW:Hid ((w1.alloc (.cells #[.int .i64 x0,.int .i64 x1,.int .i64 x2,.int .i64 x3,.int .i32 x4] 59)).ownsRow (w.heap.size+2) 59 5 (.slice a (k) c) (blk l pc 16 0).length (vL (blk l pc 16 0))):=(by unfold Hid;rw[<-ZA.out,HL.out];exact aC HO.out TZ.out);have q0:(w1.alloc (.cells #[.int .i64 x0,.int .i64 x1,.int .i64 x2,.int .i64 x3,.int .i32 x4] 59)).cell? ⟨w.heap.size+1,0,none⟩=some (.int .u32 pc):=atZ _ _ _ _ _ _ (dR TZ.out HB1.out);have q1:(w1.alloc (.cells #[.int .i64 x0,.int .i64 x1,.int .i64 x2,.int .i64 x3,.int .i32 x4] 59)).cell? ⟨w.heap.size+1,1,none⟩=some (.slice a (k) c):=atZ _ _ _ _ _ _ (dR TZ.out HB1.out);have r0:(w1.alloc (.cells #[.int .i64 x0,.int .i64 x1,.int .i64 x2,.int .i64 x3,.int .i32 x4] 59)).cell? ⟨w.heap.size,0,none⟩=some (.int .u32 0):=atZ _ _ _ _ _ _ (dR TZ.out HB0.out);have r1:(w1.alloc (.cells #[.int .i64 x0,.int .i64 x1,.int .i64 x2,.int .i64 x3,.int .i32 x4] 59)).cell? ⟨w.heap.size,1,none⟩=some (.slice none 0 0):=atZ _ _ _ _ _ _ (dR TZ.out HB0.out);have f0:∀j,(w1.alloc (.cells #[.int .i64 x0,.int .i64 x1,.int .i64 x2,.int .i64 x3,.int .i32 x4] 59)).frozen? ⟨w.heap.size,j,none⟩=false:=fun j=>aus _ _ _ _ _ (dR TZ.out HB0.out)
    go_wp2_with fail;refine auc (v:=.agg #[.int .u32 pc,.slice a (k) c]) (auD results15 _ _ _ _ _ (0,0) _ rfl (yV (dR TZ.out HB0.out) _ _) underlying64 rfl iB) rfl ⟨_,rfl,?_,?_⟩
    ·exact uM HOW.out (dR TZ.out HB0.out) (by omega) _ _
    ·exact((HG.out.trans TZ.out).setCell (apn _) _).setCell (apn _) _
  ·have k16:k=16:=by omega
   subst k16;have ZA:Hid (xs=blk l pc 16 0):=by have:=HX.out;rw[LU,apz]at this;exact this
   clear F HX;have HOW:Hid (wr.ownsRow (w.heap.size+2) 59 5 (.slice a (16) c) (blk l pc 16 0).length (vL (blk l pc 16 0))):=(by unfold Hid;rw[<-ZA.out,HL.out];exact HO.out);have q0:wr.cell? ⟨w.heap.size+1,0,none⟩=some (.int .u32 pc):=atZ _ _ _ _ _ _ HB1.out;have q1:wr.cell? ⟨w.heap.size+1,1,none⟩=some (.slice a (16) c):=atZ _ _ _ _ _ _ HB1.out;have r0:wr.cell? ⟨w.heap.size,0,none⟩=some (.int .u32 0):=atZ _ _ _ _ _ _ HB0.out;have r1:wr.cell? ⟨w.heap.size,1,none⟩=some (.slice none 0 0):=atZ _ _ _ _ _ _ HB0.out;have f0:∀j,wr.frozen? ⟨w.heap.size,j,none⟩=false:=fun j=>aus _ _ _ _ _ HB0.out
   go_wp2_with fail;refine auc (v:=.agg #[.int .u32 pc,.slice a (16) c]) (auD results15 _ _ _ _ _ (0,0) _ rfl (yV HB0.out _ _) underlying64 rfl iB) rfl ⟨_,rfl,?_,?_⟩
   ·exact uM HOW.out HB0.out (by omega) _ _
   ·exact(HG.out.setCell (apn _) _).setCell (apn _) _
end Bk
namespace En
open Mm Hh Hc Mc

theorem su {P:Program}{ops:Array Oper}{S:World->Prop}{o:Oper}{a:Act}(hw:Region.wanted o (yielded ops a.tmps)=true)(t:TypeId)(m x:Operand)(ho:o.op=.lookup t m x false)(v:Value)(h:∀W,S W->(Instr.lookup t (a.eval m) (a.eval x) false).run P W=.ok v W):YieldsIf P ops S o v a:=
 .inl ⟨hw,fun w hS=>by
  unfold execOp;simp only[ho,au3,h w hS,auM];rfl⟩
theorem zMs (w:World):(zeroValue 177).run prog w=.ok (.slice none 0 0) w:=by kernel_rfl
theorem JE {w:World}{mb mn:Nat}{D:DataW Value}(h:w.ownsMap prog 37 Rh mb mn D){pc:Int}(h0:0<=pc)(h1:pc<4294967296){v:Value}(hv:∀z,D.atKey (.int .u32 pc) z=.held v):(Instr.lookup 92 (.map (some mb)) (.int .u32 pc) false).run prog w=.ok v w:=by obtain⟨u,ps,hrun,hu⟩:=h.lookup kU underlying92 (zMs w) (zd:=.held (.slice none 0 0)) (zp:=[]) rfl (acJ h0 h1);rw[hv]at hu;have:some (DataW.held u,([]:List MemPlace))=some (.held v,ps):=hu;injection this with this;injection this with this;injection this with this;rw[hrun,this]
theorem NW (p:Int)(a:Option Addr)(n c:Nat):(#[.int .u32 p,.slice a n c]:Array Value).all (·.oneCell')=true:=by refine auE ?_;intro v hv;simp only[apx,apB,auw]at hv;rcases hv with rfl|rfl<;>rfl
section
variable {lo :Nat} {w :World} {base g gh hc :Nat} {room :Int} {M O :Value} {a :Option Addr} {n cap mb mn :Nat} {D :DataW Value} {s :Sh} {L :List Kc.Bv} {pu sl :Int}
theorem BJ (E:Ew lo w base g room M gh hc O a n cap mb mn D s L pu sl)(hn:n*32<=140737488351232){pc:Int}(h0:0<=pc)(h1:pc<4294967296)(hp:0<=Kc.place pc L 0)(hm:Kc.wH pc L∈L)(hpc:(Kc.wH pc L).pc=pc):Calls prog 85 #[.pointer (some ⟨g,0,none⟩),.int .u32 pc] w fun e w'=>∃ba bc ca cn cc,e=.returned (.tuple #[.agg #[.int .u32 pc,.slice ba (Kc.wH pc L).is.length bc],.slice ca cn cc])/\Ts.Ct w' ca cn (Ts.aS pc (Kc.wH pc L).is 0)/\Gr w w':=by
 have HE:Hid (Ew lo w base g room M gh hc O a n cap mb mn D s L pu sl):=E;obtain⟨ca,cn,cc,hat,hct⟩:=E.code _ hm;rw[hpc]at hat hct;have HLk:Hid (∀W:World,W.ownsMap prog 37 Rh mb mn D->(Instr.lookup 92 (.map (some mb)) (.int .u32 pc) false).run prog W=.ok (.slice ca cn cc) W):=fun W h=>JE h h0 h1 hat
 have HCt:Hid (Ts.Ct w ca cn (Ts.aS pc (Kc.wH pc L).is 0)):=hct;have HFd:Hid (∀W:World,Gr w W->Calls prog 109 #[.agg #[.int .i64 room,.slice a n cap,.int .i64 pu,.int .i64 sl],.int .u32 pc] W fun e w'=>∃sa sn sc,e=.returned (.tuple #[.agg #[.int .u32 pc,.slice sa sn sc],.bool true])/\(Kc.wH pc L).is.length=sn/\Gr W w'):=fun W G=>by
  have:=Kc.Br cap (E.bt.of G).bs hn room pu sl pc;rw[auq hp]at this;refine this.mono ?_;rintro e w' ⟨x,y,rfl,⟨hx,_,sa,sn,sc,hy,I,_⟩,G'⟩;subst hx hy;rw[hpc];exact⟨sa,sn,sc,rfl,I.len,G'⟩
 have g4:=E.c4;have g5:=E.c5;have g6:=E.c6;have g7:=E.c7;have hgl:g<w.heap.size:=E.bw.lt;clear E hp hm hpc hat hct hn h0 h1;generalize Kc.wH pc L=fb at *
 go_enter func85,ntmps85;go_wp2_with fail;refine(HFd.out _ ((Gr.refl _).alloc _)).mono ?_;rintro e w1 ⟨sa,sn,sc,rfl,hsn,G1⟩;have ZB:Hid (fb.is.length=sn):=hsn;have aU:Hid (Gr w w1):=((Gr.refl _).alloc _).trans G1;have HR1:=kH (Kc.aX G1 (at5 w _));clear G1 hsn HFd g4 g5 g6 g7;go_wp2_with fail;obtain⟨o,ho⟩:∃o:Nat,o=w1.heap.size:=⟨_,rfl⟩;refine aT (fun W=>W.heap[o]?=some (.cells #[.int .u32 pc,.slice sa sn sc] 64 (0,0))/\W.heap[w.heap.size]?=some (.cells #[.int .u32 0,.slice none 0 0] 64 (0,0))/\Gr w W) ?_ ?_
 ·have hlt:=(apk.1 HR1.out).1;subst ho;exact⟨at5 w1 _,Kc.aX ((Gr.refl _).alloc _) HR1.out,aU.out.alloc _⟩
 rw[<-ho];have hol:w.heap.size<o:=by rw[ho];exact(apk.1 HR1.out).1
 clear ho HR1 aU;clear w1;rintro W ⟨K0,K1,GW⟩;have zT:Hid (Gr w W):=GW;have Q7:Hid (W.heap[w.heap.size]?=some (.cells #[.int .u32 0,.slice none 0 0] 64 (0,0))):=K1;have HS:Hid ((fun W=>W.cell? ⟨o,0,none⟩=some (.int .u32 pc)/\W.cell? ⟨o,1,none⟩=some (.slice sa sn sc)/\W.cell? ⟨g,8,none⟩=some (.map (some mb))/\W.ownsMap prog 37 Rh mb mn D) W):=⟨atZ _ _ _ _ _ _ K0,atZ _ _ _ _ _ _ K0,(HE.out.of GW).c8,(HE.out.of GW).map⟩;have HK0:Hid (W.heap[o]?=some (.cells #[.int .u32 pc,.slice sa sn sc] 64 (0,0))):=K0;clear K0 K1 GW;refine aut (S:=fun W=>W.cell? ⟨o,0,none⟩=some (.int .u32 pc)/\W.cell? ⟨o,1,none⟩=some (.slice sa sn sc)/\W.cell? ⟨g,8,none⟩=some (.map (some mb))/\W.ownsMap prog 37 Rh mb mn D) (by kernel_rfl) ?_ (fun hHeld=>?_)
 ·exact HS.out
 have aY:Hid _:=hHeld;clear hHeld;refine tK 0 (.agg #[.int .u32 pc,.slice sa sn sc]) aY.out ?_;refine tK 1 (.pointer (some ⟨g,0,none⟩)) aY.out ?_;refine tK 2 (.pointer (some ⟨g,0,none⟩)) aY.out ?_;refine tK 3 (.pointer (some ⟨g,8,none⟩)) aY.out ?_;refine tK 4 (.map (some mb)) aY.out ?_;refine tK 5 (.int .u32 pc) aY.out ?_;refine auF (i:=6) (v:=.slice ca cn cc) rfl (by kernel_rfl) (by kernel_rfl) (by kernel_rfl) (fun _ _ _ h=>h) (su (by rfl) 92 (.tmp 24) (.tmp 25) rfl _ (fun W hW=>by simpa[Act.eval]using HLk.out W hW.2.2.2)) aY.out ?_;simp only[apN,apP,apQ,Act.put,apl,apC,apy];refine bu (i:=7) (by kernel_rfl) rfl rfl 64 (.tmp 4) (.tmp 20) rfl w.heap.size #[.int .u32 pc,.slice sa sn sc] (by simp[Act.eval]) (by simp[Act.eval]) 64 _ Q7.out Bk.iB rfl (NW _ _ _ _) ?hs ?_
 case hs=>
  have e0:(W.drew.setRow w.heap.size #[.int .u32 pc,.slice sa sn sc]).heap[o]?=some (.cells #[.int .u32 pc,.slice sa sn sc] 64 (0,0)):=(auo _ _ _ _ (by omega)).trans HK0.out;have EW:=(HE.out.of (ag zT.out (apn _) #[.int .u32 pc,.slice sa sn sc]));exact⟨atZ _ _ _ _ _ _ e0,atZ _ _ _ _ _ _ e0,EW.c8,EW.map⟩
 have HSf:Hid ((fun W=>W.cell? ⟨o,0,none⟩=some (.int .u32 pc)/\W.cell? ⟨o,1,none⟩=some (.slice sa sn sc)/\W.cell? ⟨g,8,none⟩=some (.map (some mb))/\W.ownsMap prog 37 Rh mb mn D) (W.drew.setRow w.heap.size #[.int .u32 pc,.slice sa sn sc])):=by
  have e0:(W.drew.setRow w.heap.size #[.int .u32 pc,.slice sa sn sc]).heap[o]?=some (.cells #[.int .u32 pc,.slice sa sn sc] 64 (0,0)):=(auo _ _ _ _ (by omega)).trans HK0.out;have EW:=(HE.out.of (ag zT.out (apn _) #[.int .u32 pc,.slice sa sn sc]));exact⟨atZ _ _ _ _ _ _ e0,atZ _ _ _ _ _ _ e0,EW.c8,EW.map⟩
 refine tK 8 (.slice ca cn cc) HSf.out ?_;refine auy (by kernel_rfl) ?_ _;go_wp2_with fail;refine auc (v:=.tuple #[.agg #[.int .u32 pc,.slice sa sn sc],.slice ca cn cc]) (Hr.aI results85 _ _ _ _ _ (0,0) _ _ rfl rfl (aup _ _ _ _ _ (0,0) Q7.out) underlying64 rfl Bk.iB) rfl ?_;have GF:Gr w (W.drew.setRow w.heap.size #[.int .u32 pc,.slice sa sn sc]):=ag (zT.out.drew) (apn _) _;exact⟨sa,sc,ca,cn,⟨cc,by rw[ZB.out]⟩,HCt.out.of GF,GF⟩
theorem uN (E:Ew lo w base g room M gh hc O a n cap mb mn D s L pu sl)(hn:n*32<=140737488351232)(hl:L.length<=64)(hr0:0<=room)(hr1:room<=64)(lU:mn<=1000000){pc:Int}(h0:0<=pc)(h1:pc<4294967296)(hp:Kc.place pc L 0 = -1)(lY:s.m.length<=4096)(T:Dw.nK w)(Q:Ts.Tq w):Calls prog 85 #[.pointer (some ⟨g,0,none⟩),.int .u32 pc] w fun e w'=>∃ba bc ca cn cc,e=.returned (.tuple #[.agg #[.int .u32 pc,.slice ba (Bk.blk s.m pc 16 0).length bc],.slice ca cn cc])/\Ts.Ct w' ca cn (Ts.aS pc ((Bk.blk s.m pc 16 0).map Ts.ui) 0)/\ ((Bk.blk s.m pc 16 0).length=0->Ev 0 w' base g room s L pu sl mn)/\(0<(Bk.blk s.m pc 16 0).length->Ev 0 w' base g room s (Kc.jy room L ⟨pc,(Bk.blk s.m pc 16 0).map Ts.ui⟩) (Kc.rX room pu L ⟨pc,(Bk.blk s.m pc 16 0).map Ts.ui⟩) sl (mn+1))/\Fm base w w':=by
 obtain⟨ma,mc,rfl,MM⟩:=E.bw.mem.mem;have HE:Hid (Ew lo w base g room (.slice ma s.m.length mc) gh hc O a n cap mb mn D s L pu sl):=E;have HFd:Hid (∀W:World,Gr w W->Calls prog 109 #[.agg #[.int .i64 room,.slice a n cap,.int .i64 pu,.int .i64 sl],.int .u32 pc] W fun e w'=>∃p0 sa sn sc,e=.returned (.tuple #[.agg #[.int .u32 p0,.slice sa sn sc],.bool false])/\Gr W w'):=fun W G=>by
  have:=Kc.Br cap (E.bt.of G).bs hn room pu sl pc;rw[auh (by omega)]at this;refine this.mono ?_;rintro e w' ⟨x,y,rfl,⟨hx,_,sa,sn,sc,hy,_,_⟩,G'⟩;subst hx hy;exact⟨_,sa,sn,sc,rfl,G'⟩
 have h16:(Bk.blk s.m pc 16 0).length<=16:=(Ts.fM s.m pc 16 0).1;have CL:Hid (∀W:World,Gr w W->Calls prog 15 #[.slice ma s.m.length mc,.int .u32 pc] W fun e w'=>∃va vc,e=.returned (.agg #[.int .u32 pc,.slice va (Bk.blk s.m pc 16 0).length vc])/\w'.ownsRow W.heap.size 59 5 (.slice va (Bk.blk s.m pc 16 0).length vc) (Bk.blk s.m pc 16 0).length (Bk.vL (Bk.blk s.m pc 16 0))/\Gr W w'):=fun W G=>by
  have:=Bk.BI mc pc (MM.of G) (Ts.TV T W G) lY h0 h1;have e1:Bk.bkP s.m.length pc=pc:=ak;have e2:Bk.bkX s.m.length s.m pc=Bk.blk s.m pc 16 0:=ak;rw[e1,e2]at this;refine this.mono ?_;rintro e w' ⟨v,rfl,OW,G'⟩;obtain⟨va,vc,rfl⟩:=Bk.qZ OW;exact⟨va,vc,rfl,OW,G'⟩
 have HTM:Hid (∀(W:World) (va:Option Addr) (vc b:Nat),Gr w W->W.ownsRow b 59 5 (.slice va (Bk.blk s.m pc 16 0).length vc) (Bk.blk s.m pc 16 0).length (Bk.vL (Bk.blk s.m pc 16 0))->Calls prog 110 #[.agg #[.int .u32 pc,.slice va (Bk.blk s.m pc 16 0).length vc]] W fun e w'=>∃ca cn cc,e=.returned (.slice ca cn cc)/\Ts.Ct w' ca cn (Ts.aS pc ((Bk.blk s.m pc 16 0).map Ts.ui) 0)/\Gr W w'):=fun W va vc b G OW=>Ts.NU pc vc OW (Ts.xy s.m pc) (Ts.TV T W G) (Q.of G) h16
 have WY:Hid (∀(W:World) (va:Option Addr) (vc b:Nat) (ca:Option Addr) (cn cc:Nat),Gr w W->W.ownsRow b 59 5 (.slice va (Bk.blk s.m pc 16 0).length vc) (Bk.blk s.m pc 16 0).length (Bk.vL (Bk.blk s.m pc 16 0))->Ts.Ct W ca cn (Ts.aS pc ((Bk.blk s.m pc 16 0).map Ts.ui) 0)->
   Calls prog 111 #[.pointer (some ⟨g,0,none⟩),.agg #[.int .u32 pc,.slice va (Bk.blk s.m pc 16 0).length vc],.slice ca cn cc] W fun e w'=>e=.returned (.tuple #[])/\(((Bk.blk s.m pc 16 0).length=0->Gr W w')/\(0<(Bk.blk s.m pc 16 0).length->Ev W.heap.size w' base g room s (Kc.jy room L ⟨pc,(Bk.blk s.m pc 16 0).map Ts.ui⟩) (Kc.rX room pu L ⟨pc,(Bk.blk s.m pc 16 0).map Ts.ui⟩) sl (mn+1)))/\Fm base W w'):=fun W va vc b ca cn cc G OW C=>by
  by_cases hz:(Bk.blk s.m pc 16 0).length=0
  ·refine(Bz (E.of G) (by omega) lU h0 h1 va _ vc ca cn cc 0 0 0 2 [] (fun h=>absurd h (by omega)) (fun V GV=>(Kc.Ze V room pu sl pc a va n cap _ vc (.inl (by omega)) (by omega)).mono fun e w' ⟨h1,h2⟩=>⟨none,0,0,h1,⟨Kc.NH _ _ _,apn _⟩,h2⟩) (fun h=>absurd h (by omega)) (by simp)).mono ?_;rintro e w' ⟨rfl,k1,_,k3⟩;exact⟨rfl,⟨fun _=>k1 (by omega),fun h=>absurd h (by omega)⟩,k3⟩
  ·have I:=Ts.NT OW (Ts.xy s.m pc);refine(Bz (E.of G) (by omega) lU h0 h1 va _ vc ca cn cc room (Kc.rX room pu L ⟨pc,(Bk.blk s.m pc 16 0).map Ts.ui⟩) sl 0 (Kc.jy room L ⟨pc,(Bk.blk s.m pc 16 0).map Ts.ui⟩) (fun _=>rfl) (fun V GV=>Kc.agK cap ((E.of G).bt.of GV).bs hn room pu sl (b0:=⟨pc,(Bk.blk s.m pc 16 0).map Ts.ui⟩) ⟨rfl,⟨h0,h1⟩,va,_,vc,rfl,I.of GV,by omega⟩ (by omega) h16) (fun _ b hb=>?_) ?_).mono ?_
   ·rcases put_mem (b:=⟨pc,(Bk.blk s.m pc 16 0).map Ts.ui⟩) hp hb with hb|rfl
    ·refine .inl ⟨hb,fun e=>?_⟩;obtain⟨i,hi⟩:=aqe.1 hb;have:=WV hi;rw[e,hp]at this;omega
    ·exact .inr ⟨rfl,C⟩
   ·rw[(uo (room:=room) (pu:=pu) (b:=⟨pc,(Bk.blk s.m pc 16 0).map Ts.ui⟩) hp).1];split
    ·rw[aqh,apo,apW];omega
    ·rw[apo,apW];omega
   ·rintro e w' ⟨rfl,_,k2,k3⟩;exact⟨rfl,⟨fun h=>absurd h hz,fun _=>k2 rfl⟩,k3⟩
 have g0:=E.bw.c0;have g4:=E.c4;have g5:=E.c5;have g6:=E.c6;have g7:=E.c7;have hgl:g<w.heap.size:=E.bw.lt;have hbl:base<=w.heap.size:=E.ay;clear E MM hn hp lY T Q h16 lU hl hr0 hr1 h0 h1;generalize(Bk.blk s.m pc 16 0).map Ts.ui=IS at *
 generalize Bk.blk s.m pc 16 0=xs at *
 generalize s.m.length=mln at *
 go_enter func85,ntmps85;go_wp2_with fail;refine(HFd.out _ ((Gr.refl _).alloc _)).mono ?_;rintro e w1 ⟨p0,sa,sn,sc,rfl,G1⟩;have aU:=kH (((Gr.refl _).alloc _).trans G1);have HR1:=kH (Kc.aX G1 (at5 w _));have q0:∀o,(w1.alloc o).cell? ⟨g,0,none⟩=some (.slice ma mln mc):=fun o=>((aU.out.alloc o).cell _ (by exact hgl)).trans g0
 have hlt1:=(apk.1 HR1.out).1;go_wp2_with fail;refine(CL.out _ (aU.out.alloc _)).mono ?_;rintro e w2 ⟨va,vc,rfl,O2,G2⟩;have HG2:=kH ((aU.out.alloc _).trans G2);have HR2:=kH (Kc.aX G2 (Kc.aX ((Gr.refl _).alloc _) HR1.out));have kY:Hid (∃b,w2.ownsRow b 59 5 (.slice va xs.length vc) xs.length (Bk.vL xs)):=⟨_,O2⟩;have hlt2:=(apk.1 HR2.out).1;obtain⟨b2,O2⟩:=kY.out;have yD:=kH O2;go_wp2_with fail;refine(HTM.out _ va vc b2 (HG2.out.alloc _) (aC yD.out ((Gr.refl _).alloc _))).mono ?_;rintro e w3 ⟨ca,cn,cc,rfl,C3,G3⟩;have fQ:=kH ((HG2.out.alloc _).trans G3);have HR3:=kH (Kc.aX G3 (Kc.aX ((Gr.refl _).alloc _) HR2.out));have HB3:=kH (Kc.aX G3 (at5 w2 _));have zP:=kH C3;have HOw:=kH (aC yD.out (((Gr.refl _).alloc _).trans G3));have b0:w3.cell? ⟨w2.heap.size,0,none⟩=some (.int .u32 pc):=atZ _ _ _ _ _ _ HB3.out;have b1:w3.cell? ⟨w2.heap.size,1,none⟩=some (.slice va xs.length vc):=atZ _ _ _ _ _ _ HB3.out;go_wp2_with fail;refine(WY.out _ va vc b2 ca cn cc fQ.out HOw.out zP.out).mono ?_;rintro e w4 ⟨rfl,V4,F4⟩;have HF4:=kH ((Fm.bD fQ.out hbl).trans F4);have HR4:=kH (F4.row HR3.out (by decide));have sj:=kH (F4.row HB3.out (by decide));have HC4:=kH (zP.out.to fun k o f e=>F4.keep k o _ f e (by decide));have HV4:Hid ((xs.length=0->Gr w w4)/\(0<xs.length->Ev w3.heap.size w4 base g room s (Kc.jy room L ⟨pc,IS⟩) (Kc.rX room pu L ⟨pc,IS⟩) sl (mn+1))):=⟨fun h=>fQ.out.trans (V4.1 h),V4.2⟩;have c0:w4.cell? ⟨w2.heap.size,0,none⟩=some (.int .u32 pc):=atZ _ _ _ _ _ _ sj.out;have c1:w4.cell? ⟨w2.heap.size,1,none⟩=some (.slice va xs.length vc):=atZ _ _ _ _ _ _ sj.out;have alz:=(apk.1 HR4.out).1;have hlt3:=(apk.1 HR3.out).1;go_wp2_with (refine auf rfl 64 _ _ rfl w.heap.size #[.int .u32 pc,.slice va xs.length vc] rfl rfl 64 #[.int .u32 0,.slice none 0 0] ?ss1 Bk.iB rfl (NW _ _ _ _) ?_;(case ss1=>exact HR4.out));refine auc (v:=.tuple #[.agg #[.int .u32 pc,.slice va xs.length vc],.slice ca cn cc]) (Hr.aI results85 _ _ _ _ _ (0,0) _ _ rfl rfl (aup _ _ _ _ _ (0,0) HR4.out) underlying64 rfl Bk.iB) rfl ?_;refine⟨va,vc,ca,cn,cc,rfl,HC4.out.to fun k o f e=>auo _ _ _ _ (aa e HR4.out (by decide)),fun h=>?_,fun h=>?_,HF4.out.setRow hbl (apn _) _⟩
 ·exact⟨.slice ma mln mc,gh,hc,O,a,n,cap,mb,D,(HE.out.of (ag (HV4.out.1 h) (apn _) _)).low⟩
 ·exact((HV4.out.2 h).row HR4.out hlt3 _).low
end
end En
end Go.Proofs.YtiadhbmnfjfioaaGreatDoor
