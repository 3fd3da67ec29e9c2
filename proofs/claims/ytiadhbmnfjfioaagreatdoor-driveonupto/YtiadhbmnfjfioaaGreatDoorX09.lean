/- ours -/
import Derived.Test.YtiadhbmnfjfioaaGreatDoorX08
set_option linter.unusedVariables false
set_option linter.unusedSimpArgs false
set_option maxHeartbeats 8000000
set_option maxRecDepth 100000
set_option linter.unusedSectionVars false
namespace Go.Proofs.YtiadhbmnfjfioaaGreatDoor
open Go.Proofs.Tryz hiding t1 t2 t3
open Go.ChangeShapes Go.WideShapes Go.ChangeAt Go.RowKit
variable{a:Act}{ops:Array Oper}{o:Array Value}{pc:Int}{p:Int×Int}{ss:List (Int×Int)}{U:List (Nat×Int)}{os:List Int}{l:List UInt8}{xs' rs' rs:List Value}{b' mn i m base g gh hc c b k j n ty:Nat}{q:Nat×Int}{f:Nat×Nat}{x:Obj}{ao:Option Addr}{P:Program}{O y v M:Value}{w1 w w':World}{S:World->Prop}
variable [Inhabited Hc.bN]
namespace Bk
open Mm Hh Hc
variable{W:World}{e sz t:Nat}{z0 z1:Value}{xs:List Value}
def bkP (n:Nat) (pc:Int):Int:=if 4096<n then 0 else pc
def bkX (n:Nat) (l:List UInt8) (pc:Int):List Int:=if 4096<n then[]else blk l pc 16 0
theorem iB:(prog.info? 64).map (·.size)=some 2:=al
theorem NF:(prog.info? 59).map (fun i=>(i.zero,i.size,i.bytes))=some (some (.agg #[.int .i64 0,.int .i64 0,.int .i64 0,.int .i64 0,.int .i32 0]),5,40):=al
theorem qZ (h:w.ownsRow base e sz v n xs):∃a c,v=.slice a n c:=by
 rcases h.2 with⟨rfl,rfl⟩|⟨g,cap,_,rfl,_⟩
 ·exact⟨none,0,rfl⟩
 ·exact⟨_,cap,rfl⟩
theorem kD (h:w.ownsRow b e sz v n xs)(hb:b'<=b):w.ownsRow b' e sz v n xs:=by
 refine⟨h.1,?_⟩;rcases h.2 with h|⟨g',cap,cur,hv,hb1,r⟩
 ·exact .inl h
 ·exact .inr ⟨g',cap,cur,hv,ab,r⟩
theorem Ef {x0 x1 x2 x3 x4:Value}(h0:W.cell? ⟨b,0,none⟩=some x0)(h1:W.cell? ⟨b,1,none⟩=some x1)(h2:W.cell? ⟨b,2,none⟩=some x2)(h3:W.cell? ⟨b,3,none⟩=some x3)(h4:W.cell? ⟨b,4,none⟩=some x4):∀j u,([x0,x1,x2,x3,x4]:List Value)[j]?=some u->W.cell? ((⟨b,0,none⟩:Addr).add j)=some u:=by
 intro j u hj;rw[cz]
 match j,hj with
 |0,hj=>simp at hj;subst hj;exact h0
 |1,hj=>simp at hj;subst hj;exact h1
 |2,hj=>simp at hj;subst hj;exact h2
 |3,hj=>simp at hj;subst hj;exact h3
 |4,hj=>simp at hj;subst hj;exact h4
theorem BI (op:Int)(w:World):Calls prog 30 #[.int .i64 op] w fun e w'=>e=.returned (.bool (eB op))/\w'=w:=by
 go_enter func30,ntmps30;go_wp2
 all_goals
  go_ret;refine⟨Dw.aM ?_,rfl⟩;simp only[auU,aub,ne_eq]at *
  unfold eB;first|exact(auq ab).symm|exact(auh ab).symm
structure Aft (w w3:World) (g gi:Nat) (pc:Int) (v:Value) (k:Nat) (xs:List Value) (y:Value):Prop where
 b1:w3.heap[g+1]?=some (.cells #[.int .u32 pc,v] 64 (0,0))
 b0:w3.heap[g]?=some (.cells #[.int .u32 0,.slice none 0 0] 64 (0,0))
 own:w3.ownsRow (g+2) 59 5 v k xs
 gr:Gr w w3
 op:w3.cell? ⟨gi,0,none⟩=some y
theorem uK (hO:w.ownsRow base e sz O n xs)(q:w.grownBy w' O.ownBlock)(ht:t≠e)(hk:w.heap[k]?=some (.cells o t f)):w'.heap[k]?=some (.cells o t f):=
 (q.block k (gs hk).1 (fun h=>by
  rcases hO.2 with⟨h0,_⟩|⟨g',cap,cur,hv,_,hg,_⟩
  ·rw[h0]at h;cases h
  ·rw[hv]at h;injection h with h;exact aa hk hg ht h)).trans hk
theorem dR (g:Gr w w')(h:w.heap[k]?=some x):w'.heap[k]?=some x:=by rw[au1 g k (gs h).1];exact h
theorem aft {wr w2:World}{S v':Value}{Y Z:Array Value}(hg:w.heap.size=g)(B1:wr.heap[g+1]?=some (.cells #[.int .u32 pc,S] 64 (0,0)))(B0:wr.heap[g]?=some (.cells #[.int .u32 0,.slice none 0 0] 64 (0,0)))(O:wr.ownsRow (g+2) 59 5 S k xs)(G:Gr w wr)(G1:Gr wr w1)(q:((w1.alloc (.cells Y 59)).alloc (.cells Z 59)).grownBy w2 S.ownBlock)(O2:w2.ownsRow (g+2) 59 5 v' (k+1) xs')(hy:Y[0]?=some y):w2.cell? ⟨g+1,1,none⟩=some S/\w2.frozen? ⟨g+1,1,none⟩=false/\Aft w (w2.setCell ⟨g+1,1,none⟩ v') g w1.heap.size pc v' (k+1) xs' y:=by
 have G2:Gr wr ((w1.alloc (.cells Y 59)).alloc (.cells Z 59)):=(G1.alloc _).alloc _;have O1:=aC O G2;have b1:=uK O1 q an (dR G2 B1);have b0:=uK O1 q an (dR G2 B0);have hY:w2.heap[w1.heap.size]?=some (.cells Y 59 (0,0)):=by
  have e:((w1.alloc (.cells Y 59)).alloc (.cells Z 59)).heap[w1.heap.size]?=some (.cells Y 59 (0,0)):=auR w1 _ _;refine(q.block _ (gs e).1 (fun h=>?_)).trans e;have:=(O.lt _ h.symm).2;have:=G1.size;omega
 have ne:∀{t:Nat},t≠64->∀{k:Nat} {o:Array Value} {f:Nat×Nat},w2.heap[k]?=some (.cells o t f)->(w2.setCell ⟨g+1,1,none⟩ v').heap[k]?=w2.heap[k]?:=fun ht _ _ _ hk=>hso (by exact aa hk b1 ht)
 refine⟨cr b1,lh b1,?_,?_,?_,?_,?_⟩
 ·rw[hss b1];rfl
 ·exact(hso (by show g≠g+1;omega)).trans b0
 ·exact aj O2 fun k o f hk=>ne an hk
 ·refine Gr.setCell ?_ (by show w.heap.size<=g+1;omega) _;exact(G.trans G2).grown q (fun b e=>by have:=(O.lt b e).1;omega)
 ·exact(cr ((ne an hY).trans hY)).trans hy
theorem yV (h:W.heap[g]?=some (.cells #[z0,z1] t (0,0)))(a b:Value):((W.setCell ⟨g,0,none⟩ a).setCell ⟨g,1,none⟩ b).heap[g]?=some (.cells #[a,b] t (0,0)):=by have h0:=aul W g 0 _ _ a h;exact aul _ g 1 _ _ b h0
theorem uM (h:W.ownsRow base 59 5 v n xs)(hb:W.heap[g]?=some (.cells #[z0,z1] 64 (0,0)))(hg:g<=base)(a b:Value):((W.setCell ⟨g,0,none⟩ a).setCell ⟨g,1,none⟩ b).ownsRow g 59 5 v n xs:=
 kD (aj h fun k o f hk=>by
  have e:=aa hk hb an;rw[hso (by exact e),hso (by exact e)]) hg
theorem NW (x0 x1 x2 x3 x4:Int):∀u∈([.int .i64 x0,.int .i64 x1,.int .i64 x2,.int .i64 x3,.int .i32 x4]:List Value),u.oneCell'=true:=by intro u hu;simp only[apx,apB,auw]at hu;rcases hu with rfl|rfl|rfl|rfl|rfl<;>rfl
theorem BJ (cap:Nat)(pc:Int)(M:Mem w ao n l)(T:Dw.nK w)(hn:n<=4096)(h0:0<=pc)(h1:pc<4294967296):Calls prog 15 #[.slice ao n cap,.int .u32 pc] w fun e w'=>∃v,e=.returned (.agg #[.int .u32 (bkP n pc),v])/\w'.ownsRow w.heap.size 59 5 v (bkX n l pc).length (vL (bkX n l pc))/\Gr w w':=by
 have e1:bkP n pc=pc:=ak;have e2:bkX n l pc=blk l pc 16 0:=ak;rw[e1,e2];have HT:∀W:World,Gr w W->Dw.nK W:=fun W G=>⟨fun i v e=>(G.cell _ (by exact Dw.lt_of_cell (T.shapes i v e))).trans (T.shapes i v e),fun i v e=>(G.cell _ (by exact Dw.lt_of_cell (T.uppers i v e))).trans (T.uppers i v e)⟩
 have F:Hid (∀(k:Nat) (W:World),Gr w W->_):=fun k W G=>Hf.ng cap (at4 pc k) (M.of G) (HT W G) ab (yn pc k).1 (yn pc k).2
 obtain⟨i0,hi,hz0,hz1,hz2⟩:=auz NF;clear e1 e2 M T HT;go_enter func15,ntmps15;go_wp2_with fail;go_loopw [15] (fun i wr=>∃(k:Nat) (xs:List Int) (a:Option Addr) (c:Nat),k<=16/\i=.int .u32 k/\xs.length=k/\xs++blk l pc (16-k) k=blk l pc 16 0/\wr.heap[w.heap.size+1]?=some (.cells #[.int .u32 pc,.slice a k c] 64 (0,0))/\wr.heap[w.heap.size]?=some (.cells #[.int .u32 0,.slice none 0 0] 64 (0,0))/\wr.ownsRow (w.heap.size+2) 59 5 (.slice a k c) k (vL xs)/\Gr w wr) (fun i _=>16-(intOf i).toNat)
 case atStart=>exact⟨0,[],none,0,ab,rfl,rfl,rfl,au8 w _ _,auR w _ _,aur _ _ _ _,br.alloc _⟩
 case round=>
  obtain⟨k,xs,a,c,hk,rfl,hl,hx,B1,B0,O,G⟩:=hrel;have HX:=kH hx;have HL:=kH hl;have HB1:=kH B1;have HB0:=kH B0;have HO:=kH O;have HG:=kH G;have hlt:=(apk.1 B1).1;clear hl hx B1 B0 O G;by_cases h16:k<16
  ·have FK:Hid _:=F k;have HA:Hid (¬jR l (at4 pc k)=0->xs=blk l pc 16 0):=fun h=>by
    have e:=HX;rw[show 16-k=(15-k)+1 by omega,pg h,apz]at e;exact e
   have ZB:Hid (jR l (at4 pc k)=0->eB (Dc.aO (aN l 13 (at4 pc k)))=true->xs++[aN l 13 (at4 pc k)]=blk l pc 16 0):=fun h h2=>by
    have e:=HX;rw[show 16-k=(15-k)+1 by omega,pq h h2]at e;exact e
   have HC:Hid (jR l (at4 pc k)=0->eB (Dc.aO (aN l 13 (at4 pc k)))=false->(xs++[aN l 13 (at4 pc k)])++blk l pc (16-(k+1)) (k+1)=blk l pc 16 0):=fun h h2=>by
    have e:=HX.out;rw[show 16-k=(15-k)+1 by omega,yo h h2]at e;rw[show 16-(k+1)=15-k by omega];simpa using e
   have HIC:Hid (vK (aN l 13 (at4 pc k))=[.int .i64 (Dc.aO (aN l 13 (at4 pc k))),.int .i64 (Dc.iF (Dc.aJ (Dc.aO (aN l 13 (at4 pc k)))) (aN l 13 (at4 pc k))),.int .i64 (Dc.bZ (Dc.aJ (Dc.aO (aN l 13 (at4 pc k)))) (aN l 13 (at4 pc k))),.int .i64 (Dc.bV (Dc.aJ (Dc.aO (aN l 13 (at4 pc k)))) (aN l 13 (at4 pc k))),.int .i32 (Dc.bS (Dc.aJ (Dc.aO (aN l 13 (at4 pc k)))) (aN l 13 (at4 pc k)))]):=rfl;clear HX;unfold Dw.kP Dw.df at FK;clear F;generalize aN l 13 (at4 pc k)=X at *
   generalize jR l (at4 pc k)=cc at *
   generalize Dc.iF (Dc.aJ (Dc.aO X)) X=x1 at *
   generalize Dc.bZ (Dc.aJ (Dc.aO X)) X=x2 at *
   generalize Dc.bV (Dc.aJ (Dc.aO X)) X=x3 at *
   generalize Dc.bS (Dc.aJ (Dc.aO X)) X=x4 at *
   generalize Dc.aO X=x0 at *
   have FK2:=kH FK;clear FK;by_cases hc:cc=0
   ·subst hc;go_wp2_with fail;refine(FK2 _ HG).mono ?_;rintro e w1 ⟨rfl,G1⟩;have aU:=kH G1;have q1:w1.cell? ⟨w.heap.size+1,1,none⟩=some (.slice a k c):=atZ _ _ _ _ _ _ (dR G1 HB1);have hlt1:=apq hlt G1.size;clear G1 FK2;go_wp2_with (at_builtin;refine auK _ rfl (.tmp 30) (.tmp 32) 62 rfl (w.heap.size+2) 59 i0 (.agg #[.int .i64 0,.int .i64 0,.int .i64 0,.int .i64 0,.int .i32 0]) 5 40 underlying62 hi hz0 hz1 hz2 rfl an (.slice a k c) k (vL xs) rfl (aC HO ((aU.alloc _).alloc _)) ⟨w1.heap.size+1,0,none⟩ 1 1 [.int .i64 x0,.int .i64 x1,.int .i64 x2,.int .i64 x3,.int .i32 x4] rfl rfl (Ef aq aq aq aq aq) (NW _ _ _ _ _) bj ab aE ?_;intro v' w2 hown hgrow _;obtain⟨a',c',rfl⟩:=qZ hown;obtain⟨z1,z2,A0⟩:=aft rfl HB1 HB0 HO HG aU hgrow hown (y:=.int .i64 x0) aq;have HF:Hid (Aft w (w2.setCell ⟨w.heap.size+1,1,none⟩ (.slice a' (k+1) c')) w.heap.size w1.heap.size pc (.slice a' (k+1) c') (k+1) (vL xs++[.int .i64 x0,.int .i64 x1,.int .i64 x2,.int .i64 x3,.int .i32 x4]) (.int .i64 x0)):=A0;have z3:=A0.op;clear A0 hown hgrow);clear z1 z2 z3 HO HB1 HB0 HG aU q1;generalize w2.setCell ⟨w.heap.size+1,1,none⟩ (.slice a' (k+1) c')=w3 at *
    have KW:Hid ((xs++[X]).length=k+1):=by unfold Hid;rw[apo,HL.out];rfl
    have HCC:Hid (vL (xs++[X])=vL xs++[.int .i64 x0,.int .i64 x1,.int .i64 x2,.int .i64 x3,.int .i32 x4]):=by unfold Hid;rw[Nl,HIC.out]
    cases hL:eB x0 with
    |true=>
     have HE:Hid (∀W:World,Calls prog 30 #[.int .i64 x0] W fun e w'=>e=.returned (.bool true)/\w'=W):=fun W=>by have:=BI x0 W;rwa[hL]at this
     have ZC:Hid _:=ZB aq hL;refine(HE _).mono ?_;rintro e w4 ⟨rfl,rfl⟩;clear HE hL ZB HC HA;have HOW:Hid (w4.ownsRow (w.heap.size+2) 59 5 (.slice a' (k+1) c') (blk l pc 16 0).length (vL (blk l pc 16 0))):=(by unfold Hid;rw[<-ZC.out,KW.out,HCC.out];exact HF.own);have q0:w4.cell? ⟨w.heap.size+1,0,none⟩=some (.int .u32 pc):=atZ _ _ _ _ _ _ HF.b1;have q1:w4.cell? ⟨w.heap.size+1,1,none⟩=some (.slice a' (k+1) c'):=atZ _ _ _ _ _ _ HF.b1;have r0:w4.cell? ⟨w.heap.size,0,none⟩=some (.int .u32 0):=atZ _ _ _ _ _ _ HF.b0;have r1:w4.cell? ⟨w.heap.size,1,none⟩=some (.slice none 0 0):=atZ _ _ _ _ _ _ HF.b0;have f0:∀j,w4.frozen? ⟨w.heap.size,j,none⟩=false:=fun j=>aus _ _ _ _ _ HF.b0
     go_wp2_with fail;refine auc (v:=.agg #[.int .u32 pc,.slice a' (k+1) c']) (auD results15 _ _ _ _ _ (0,0) _ rfl (yV HF.b0 _ _) underlying64 rfl iB) rfl ⟨_,rfl,?_,?_⟩
     ·exact uM HOW HF.b0 ab _ _
     ·exact(HF.gr.setCell (apn _) _).setCell (apn _) _
    |false=>
     have HE:Hid (∀W:World,Calls prog 30 #[.int .i64 x0] W fun e w'=>e=.returned (.bool false)/\w'=W):=fun W=>by have:=BI x0 W;rwa[hL]at this
     have ZC:Hid _:=HC aq hL;refine(HE _).mono ?_;rintro e w4 ⟨rfl,rfl⟩;clear HE hL ZB HC HA;go_wp2_with fail;go_roundw
     case rel=>exact⟨k+1,xs++[X],a',c',ab,by go_num,KW,ZC,HF.b1,HF.b0,by rw[HCC.out];exact HF.own,HF.gr⟩
     case measure=>simp[intOf];omega
   ·have hb:(cc ==0)=false:=by simpa using hc
    have ZC:Hid _:=HA hc;go_wp2_with fail;refine(FK2 _ HG).mono ?_;rintro e w1 ⟨rfl,G1⟩;have aU:=kH G1;have Ua:Hid (Gr wr (w1.alloc (.cells #[.int .i64 x0,.int .i64 x1,.int .i64 x2,.int .i64 x3,.int .i32 x4] 59))):=G1.alloc _;clear G1 FK2;have HOW:Hid ((w1.alloc (.cells #[.int .i64 x0,.int .i64 x1,.int .i64 x2,.int .i64 x3,.int .i32 x4] 59)).ownsRow (w.heap.size+2) 59 5 (.slice a (k) c) (blk l pc 16 0).length (vL (blk l pc 16 0))):=(by unfold Hid;rw[<-ZC.out,HL.out];exact aC HO Ua);have q0:(w1.alloc (.cells #[.int .i64 x0,.int .i64 x1,.int .i64 x2,.int .i64 x3,.int .i32 x4] 59)).cell? ⟨w.heap.size+1,0,none⟩=some (.int .u32 pc):=atZ _ _ _ _ _ _ (dR Ua HB1);have q1:(w1.alloc (.cells #[.int .i64 x0,.int .i64 x1,.int .i64 x2,.int .i64 x3,.int .i32 x4] 59)).cell? ⟨w.heap.size+1,1,none⟩=some (.slice a (k) c):=atZ _ _ _ _ _ _ (dR Ua HB1);have r0:(w1.alloc (.cells #[.int .i64 x0,.int .i64 x1,.int .i64 x2,.int .i64 x3,.int .i32 x4] 59)).cell? ⟨w.heap.size,0,none⟩=some (.int .u32 0):=atZ _ _ _ _ _ _ (dR Ua HB0);have r1:(w1.alloc (.cells #[.int .i64 x0,.int .i64 x1,.int .i64 x2,.int .i64 x3,.int .i32 x4] 59)).cell? ⟨w.heap.size,1,none⟩=some (.slice none 0 0):=atZ _ _ _ _ _ _ (dR Ua HB0);have f0:∀j,(w1.alloc (.cells #[.int .i64 x0,.int .i64 x1,.int .i64 x2,.int .i64 x3,.int .i32 x4] 59)).frozen? ⟨w.heap.size,j,none⟩=false:=fun j=>aus _ _ _ _ _ (dR Ua HB0)
    go_wp2_with fail;refine auc (v:=.agg #[.int .u32 pc,.slice a (k) c]) (auD results15 _ _ _ _ _ (0,0) _ rfl (yV (dR Ua HB0) _ _) underlying64 rfl iB) rfl ⟨_,rfl,?_,?_⟩
    ·exact uM HOW (dR Ua HB0) ab _ _
    ·exact((HG.trans Ua).setCell (apn _) _).setCell (apn _) _
  ·have k16:k=16:=ab;subst k16;have ZC:Hid (xs=blk l pc 16 0):=by have:=HX;rw[LV,apz]at this;exact this
   clear F HX;have HOW:Hid (wr.ownsRow (w.heap.size+2) 59 5 (.slice a (16) c) (blk l pc 16 0).length (vL (blk l pc 16 0))):=(by unfold Hid;rw[<-ZC.out,HL.out];exact HO);have q0:wr.cell? ⟨w.heap.size+1,0,none⟩=some (.int .u32 pc):=atZ _ _ _ _ _ _ HB1;have q1:wr.cell? ⟨w.heap.size+1,1,none⟩=some (.slice a (16) c):=atZ _ _ _ _ _ _ HB1;have r0:wr.cell? ⟨w.heap.size,0,none⟩=some (.int .u32 0):=atZ _ _ _ _ _ _ HB0;have r1:wr.cell? ⟨w.heap.size,1,none⟩=some (.slice none 0 0):=atZ _ _ _ _ _ _ HB0;have f0:∀j,wr.frozen? ⟨w.heap.size,j,none⟩=false:=fun j=>aus _ _ _ _ _ HB0
   go_wp2_with fail;refine auc (v:=.agg #[.int .u32 pc,.slice a (16) c]) (auD results15 _ _ _ _ _ (0,0) _ rfl (yV HB0 _ _) underlying64 rfl iB) rfl ⟨_,rfl,?_,?_⟩
   ·exact uM HOW HB0 ab _ _
   ·exact(HG.setCell (apn _) _).setCell (apn _) _
end Bk
namespace En
open Mm Hh Hc Mc
theorem su {o:Oper}(hw:Region.wanted o (yielded ops a.tmps)=true)(t:TypeId)(m x:Operand)(ho:o.op=.lookup t m x false)(v:Value)(h:∀W,S W->(Instr.lookup t (a.eval m) (a.eval x) false).run P W=.ok v W):YieldsIf P ops S o v a:=
 .inl ⟨hw,fun w hS=>by
  unfold execOp;simp only[ho,au3,h w hS,auM];rfl⟩
theorem zMs (w:World):(zeroValue 177).run prog w=.ok (.slice none 0 0) w:=al
theorem JF {mb:Nat}{D:DataW Value}(h:w.ownsMap prog 37 Rh mb mn D)(h0:0<=pc)(h1:pc<4294967296)(hv:∀z,D.atKey (.int .u32 pc) z=.held v):(Instr.lookup 92 (.map (some mb)) (.int .u32 pc) false).run prog w=.ok v w:=by obtain⟨u,ps,hrun,hu⟩:=h.lookup kU underlying92 (zMs w) (zd:=.held (.slice none 0 0)) (zp:=[]) rfl (acN h0 h1);rw[hv]at hu;have:some (DataW.held u,([]:List MemPlace))=some (.held v,ps):=hu;injection this with this;injection this with this;injection this with this;rw[hrun,this]
theorem NY (p:Int)(a:Option Addr)(n c:Nat):(#[.int .u32 p,.slice a n c]:Array Value).all (·.oneCell')=true:=by refine auE ?_;intro v hv;simp only[apx,apB,auw]at hv;rcases hv with rfl|rfl<;>rfl
section
variable{lo:Nat}{room:Int}{a:Option Addr}{cap mb:Nat}{D:DataW Value}{s:Sh}{L:List Kc.Bv}{pu sl:Int}
theorem BK (E:Ew lo w base g room M gh hc O a n cap mb mn D s L pu sl)(hn:n*32<=140737488351232)(h0:0<=pc)(h1:pc<4294967296)(hp:0<=Kc.place pc L 0)(hm:Kc.wG pc L∈L)(hpc:(Kc.wG pc L).pc=pc):Calls prog 85 #[.pointer (some ⟨g,0,none⟩),.int .u32 pc] w fun e w'=>∃ba bc ca cn cc,e=.returned (.tuple #[.agg #[.int .u32 pc,.slice ba (Kc.wG pc L).is.length bc],.slice ca cn cc])/\Ts.Ct w' ca cn (Ts.aS pc (Kc.wG pc L).is 0)/\Gr w w':=by
 have HE:Hid (Ew lo w base g room M gh hc O a n cap mb mn D s L pu sl):=E;obtain⟨ca,cn,cc,hat,hct⟩:=E.code _ hm;rw[hpc]at hat hct;have HLk:Hid (∀W:World,W.ownsMap prog 37 Rh mb mn D->(Instr.lookup 92 (.map (some mb)) (.int .u32 pc) false).run prog W=.ok (.slice ca cn cc) W):=fun W h=>JF h h0 h1 hat
 have HCt:Hid (Ts.Ct w ca cn (Ts.aS pc (Kc.wG pc L).is 0)):=hct;have HFd:Hid (∀W:World,Gr w W->Calls prog 109 #[.agg #[.int .i64 room,.slice a n cap,.int .i64 pu,.int .i64 sl],.int .u32 pc] W fun e w'=>∃sa sn sc,e=.returned (.tuple #[.agg #[.int .u32 pc,.slice sa sn sc],.bool true])/\(Kc.wG pc L).is.length=sn/\Gr W w'):=fun W G=>by
  have:=Kc.Bu cap (E.bt.of G).bs hn room pu sl pc;rw[auq hp]at this;refine this.mono ?_;rintro e w' ⟨x,y,rfl,⟨hx,_,sa,sn,sc,hy,I,_⟩,G'⟩;subst hx hy;rw[hpc];exact⟨sa,sn,sc,rfl,I.len,G'⟩
 have g4:=E.c4;have g5:=E.c5;have g6:=E.c6;have g7:=E.c7;have hgl:g<w.heap.size:=E.bw.lt;clear E hp hm hpc hat hct hn h0 h1;generalize Kc.wG pc L=fb at *
 go_enter func85,ntmps85;go_wp2_with fail;refine(HFd _ br).mono ?_;rintro e w1 ⟨sa,sn,sc,rfl,hsn,G1⟩;have ZE:Hid (fb.is.length=sn):=hsn;have aU:Hid (Gr w w1):=br.trans G1;have HR1:=kH (Kc.aX G1 (at5 w _));clear G1 hsn HFd g4 g5 g6 g7;go_wp2_with fail;obtain⟨o,ho⟩:∃o:Nat,o=w1.heap.size:=⟨_,rfl⟩;refine aT (fun W=>W.heap[o]?=some (.cells #[.int .u32 pc,.slice sa sn sc] 64 (0,0))/\W.heap[w.heap.size]?=some (.cells #[.int .u32 0,.slice none 0 0] 64 (0,0))/\Gr w W) ?_ ?_
 ·have hlt:=(apk.1 HR1).1;subst ho;exact⟨at5 w1 _,Kc.aX br HR1,aU.alloc _⟩
 rw[<-ho];have hol:w.heap.size<o:=by rw[ho];exact(apk.1 HR1).1
 clear ho HR1 aU;clear w1;rintro W ⟨K0,K1,GW⟩;have zT:Hid (Gr w W):=GW;have Ra:Hid (W.heap[w.heap.size]?=some (.cells #[.int .u32 0,.slice none 0 0] 64 (0,0))):=K1;have HS:Hid ((fun W=>W.cell? ⟨o,0,none⟩=some (.int .u32 pc)/\W.cell? ⟨o,1,none⟩=some (.slice sa sn sc)/\W.cell? ⟨g,8,none⟩=some (.map (some mb))/\W.ownsMap prog 37 Rh mb mn D) W):=⟨atZ _ _ _ _ _ _ K0,atZ _ _ _ _ _ _ K0,(HE.of GW).c8,(HE.of GW).map⟩;have HK0:Hid (W.heap[o]?=some (.cells #[.int .u32 pc,.slice sa sn sc] 64 (0,0))):=K0;clear K0 K1 GW;refine aut (S:=fun W=>W.cell? ⟨o,0,none⟩=some (.int .u32 pc)/\W.cell? ⟨o,1,none⟩=some (.slice sa sn sc)/\W.cell? ⟨g,8,none⟩=some (.map (some mb))/\W.ownsMap prog 37 Rh mb mn D) al ?_ (fun hHeld=>?_)
 ·exact HS
 have aY:Hid _:=hHeld;clear hHeld;refine tK 0 (.agg #[.int .u32 pc,.slice sa sn sc]) aY ?_;refine tK 1 (.pointer (some ⟨g,0,none⟩)) aY ?_;refine tK 2 (.pointer (some ⟨g,0,none⟩)) aY ?_;refine tK 3 (.pointer (some ⟨g,8,none⟩)) aY ?_;refine tK 4 (.map (some mb)) aY ?_;refine tK 5 (.int .u32 pc) aY ?_;refine auF (i:=6) (v:=.slice ca cn cc) rfl al al al (fun _ _ _ h=>h) (su (by rfl) 92 (.tmp 24) (.tmp 25) rfl _ (fun W hW=>by simpa[Act.eval]using HLk W hW.2.2.2)) aY ?_;simp only[apN,apP,apQ,Act.put,apl,apC,apy];refine bu (i:=7) al rfl rfl 64 (.tmp 4) (.tmp 20) rfl w.heap.size #[.int .u32 pc,.slice sa sn sc] aw aw 64 _ Ra Bk.iB rfl (NY _ _ _ _) ?hs ?_
 case hs=>
  have e0:(W.drew.setRow w.heap.size #[.int .u32 pc,.slice sa sn sc]).heap[o]?=some (.cells #[.int .u32 pc,.slice sa sn sc] 64 (0,0)):=(auo _ _ _ _ ab).trans HK0;have EW:=(HE.of (ag zT (apn _) #[.int .u32 pc,.slice sa sn sc]));exact⟨atZ _ _ _ _ _ _ e0,atZ _ _ _ _ _ _ e0,EW.c8,EW.map⟩
 have HSf:Hid ((fun W=>W.cell? ⟨o,0,none⟩=some (.int .u32 pc)/\W.cell? ⟨o,1,none⟩=some (.slice sa sn sc)/\W.cell? ⟨g,8,none⟩=some (.map (some mb))/\W.ownsMap prog 37 Rh mb mn D) (W.drew.setRow w.heap.size #[.int .u32 pc,.slice sa sn sc])):=by
  have e0:(W.drew.setRow w.heap.size #[.int .u32 pc,.slice sa sn sc]).heap[o]?=some (.cells #[.int .u32 pc,.slice sa sn sc] 64 (0,0)):=(auo _ _ _ _ ab).trans HK0;have EW:=(HE.of (ag zT (apn _) #[.int .u32 pc,.slice sa sn sc]));exact⟨atZ _ _ _ _ _ _ e0,atZ _ _ _ _ _ _ e0,EW.c8,EW.map⟩
 refine tK 8 (.slice ca cn cc) HSf ?_;refine auy al ?_ _;go_wp2_with fail;refine auc (v:=.tuple #[.agg #[.int .u32 pc,.slice sa sn sc],.slice ca cn cc]) (Hr.aI results85 _ _ _ _ _ (0,0) _ _ rfl rfl (aup _ _ _ _ _ (0,0) Ra) underlying64 rfl Bk.iB) rfl ?_;have GF:Gr w (W.drew.setRow w.heap.size #[.int .u32 pc,.slice sa sn sc]):=ag (zT.drew) (apn _) _;exact⟨sa,sc,ca,cn,⟨cc,by rw[ZE.out]⟩,HCt.of GF,GF⟩
theorem uN (E:Ew lo w base g room M gh hc O a n cap mb mn D s L pu sl)(hn:n*32<=140737488351232)(hl:L.length<=64)(hr0:0<=room)(hr1:room<=64)(lU:mn<=1000000)(h0:0<=pc)(h1:pc<4294967296)(hp:Kc.place pc L 0 = -1)(lY:s.m.length<=4096)(T:Dw.nK w)(Q:Ts.Tq w):Calls prog 85 #[.pointer (some ⟨g,0,none⟩),.int .u32 pc] w fun e w'=>∃ba bc ca cn cc,e=.returned (.tuple #[.agg #[.int .u32 pc,.slice ba (Bk.blk s.m pc 16 0).length bc],.slice ca cn cc])/\Ts.Ct w' ca cn (Ts.aS pc ((Bk.blk s.m pc 16 0).map Ts.ui) 0)/\ ((Bk.blk s.m pc 16 0).length=0->Ev 0 w' base g room s L pu sl mn)/\(0<(Bk.blk s.m pc 16 0).length->Ev 0 w' base g room s (Kc.jy room L ⟨pc,(Bk.blk s.m pc 16 0).map Ts.ui⟩) (Kc.rX room pu L ⟨pc,(Bk.blk s.m pc 16 0).map Ts.ui⟩) sl (mn+1))/\Fm base w w':=by
 obtain⟨ma,mc,rfl,MM⟩:=E.bw.mem.mem;have HE:Hid (Ew lo w base g room (.slice ma s.m.length mc) gh hc O a n cap mb mn D s L pu sl):=E;have HFd:Hid (∀W:World,Gr w W->Calls prog 109 #[.agg #[.int .i64 room,.slice a n cap,.int .i64 pu,.int .i64 sl],.int .u32 pc] W fun e w'=>∃p0 sa sn sc,e=.returned (.tuple #[.agg #[.int .u32 p0,.slice sa sn sc],.bool false])/\Gr W w'):=fun W G=>by
  have:=Kc.Bu cap (E.bt.of G).bs hn room pu sl pc;rw[auh ab]at this;refine this.mono ?_;rintro e w' ⟨x,y,rfl,⟨hx,_,sa,sn,sc,hy,_,_⟩,G'⟩;subst hx hy;exact⟨_,sa,sn,sc,rfl,G'⟩
 have h16:(Bk.blk s.m pc 16 0).length<=16:=(Ts.fM s.m pc 16 0).1;have CL:Hid (∀W:World,Gr w W->Calls prog 15 #[.slice ma s.m.length mc,.int .u32 pc] W fun e w'=>∃va vc,e=.returned (.agg #[.int .u32 pc,.slice va (Bk.blk s.m pc 16 0).length vc])/\w'.ownsRow W.heap.size 59 5 (.slice va (Bk.blk s.m pc 16 0).length vc) (Bk.blk s.m pc 16 0).length (Bk.vL (Bk.blk s.m pc 16 0))/\Gr W w'):=fun W G=>by
  have:=Bk.BJ mc pc (MM.of G) (Ts.TY T W G) lY h0 h1;have e1:Bk.bkP s.m.length pc=pc:=ak;have e2:Bk.bkX s.m.length s.m pc=Bk.blk s.m pc 16 0:=ak;rw[e1,e2]at this;refine this.mono ?_;rintro e w' ⟨v,rfl,OW,G'⟩;obtain⟨va,vc,rfl⟩:=Bk.qZ OW;exact⟨va,vc,rfl,OW,G'⟩
 have HTM:Hid (∀(W:World) (va:Option Addr) (vc b:Nat),Gr w W->W.ownsRow b 59 5 (.slice va (Bk.blk s.m pc 16 0).length vc) (Bk.blk s.m pc 16 0).length (Bk.vL (Bk.blk s.m pc 16 0))->Calls prog 110 #[.agg #[.int .u32 pc,.slice va (Bk.blk s.m pc 16 0).length vc]] W fun e w'=>∃ca cn cc,e=.returned (.slice ca cn cc)/\Ts.Ct w' ca cn (Ts.aS pc ((Bk.blk s.m pc 16 0).map Ts.ui) 0)/\Gr W w'):=fun W va vc b G OW=>Ts.NV pc vc OW (Ts.xy s.m pc) (Ts.TY T W G) (Q.of G) h16
 have Xa:Hid (∀(W:World) (va:Option Addr) (vc b:Nat) (ca:Option Addr) (cn cc:Nat),Gr w W->W.ownsRow b 59 5 (.slice va (Bk.blk s.m pc 16 0).length vc) (Bk.blk s.m pc 16 0).length (Bk.vL (Bk.blk s.m pc 16 0))->Ts.Ct W ca cn (Ts.aS pc ((Bk.blk s.m pc 16 0).map Ts.ui) 0)->
   Calls prog 111 #[.pointer (some ⟨g,0,none⟩),.agg #[.int .u32 pc,.slice va (Bk.blk s.m pc 16 0).length vc],.slice ca cn cc] W fun e w'=>e=.returned (.tuple #[])/\(((Bk.blk s.m pc 16 0).length=0->Gr W w')/\(0<(Bk.blk s.m pc 16 0).length->Ev W.heap.size w' base g room s (Kc.jy room L ⟨pc,(Bk.blk s.m pc 16 0).map Ts.ui⟩) (Kc.rX room pu L ⟨pc,(Bk.blk s.m pc 16 0).map Ts.ui⟩) sl (mn+1)))/\Fm base W w'):=fun W va vc b ca cn cc G OW C=>by
  by_cases hz:(Bk.blk s.m pc 16 0).length=0
  ·refine(BB (E.of G) ab lU h0 h1 va _ vc ca cn cc 0 0 0 2 [] (fun h=>absurd h ab) (fun V GV=>(Kc.Zg V room pu sl pc a va n cap _ vc (.inl ab) ab).mono fun e w' ⟨h1,h2⟩=>⟨none,0,0,h1,⟨Kc.NI _ _ _,apn _⟩,h2⟩) (fun h=>absurd h ab) aq).mono ?_;rintro e w' ⟨rfl,k1,_,k3⟩;exact⟨rfl,⟨fun _=>k1 ab,fun h=>absurd h ab⟩,k3⟩
  ·have I:=Ts.NU OW (Ts.xy s.m pc);refine(BB (E.of G) ab lU h0 h1 va _ vc ca cn cc room (Kc.rX room pu L ⟨pc,(Bk.blk s.m pc 16 0).map Ts.ui⟩) sl 0 (Kc.jy room L ⟨pc,(Bk.blk s.m pc 16 0).map Ts.ui⟩) (fun _=>rfl) (fun V GV=>Kc.agO cap ((E.of G).bt.of GV).bs hn room pu sl (b0:=⟨pc,(Bk.blk s.m pc 16 0).map Ts.ui⟩) ⟨rfl,⟨h0,h1⟩,va,_,vc,rfl,I.of GV,ab⟩ ab h16) (fun _ b hb=>?_) ?_).mono ?_
   ·rcases put_mem (b:=⟨pc,(Bk.blk s.m pc 16 0).map Ts.ui⟩) hp hb with hb|rfl
    ·refine .inl ⟨hb,fun e=>?_⟩;obtain⟨i,hi⟩:=aqe.1 hb;have:=WX hi;rw[e,hp]at this;omega
    ·exact .inr ⟨rfl,C⟩
   ·rw[(uo (room:=room) (pu:=pu) (b:=⟨pc,(Bk.blk s.m pc 16 0).map Ts.ui⟩) hp).1];split
    ·rw[aqh,apo,apW];omega
    ·rw[apo,apW];omega
   ·rintro e w' ⟨rfl,_,k2,k3⟩;exact⟨rfl,⟨fun h=>absurd h hz,fun _=>k2 rfl⟩,k3⟩
 have g0:=E.bw.c0;have g4:=E.c4;have g5:=E.c5;have g6:=E.c6;have g7:=E.c7;have hgl:g<w.heap.size:=E.bw.lt;have hbl:base<=w.heap.size:=E.ay;clear E MM hn hp lY T Q h16 lU hl hr0 hr1 h0 h1;generalize(Bk.blk s.m pc 16 0).map Ts.ui=IS at *
 generalize Bk.blk s.m pc 16 0=xs at *
 generalize s.m.length=mln at *
 go_enter func85,ntmps85;go_wp2_with fail;refine(HFd _ br).mono ?_;rintro e w1 ⟨p0,sa,sn,sc,rfl,G1⟩;have aU:=kH (br.trans G1);have HR1:=kH (Kc.aX G1 (at5 w _));have q0:∀o,(w1.alloc o).cell? ⟨g,0,none⟩=some (.slice ma mln mc):=fun o=>((aU.alloc o).cell _ (by exact hgl)).trans g0
 have hlt1:=(apk.1 HR1).1;go_wp2_with fail;refine(CL _ (aU.alloc _)).mono ?_;rintro e w2 ⟨va,vc,rfl,O2,G2⟩;have HG2:=kH ((aU.alloc _).trans G2);have HR2:=kH (Kc.aX G2 (Kc.aX br HR1));have kY:Hid (∃b,w2.ownsRow b 59 5 (.slice va xs.length vc) xs.length (Bk.vL xs)):=⟨_,O2⟩;have hlt2:=(apk.1 HR2).1;obtain⟨b2,O2⟩:=kY;have yD:=kH O2;go_wp2_with fail;refine(HTM _ va vc b2 (HG2.alloc _) (aC yD br)).mono ?_;rintro e w3 ⟨ca,cn,cc,rfl,C3,G3⟩;have fQ:=kH ((HG2.alloc _).trans G3);have HR3:=kH (Kc.aX G3 (Kc.aX br HR2));have HB3:=kH (Kc.aX G3 (at5 w2 _));have zP:=kH C3;have HOw:=kH (aC yD (br.trans G3));have b0:w3.cell? ⟨w2.heap.size,0,none⟩=some (.int .u32 pc):=atZ _ _ _ _ _ _ HB3;have b1:w3.cell? ⟨w2.heap.size,1,none⟩=some (.slice va xs.length vc):=atZ _ _ _ _ _ _ HB3;go_wp2_with fail;refine(Xa _ va vc b2 ca cn cc fQ HOw zP).mono ?_;rintro e w4 ⟨rfl,V4,F4⟩;have HF4:=kH ((Fm.bD fQ hbl).trans F4);have HR4:=kH (F4.row HR3 an);have sj:=kH (F4.row HB3 an);have HC4:=kH (zP.to fun k o f e=>F4.keep k o _ f e an);have HV4:Hid ((xs.length=0->Gr w w4)/\(0<xs.length->Ev w3.heap.size w4 base g room s (Kc.jy room L ⟨pc,IS⟩) (Kc.rX room pu L ⟨pc,IS⟩) sl (mn+1))):=⟨fun h=>fQ.trans (V4.1 h),V4.2⟩;have c0:w4.cell? ⟨w2.heap.size,0,none⟩=some (.int .u32 pc):=atZ _ _ _ _ _ _ sj;have c1:w4.cell? ⟨w2.heap.size,1,none⟩=some (.slice va xs.length vc):=atZ _ _ _ _ _ _ sj;have alC:=(apk.1 HR4).1;have hlt3:=(apk.1 HR3).1;go_wp2_with (refine auf rfl 64 _ _ rfl w.heap.size #[.int .u32 pc,.slice va xs.length vc] rfl rfl 64 #[.int .u32 0,.slice none 0 0] ?ss1 Bk.iB rfl (NY _ _ _ _) ?_;(case ss1=>exact HR4));refine auc (v:=.tuple #[.agg #[.int .u32 pc,.slice va xs.length vc],.slice ca cn cc]) (Hr.aI results85 _ _ _ _ _ (0,0) _ _ rfl rfl (aup _ _ _ _ _ (0,0) HR4) underlying64 rfl Bk.iB) rfl ?_;refine⟨va,vc,ca,cn,cc,rfl,HC4.to fun k o f e=>auo _ _ _ _ (aa e HR4 an),fun h=>?_,fun h=>?_,HF4.setRow hbl (apn _) _⟩
 ·exact⟨.slice ma mln mc,gh,hc,O,a,n,cap,mb,D,(HE.of (ag (HV4.1 h) (apn _) _)).low⟩
 ·exact((HV4.2 h).row HR4 hlt3 _).low
end
end En
namespace Mc
open Mm Hh Hc
theorem p8:∀(ss:List (Int×Int)) (i:Nat) (p:Int×Int),ss[i]?=some p→(rE ss)[i*2]?=some (.int .u32 p.1)∧(rE ss)[i*2+1]?=some (.int .u32 (Wd.lo (p.1+p.2)))
 | [],i,q,h=>by simp at h
 |p::r,0,q,h=>by simp at h;subst h;exact⟨rfl,rfl⟩
 |p::r,i+1,q,h=>by
  have ih:=p8 r i q (by simpa using h);have e:rE (p::r)=[.int .u32 p.1,.int .u32 (Wd.lo (p.1+p.2))]++rE r:=rfl;rw[e,apv aE,apv aE];simp only[apH,ap8];rw[show(i+1)*2-(0+1+1)=i*2 by omega,show(i+1)*2+1-(0+1+1)=i*2+1 by omega];exact ih
theorem je {α:Type}{l:List α}{x:α}(h:l[i]?=some x):l.take (i+1)=l.take i++[x]:=by rw[apU,h];rfl
theorem Eh (hs:List Hv)(h:U[m]?=some q):drops hs (U.take (m+1))=(drops hs (U.take m)).set q.1 (((drops hs (U.take m)).getD q.1 hN).hold false 0):=by rw[je h,wQ];rfl
theorem JG (k:Nat)(h:ss[i]?=some p)(hs:List Hv):dF k (ss.take (i+1)) hs=dF k [p] (dF k (ss.take i) hs):=by rw[je h,MU]
theorem Ub (w:World)(p:Addr)(v a b:Value)(t:Nat):((w.setCell p v).alloc (.cells #[a,b] t)).drew.cell? ⟨w.heap.size,0,none⟩=some a:=by
 have:=at5 (w.setCell p v) (.cells #[a,b] t);have e:(w.setCell p v).heap.size=w.heap.size:=aq;rw[e]at this;exact atZ _ _ _ _ _ (0,0) this
theorem BL (w:World)(p p':Addr)(v v' a b:Value)(t:Nat):(((w.setCell p v).setCell p' v').alloc (.cells #[a,b] t)).drew.drew.cell? ⟨w.heap.size,0,none⟩=some a:=by
 have:=at5 ((w.setCell p v).setCell p' v') (.cells #[a,b] t);have e:((w.setCell p v).setCell p' v').heap.size=w.heap.size:=aq;rw[e]at this;exact atZ _ _ _ _ _ (0,0) this
theorem BM {s:Sh}(B:Bw ty rs w base g M gh hc O s)(hcl:s.hs.length=c)(hc4:c≤4){d:Qv}{x:Wk}(D:Dq w b d x)(ok:d.h.Ok)(bd:∀p∈x.av,0≤p.1∧0<p.2∧p.1+p.2≤4096)(hsl:x.av.length<=1000000)(hol:s.out.length+x.out.length<=1000000)(hst:s.steps+x.n<=1000000000)(hk:k<c):Calls prog 58 #[.pointer (some ⟨g,0,none⟩),.int .i64 k,.agg (qA d)] w fun e w'=>e=.returned (.tuple #[])/\Bd ty rs w' base g (tk s k x)/\Fe ty base w w':=by
 obtain⟨sa,sc,uO⟩:=(az D.av).2.2;obtain⟨oa,oc,rfl⟩:=(az B.out).2.2;obtain⟨da,dc,hdo⟩:=(az D.out).2.2;obtain⟨ZF,ZG,hdm,_⟩:=D.mem.mem;have HDO:=kH hdo;have ZH:=kH hdm;have hbw:=B.ay;have g40:(qA d)[40]?=some (.slice sa x.av.length sc):=by rw[jl ok 3];simp[uO]
 have g37:(qA d)[37]?=some (.slice ZF x.m.length ZG):=by rw[jl ok 0];simp[hdm]
 have g38:(qA d)[38]?=some (.slice da x.out.length dc):=by rw[jl ok 1];simp[hdo]
 have g39:(qA d)[39]?=some (.int .i64 x.n):=by rw[jl ok 2];simp[D.n]
 have HLD:=kH (aD ok);have HGR:Hid (∀j u,(hL d.h)[j]?=some u->(qA d)[j]?=some u):=fun j u hj=>by
  have:j<37:=by have:=(apj.1 hj).1;rwa[HLD.out]at this
  rw[Nw ok this];exact hj
 have zR:=kH ok;have HD:=kH D;have HB:=kH B;have hgl:=B.lt;have Jp:gh<w.heap.size:=by obtain⟨_,e⟩:=B.row.row;exact(apk.1 e).1
 have ag1:g≠gh:=by obtain⟨_,e⟩:=B.row.row;exact aa B.blk e B.t3
 have HCL:=kH hcl;have HBD:=kH bd;have HST:=kH uO;clear D ok uO B hcl bd hdo hdm;generalize qA d=QA at *
 generalize hn:x.av.length=n at *
 have HN:=kH hn;clear hn;go_enter func58,ntmps58;go_wp2_with fail;go_loopw [13] (fun i wr=>∃i':Nat,i'<=n/\i=.int .i64 i'/\Bw ty rs wr base g M gh hc (.slice oa s.out.length oc) ⟨dF k (x.av.take i') s.hs,s.m,s.out,s.steps⟩/\Ch gh (w.alloc (.cells QA 142)) wr) (fun i _=>n-(intOf i).toNat)
 case atStart=>
  refine⟨0,apF _,rfl,?_,Ch.refl _ _⟩;rw[aqF,lQ];exact HB.of br
 case round=>
  obtain⟨i,hi,rfl,B1,C1⟩:=hrel;have HB1:=kH B1;have oQ:=kH C1;have HD1:=kH ((HD.gr br).ch (HB.row.of br) C1);clear B1 C1;by_cases hlt:i<n
  ·obtain⟨p,hp⟩:∃p,x.av[i]?=some p:=⟨_,api (by rw[HN.out];exact hlt)⟩;have HP:=kH hp;obtain⟨p0,p1,p2⟩:=HBD p (aps hp);obtain⟨sb,cp,hv,_⟩:=sK HD1.av (by rw[HN.out];omega);rw[HST.out,HN.out]at hv;obtain rfl:sa=some ⟨sb,0,none⟩:=by injection hv
   have OS:wr.ownsRow b 175 2 (.slice (some ⟨sb,0,none⟩) n sc) n (rE x.av):=by have:=HD1.av;rw[HST.out,HN.out]at this;exact this
   have s0:=(OS.cellAt _ ab).trans (p8 _ _ _ hp).1;have s1:=(OS.cellAt _ ab).trans (p8 _ _ _ hp).2;have CJ:Hid ((dF k (x.av.take i) s.hs).length=c):=by unfold Hid;rw[eD];exact HCL
   have Q7:Hid (∀W:World,Gr wr W->Calls prog 84 #[.pointer (some ⟨g,0,none⟩),.int .i64 k,.agg #[.int .u32 p.1,.int .u32 (Wd.lo (p.1+p.2))]] W fun e w'=>∃v,e=.returned v/\w'.ownsRow W.heap.size 159 2 v (aR k p (dF k (x.av.take i) s.hs) c).length (Bi (aR k p (dF k (x.av.take i) s.hs) c))/\Gr W w'):=fun W G=>by
    have:=Bj (HB1.of G) (by show(dF _ _ _).length<=4;rw[CJ.out];exact hc4) k p p0 p1 p2;simp only[CJ.out]at this;exact this
   have HNX:Hid (dF k (x.av.take (i+1)) s.hs=drops (dF k (x.av.take i) s.hs) (aR k p (dF k (x.av.take i) s.hs) c)):=by
    unfold Hid;rw[JG k hp,<-Ja,CJ.out]
   have hUl:=mX k p (dF k (x.av.take i) s.hs) c;have ag2:Hid (∀q∈aR k p (dF k (x.av.take i) s.hs) c,q.1<c):=AV k p _ c;clear hv OS hp;generalize dF k (x.av.take i) s.hs=hs at *
   generalize aR k p hs c=U at *
   generalize Wd.lo (p.1+p.2)=pt at *
   generalize p.1=pf at *
   go_wp2_with fail;refine(Q7 _ br).mono ?_;rintro e w2 ⟨v,rfl,OL,G2⟩;obtain⟨la,lc,rfl⟩:=(az OL).2.2;have HG2:=kH (br.trans G2);have HOL:Hid (w2.ownsRow 0 159 2 (.slice la U.length lc) U.length (Bi U)):=⟨OL.1,OL.2.imp (fun h=>h) (fun⟨a,b,c,h1,h2,h3⟩=>⟨a,b,c,h1,apF _,h3⟩)⟩;have HB2:=kH (HB1.of HG2);have ll:=kH (oQ.gr HG2);clear OL G2 Q7 s0 s1 HB1 oQ HD1;go_wp2_with fail;go_loopw [22] (fun i wq=>∃m:Nat,m<=U.length/\i=.int .i64 m/\Bw ty rs wq base g M gh hc (.slice oa s.out.length oc) ⟨drops hs (U.take m),s.m,s.out,s.steps⟩/\Ch gh w2 wq) (fun i _=>U.length-(intOf i).toNat)
   case atStart=>
    refine⟨0,apF _,rfl,?_,Ch.refl _ _⟩;rw[aqF];exact HB2
   case round=>
    obtain⟨m,hm,rfl,B3,C3⟩:=hrel;have HB3:=kH B3;have zP:=kH C3;clear B3 C3;by_cases hlt2:m<U.length
    ·obtain⟨q,hq⟩:∃q,U[m]?=some q:=⟨_,api hlt2⟩;obtain⟨lb,cp2,hv,_⟩:=sK HOL ab;obtain rfl:la=some ⟨lb,0,none⟩:=by injection hv
     have OL3:=aj HOL fun k o f hk=>gZ HB2.row zP an hk
     have l0:=(OL3.cellAt _ ab).trans (yG _ _ _ hq).1;have l1:=(OL3.cellAt _ ab).trans (yG _ _ _ hq).2;have HDS:=kH (Eh hs hq);have hq1:=ag2 q (aps hq);have hdl:(drops hs (U.take m)).length=c:=by rw[qP];exact CJ
     have HDL:=kH hdl;have hgq:(drops hs (U.take m))[q.1]?=some ((drops hs (U.take m)).getD q.1 hN):=by rw[api ab];simp[List.getD,show q.1<(drops hs (U.take m)).length by omega]
     have okq:=HB3.row.ok _ (aps hgq);have c33:=(HB3.row.cell hgq ab).trans (aW okq 1);have c34:=(HB3.row.cell hgq ab).trans (aW okq 2);have f33:wr.frozen? ⟨gh,q.1*37+33,none⟩=false:=HB3.row.fz _;have f34:wr.frozen? ⟨gh,q.1*37+34,none⟩=false:=HB3.row.fz _;have kg1:wr.cell? ⟨g,1,none⟩=some (.slice (some ⟨gh,0,none⟩) c hc):=by have:=HB3.c1;simp only[HDL.out]at this;exact this
     have hgw:=(apk.1 HB3.blk).1;have alH:gh<wr.heap.size:=by obtain⟨_,e⟩:=HB3.row.row;exact(apk.1 e).1
     have n1:gh≠g:=fun e=>ag1 e.symm
     have n2:gh≠wr.heap.size:=ab;have HGQ:=kH hgq;have Xh:Hid ((drops hs (U.take m)).getD q.1 hN).Ok:=okq;clear hq hv OL3 hdl hgq okq;obtain⟨q1,q2⟩:=q;simp only at *
     generalize(drops hs (U.take m)).getD q1 hN=hq at *
     generalize drops hs (U.take m)=hsm at *
     go_wp2_with fail;go_region_held3 (fun W=>W.cell? ⟨g,1,none⟩=some (.slice (some ⟨gh,0,none⟩) c hc)/\W.cell? ⟨wr.heap.size,0,none⟩=some (.int .i64 q1)) (refine⟨?_,?_⟩<;>first|(go_keep;done)|exact Ub _ _ _ _ _ _|exact BL _ _ _ _ _ _ _ _) (fail);go_wp2_with fail;go_region_held3 (fun W=>W.cell? ⟨g,1,none⟩=some (.slice (some ⟨gh,0,none⟩) c hc)/\W.cell? ⟨wr.heap.size,0,none⟩=some (.int .i64 q1)) (refine⟨?_,?_⟩<;>first|(go_keep;done)|exact BL _ _ _ _ _ _ _ _) (fail);go_wp2_with fail;go_roundw
     case rel=>
      have ok1:Hv.Ok { hq with held:=false }:=⟨Xh.len,Xh.reg,Xh.nH,Xh.jV,Xh.x9,Xh.zO⟩;have R1:=HB3.row.set HGQ ab (jW Xh false) ok1;have hg1:(hsm.set q1 { hq with held:=false })[q1]?=some { hq with held:=false }:=by rw[aqu (by rw[HDL.out];exact hq1)]
      have R2:=R1.set hg1 ab (gI ok1 0) (h':=hq.hold false 0) (Xh.hold false (x:=0) ab ab);rw[List.set_set]at R2;have CH:∀o:Obj,Ch gh wr (((wr.setCell ⟨gh,q1*37+33,none⟩ (.bool false)).setCell ⟨gh,q1*37+34,none⟩ (.int .u32 0)).alloc o).drew.drew:=fun o=>Ch.gr (((Ch.refl gh wr).setCell _ _).setCell _ _) (Gr.drew (Gr.drew (Gr.alloc (Gr.refl _) _)))
      refine⟨m+1,ab,by go_num,?_,zP.trans (CH _)⟩;rw[HDS.out];exact HB3.ch (CH _) (R2.of (Gr.drew (Gr.drew (Gr.alloc (Gr.refl _) _)))) (by show(hsm.set q1 _).length=hsm.length;rw[ap6]) (((HB3.hz.1.setCell _ _).setCell _ _).of (Gr.drew (Gr.drew (Gr.alloc (Gr.refl _) _))))
     case measure=>simp[intOf];omega
    ·have HBN:Hid (Bw ty rs wr base g M gh hc (.slice oa s.out.length oc) ⟨dF k (x.av.take (i+1)) s.hs,s.m,s.out,s.steps⟩):=by
      have:=HB3;rw[show m=U.length by omega,ap9]at this;unfold Hid;rw[HNX.out];exact this
     have HCN:=kH (ll.trans zP);clear HB3 zP HNX HOL HB2 ll;go_wp2_with fail;go_roundw
     case rel=>exact⟨i+1,ab,by go_num,HBN,HCN⟩
     case measure=>simp[intOf];omega
-- TAIL
  ·have sj:Hid (Bw ty rs wr base g M gh hc (.slice oa s.out.length oc) ⟨dF k x.av s.hs,s.m,s.out,s.steps⟩):=by
    have:=HB1;rw[show i=x.av.length by rw[HN.out];omega,ap9]at this;exact this
   have HBX:=kH ((gZ (HB.row.of br) oQ an (at5 w _)).trans (at5 w _));have Ue:Hid ((dF k x.av s.hs).length=c):=by unfold Hid;rw[eD];exact HCL
   have kg1:wr.cell? ⟨g,1,none⟩=some (.slice (some ⟨gh,0,none⟩) c hc):=by have:=sj.c1;simp only[Ue.out]at this;exact this
   have HRG:Hid (wr.rangeAt w.heap.size 0 (hL d.h)):=fun j u hj=>by rw[apu,atZ _ _ _ _ _ _ HBX.out];exact HGR j u hj
   have HTH:=kH (sj.row.there (i:=k) (api (by rw[Ue.out];exact hk)));have HCA:Hid (Fe ty base w wr):=Fe.trans (Fe.bD ((Gr.refl w).alloc _) hbw) (Fe.ch (HB.row.of br) oQ HB.bh aE);clear HB1 oQ HBD;generalize ZI:dF k x.av s.hs=hs4 at *
   have HH4:=kH ZI;clear ZI;go_wp2_with fail;refine aut (S:=fun W=>W.cell? ⟨g,1,none⟩=some (.slice (some ⟨gh,0,none⟩) c hc)/\W.rangeAt w.heap.size 0 (hL d.h)) al ?_ (fun hHeld=>?_)
   ·exact⟨kg1,HRG⟩
   have aY:=kH hHeld;clear hHeld;refine tK 0 (.pointer (some ⟨g,0,none⟩)) aY ?_;refine tK 1 (.pointer (some ⟨g,0,none⟩)) aY ?_;refine tK 2 (.pointer (some ⟨g,0,none⟩)) aY ?_;refine tK 3 (.pointer (some ⟨g,0,none⟩)) aY ?_;refine tK 4 (.pointer (some ⟨g,1,none⟩)) aY ?_;refine tK 5 (.slice (some ⟨gh,0,none⟩) c hc) aY ?_;refine tK 6 (.int .i64 k) aY ?_;refine tK 7 (.pointer (some ⟨w.heap.size,0,none⟩)) aY ?_;refine auF (i:=8) (v:=.agg (hL d.h).toArray) rfl al al al (fun _ _ _ h=>h) ?hy aY ?_
   case hy=>exact auN (by rfl) 43 (.tmp 55) rfl w.heap.size 0 aw (hL d.h) _ (fun W hW=>hW.2) underlying43 rfl (by rw[HLD.out];exact iH)
   simp only[Act.put,apl,apC,apy];refine tK 9 (.pointer (some ⟨gh,k*37,none⟩)) aY ?_;have C5:Ch gh wr (wr.drew.setCells gh (k*37) (hL d.h)):=Ch.setCells (Ch.bD (Gr.drew (Gr.refl _))) _ _;have B5:=sj.ch C5 ((sj.row.of (Gr.drew (Gr.refl _))).put (by rw[Ue.out];exact hk) zR) (by show(hs4.set k _).length=hs4.length;rw[ap6]) ((sj.hz.1.of (Gr.drew (Gr.refl _))).setCells _ _);have X5:=(gZ sj.row C5 an HBX).trans HBX;have D5:=HD1.ch sj.row C5;have L5:=Fe.trans HCA (Fe.ch sj.row C5 HB.bh sj.ay);refine l6 (i:=10) al rfl rfl 43 (.tmp 57) (.tmp 56) rfl gh (k*37) (hL d.h).toArray aw aw (by rw[ap2,HLD.out];exact HTH) (by rw[ap2,HLD.out];exact iH) (qC d.h) ?_ ?_
   ·exact⟨by have:=B5.c1;simp only[ap6,Ue.out]at this;exact this,fun j u hj=>by rw[apu,atZ _ _ _ _ _ _ X5];exact HGR j u hj⟩
   clear aY;refine auy al ?_ _;have e0:(hL d.h).toArray.toList=hL d.h:=rfl;rw[e0];clear HTH HRG kg1 C5 sj HBX HD1 HCA;generalize wr.drew.setCells gh (k*37) (hL d.h)=w5 at *
   have KX:=kH B5;have HX5:=kH X5;have HD5:=kH D5;have Xi:=kH L5;have k0:=B5.c0;have f0:=B5.fz 0;have m37:=(atZ _ _ _ _ _ _ X5).trans g37;clear B5 X5 D5 L5;go_wp2_with fail;have B6:=KX.agH (by have:=HD5.mem;rw[ZH.out]at this;exact this);have X6:(w5.setCell ⟨g,0,none⟩ (.slice ZF x.m.length ZG)).heap[w.heap.size]?=some (.cells QA 142 (0,0)):=(auv _ _ _ _ (by show w.heap.size≠g;omega)).trans HX5;have D6:(w5.setCell ⟨g,0,none⟩ (.slice ZF x.m.length ZG)).ownsRow b 37 1 d.out x.out.length (x.out.map (Value.int .u32)):=aj HD5.out.out fun _ _ _ hk=>dG KX.out _ _ HB.out.t2.symm hk
   have L6:Fe ty base w (w5.setCell ⟨g,0,none⟩ (.slice ZF x.m.length ZG)):=Fe.setCell Xi KX.blk HB.bg _ _;clear KX HX5 HD5 Xi k0 f0 m37;generalize w5.setCell ⟨g,0,none⟩ (.slice ZF x.m.length ZG)=w6 at *
   have Xj:Hid (Bw ty rs w6 base g (.slice ZF x.m.length ZG) gh hc (.slice oa s.out.length oc) ⟨hs4.set k d.h,x.m,s.out,s.steps⟩):=B6;have HX6:Hid (w6.heap[w.heap.size]?=some (.cells QA 142 (0,0))):=X6;have HD6:Hid (w6.ownsRow b 37 1 (.slice da x.out.length dc) x.out.length (x.out.map (Value.int .u32))):=by rw[HDO.out]at D6;exact D6
   have HL6:Hid (Fe ty base w w6):=L6;have k2:w6.cell? ⟨g,2,none⟩=some (.slice oa s.out.length oc):=B6.c2;have m38:w6.cell? ⟨w.heap.size,38,none⟩=some (.slice da x.out.length dc):=(atZ _ _ _ _ _ _ X6).trans g38;have hb6:base<=w6.heap.size:=B6.ay;have HO6:Hid (w6.ownsRow base 37 1 (.slice oa s.out.length oc) s.out.length (s.out.map (Value.int .u32))):=B6.out;clear B6 X6 D6 L6;obtain⟨i0,hi0,hz0,hz1,hz2⟩:=auz ads;go_region_law (refine rZ rfl (.tmp 70) (.tmp 72) rfl underlying36 hi0 hz0 hz1 hz2 rfl an ar ar (aC HO6 (by repeat (first|exact Gr.refl _|refine Gr.drew ?_))) (Src.own (aC HD6 (by repeat (first|exact Gr.refl _|refine Gr.drew ?_)))) (Js _) bj ab (by exact hb6) ?_;intro v' w7 hown hgrow;obtain⟨va,vc,rfl⟩:=(az hown).2.2;have X7:=(eF (aC HO6 (Gr.drew (Gr.refl _))) hgrow an (Hr.ae (Gr.drew (Gr.refl _)) HX6));rw[Hr.ae (Gr.drew (Gr.refl _)) HX6.out]at X7;have Xg:Hid (w7.heap[w.heap.size]?=some (.cells QA 142 (0,0))):=X7;rw[<-aqb,<-apo]at hown;obtain⟨c2,z2,B7,L7⟩:=(Xj.of (Gr.drew (Gr.refl _))).grown hgrow hown;have sN:Hid _:=B7;have Gj:Hid (Fe ty base w _):=Fe.trans HL6 (Fe.trans (Fe.drew (Fe.refl base w6)) L7);clear X7 B7 L7 hown hgrow)
   all_goals
    have B8:=sN;have L8:=Gj;have X8:(w7.setCell ⟨g,2,none⟩ (.slice va (s.out.length+x.out.length) vc)).heap[w.heap.size]?=some (.cells QA 142 (0,0)):=(auv _ _ _ _ (by show w.heap.size≠g;omega)).trans Xg;clear sN Gj Xg Xj HX6 HD6 HL6 HO6 k2 m38 c2 z2;rw[apo]at B8 L8;generalize w7.setCell ⟨g,2,none⟩ (.slice va (s.out.length+x.out.length) vc)=w8 at *
    have HB8:Hid (Bw ty rs w8 base g (.slice ZF x.m.length ZG) gh hc (.slice va (s.out.length+x.out.length) vc) ⟨hs4.set k d.h,x.m,s.out++x.out,s.steps⟩):=B8;have HL8:Hid (Fe ty base w w8):=L8;have k3:w8.cell? ⟨g,3,none⟩=some (.int .i64 s.steps):=B8.c3;have f3:w8.frozen? ⟨g,3,none⟩=false:=B8.fz 3;have m39:w8.cell? ⟨w.heap.size,39,none⟩=some (.int .i64 x.n):=(atZ _ _ _ _ _ _ X8).trans g39;clear B8 L8 X8;go_wp2_with fail;go_region
   all_goals
    go_end0;refine⟨rfl,?_,?_⟩
    ·have B9:=HB8.agI (s.steps+x.n);have e9:tk s k x=⟨hs4.set k d.h,x.m,s.out++x.out,s.steps+x.n⟩:=by unfold tk;rw[HH4.out,HD.out.hh]
     rw[e9];rw[Int.natCast_add]at B9;exact⟨_,_,_,_,B9.of (Gr.drew (Gr.refl _))⟩
    ·exact Fe.drew (Fe.setCell HL8 HB8.blk HB.bg _ _)
end Mc
namespace Gc
open Mm Hh Hc
variable{ty:Nat}{rs:List Value}
variable{c:Cv}
def cB (c:Cv) (rs:List Value):Array Value:=(hL c.h++([c.m,c.out,c.av]++rs)).toArray
theorem ZJ (o:c.h.Ok)(hi:i<37):(cB c rs)[i]?=(hL c.h)[i]?:=by have:=aD o;unfold cB;rw[apm,apA ab]
theorem Ei (o:c.h.Ok){j:Nat}(hj:j<3):(cB c rs)[37+j]?=[c.m,c.out,c.av][j]?:=by unfold cB;rw[apm,apv (by simp[aD o]),aD o,show 37+j-37=j by omega,apA (by simpa using hj)]
theorem yX (o:c.h.Ok)(j:Nat):(cB c rs)[40+j]?=rs[j]?:=by unfold cB;rw[apm,apv (by simp[aD o];omega),aD o,apv aE];simp only[apH,ap8];rw[show 40+j-37-(0+1+1+1)=j by omega]
theorem ZK (o:c.h.Ok)(hi:i<37){h':Hv}(e:(hL c.h).set i v=hL h'):(cB c rs).setIfInBounds i v=cB { c with h:=h' } rs:=by have:=aD o;unfold cB;simp only[apl];rw[aqn _ _ ab,e]
theorem yY {c':Cv}(o:c.h.Ok){j:Nat}(hj:j<3)(eh:c'.h=c.h)(e:[c.m,c.out,c.av].set j v=[c'.m,c'.out,c'.av]):(cB c rs).setIfInBounds (37+j) v=cB c' rs:=by have:=aD o;unfold cB;simp only[apl];rw[apJ _ _ ab,this,show 37+j-37=j by omega,aqn _ _ (by simpa using hj),e,eh]
theorem Ug (o:c.h.Ok)(j:Nat)(v:Value):(cB c rs).setIfInBounds (40+j) v=cB c (rs.set j v):=by have:=aD o;unfold cB;simp only[apl];rw[apJ _ _ ab,this,apJ _ _ aE];simp only[apH,ap8];rw[show 40+j-37-(0+1+1+1)=j by omega]
structure Inv (ty:Nat) (rs:List Value) (w:World) (base g:Nat) (c:Cv) (l:List UInt8) (os:List Int) (ss:List (Int×Int)):Prop where
 t1:ty≠5
 t2:ty≠37
 t3:ty≠175
 ok:c.h.Ok
 bg:base<=g
 core:w.heap[g]?=some (.cells (cB c rs) ty (0,0))
 mem:Own w Hc.mb c.m l
 RO:Hc.mb<=base
 out:w.ownsRow base 37 1 c.out os.length (os.map (Value.int .u32))
 av:w.ownsRow base 175 2 c.av ss.length (rE ss)
def In (ty:Nat) (rs:List Value) (w:World) (base g:Nat) (h:Hv) (l:List UInt8) (os:List Int) (ss:List (Int×Int)):Prop:=∃c:Cv,c.h=h/\Inv ty rs w base g c l os ss
theorem Inv.toM {c':Cv}{l':List UInt8}(I:Inv ty rs w base g c l os ss)(q:Ch g w w')(hc:w'.heap[g]?=some (.cells (cB c' rs') ty (0,0)))(ok:c'.h.Ok)(em:Own w' Hc.mb c'.m l')(eo:c'.out=c.out)(es:c'.av=c.av):Inv ty rs' w' base g c' l' os ss:=by
 have st:∀t:Nat,t≠ty->∀(k:Nat) (o:Array Value) (f:Nat×Nat),w.heap[k]?=some (.cells o t f)->w'.heap[k]?=w.heap[k]?:=fun t ht k o f hk=>
  q.block k (gs hk).1 (fun e=>aa hk I.core ht (by injection e))
 refine⟨I.t1,I.t2,I.t3,ok,I.bg,hc,em,I.RO,?_,?_⟩
 ·rw[eo];exact aj I.out (st _ I.t2.symm)
 ·rw[es];exact aj I.av (st _ I.t3.symm)
theorem Inv.to {w w':World}{base g:Nat}{c c':Cv}{l:List UInt8}{os:List Int}{ss:List (Int×Int)}{rs':List Value}(I:Inv ty rs w base g c l os ss)(q:Ch g w w')(hc:w'.heap[g]?=some (.cells (cB c' rs') ty (0,0)))(ok:c'.h.Ok)(em:c'.m=c.m)(eo:c'.out=c.out)(es:c'.av=c.av):Inv ty rs' w' base g c' l os ss:=by
 have st:∀t:Nat,t≠ty->∀(k:Nat) (o:Array Value) (f:Nat×Nat),w.heap[k]?=some (.cells o t f)->w'.heap[k]?=w.heap[k]?:=fun t ht k o f hk=>
  q.block k (gs hk).1 (fun e=>aa hk I.core ht (by injection e))
 exact I.toM q hc ok (by rw[em];exact I.mem.to (st _ I.t1.symm)) eo es
theorem Inv.of (I:Inv ty rs w base g c l os ss)(q:Gr w w'):Inv ty rs w' base g c l os ss:=I.to ((Ch.refl g w).gr q) ((q.block g (gs I.core).1).trans I.core) I.ok rfl rfl rfl
theorem In.of {w w':World}{base g:Nat}{h:Hv}{l:List UInt8}{os:List Int}{ss:List (Int×Int)}(I:In ty rs w base g h l os ss)(q:Gr w w'):In ty rs w' base g h l os ss:=by obtain⟨c,e,I⟩:=I;exact⟨c,e,I.of q⟩
theorem Inv.lt (I:Inv ty rs w base g c l os ss):g<w.heap.size:=(gs I.core).1
theorem Inv.hcell (I:Inv ty rs w base g c l os ss)(hi:i<37):w.cell? ⟨g,i,none⟩=(hL c.h)[i]?:=(cr I.core).trans (ZJ I.ok hi)
theorem Inv.dJ (I:Inv ty rs w base g c l os ss)(j:Nat)(hj:j<3:=by omega):w.cell? ⟨g,37+j,none⟩=[c.m,c.out,c.av][j]?:=
 (cr I.core).trans (Ei I.ok hj)
theorem Inv.rest (I:Inv ty rs w base g c l os ss)(j:Nat):w.cell? ⟨g,40+j,none⟩=rs[j]?:=(cr I.core).trans (yX I.ok j)
theorem Inv.reg (I:Inv ty rs w base g c l os ss)(hi:i<32):w.cell? ⟨g,i,none⟩=some (.int .u32 (rg c.h i)):=(I.hcell ab).trans (lC I.ok hi)
theorem Inv.fz (I:Inv ty rs w base g c l os ss)(j:Nat):w.frozen? ⟨g,j,none⟩=false:=aus _ _ j _ _ I.core
theorem Inv.set {w:World}{base g:Nat}{c:Cv}{l:List UInt8}{os:List Int}{ss:List (Int×Int)}(I:Inv ty rs w base g c l os ss){i:Nat}(hi:i<37){v:Value}{h':Hv}(e:(hL c.h).set i v=hL h')(ok:h'.Ok):Inv ty rs (w.setCell ⟨g,i,none⟩ v) base g { c with h:=h' } l os ss:=I.to ((Ch.refl g w).setCell i v) (by rw[hss I.core,ZK I.ok hi e]) ok rfl rfl rfl
theorem Inv.vM (I:Inv ty rs w base g c l os ss)(j:Nat)(v:Value):Inv ty (rs.set j v) (w.setCell ⟨g,40+j,none⟩ v) base g c l os ss:=I.to ((Ch.refl g w).setCell (40+j) v) (by rw[hss I.core,Ug I.ok]) I.ok rfl rfl rfl
theorem Inv.rF (I:Inv ty rs w base g c l os ss):In ty rs w base g c.h l os ss:=⟨c,rfl,I⟩
theorem Inv.ay (I:Inv ty rs w base g c l os ss):base<=w.heap.size:=apr I.bg (aqP I.lt)
structure Fr (ty:Nat) (base:Nat) (w w':World):Prop where
 below:Below base w w'
 keep:∀(k:Nat) (o:Array Value) (t:Nat) (f:Nat×Nat),w.heap[k]?=some (.cells o t f)->t≠ty->t≠37->t≠175->w'.heap[k]?=w.heap[k]?
theorem Fr.trans {base:Nat}{a b c:World}(h:Fr ty base a b)(q:Fr ty base b c):Fr ty base a c:=
 ⟨h.below.trans q.below,fun k o t f e n1 n2 n3=>by
  have e1:=h.keep k o t f e n1 n2 n3;exact(q.keep k o t f (e1.trans e) n1 n2 n3).trans e1⟩
theorem Fr.bD (h:Gr w w')(hb:base<=w.heap.size):Fr ty base w w':=⟨aun h hb,fun k o t f e _ _ _=>h.block k (gs e).1⟩
theorem In.below {w w':World}{base g:Nat}{h:Hv}{l:List UInt8}{os:List Int}{ss:List (Int×Int)}(I:In ty rs w base g h l os ss)(q:Ch g w w'):Fr ty base w w':=by obtain⟨c,_,I⟩:=I;exact⟨q.below I.bg I.ay,fun k o t f e n1 _ _=>q.block k (gs e).1 (fun q=>aa e I.core n1 (by injection q))⟩
structure Ts (w:World) (base:Nat):Prop where
 sizes:∀i n,([0,0,0,0,0,0,0,0,0,0,0,0,0,0,0,0,1,2,4]:List Int)[i]?=some n->w.cell? ⟨13,i,none⟩=some (.int .u32 n)
 b1:13<base
theorem nO (T:Ts w base)(h:Below base w w'):Ts w' base:=⟨fun i n e=>(auJ h (by exact T.b1)).trans (T.sizes i n e),T.b1⟩
theorem Inv.gJ {W:World}{n:Nat}{ss':List (Int×Int)}(I:Inv ty rs w base g c l os ss)(G:Gr w W)(q:W.grownBy w' c.av.ownBlock)(hn:ss'.length=n)(ho:w'.ownsRow base 175 2 v n (rE ss')):w'.cell? ⟨g,39,none⟩=some c.av/\w'.frozen? ⟨g,39,none⟩=false/\Inv ty rs (w'.setCell ⟨g,39,none⟩ v) base g { c with av:=v } l os ss'/\Fr ty base w (w'.setCell ⟨g,39,none⟩ v):=by
 subst hn;have I1:=I.of G;have st:∀t:Nat,t≠175->∀(k:Nat) (o:Array Value) (f:Nat×Nat),W.heap[k]?=some (.cells o t f)->w'.heap[k]?=W.heap[k]?:=fun t ht k o f hk=>
  q.block k (gs hk).1 (fun e=>by
   rcases I1.av.2 with⟨h0,_⟩|⟨g',cap,cur,hv,_,hg,_⟩
   ·rw[h0]at e;cases e
   ·rw[hv]at e;injection e with e;exact aa hk hg ht e)
 have hb:∀k,c.av.ownBlock=some k->base<=k:=fun k e=>(I1.av.lt k e).1
 have hcore:=(st _ I.t3 g _ _ I1.core).trans I1.core;have ne:∀t:Nat,t≠ty->∀(k:Nat) (o:Array Value) (f:Nat×Nat),w'.heap[k]?=some (.cells o t f)->(w'.setCell ⟨g,39,none⟩ v).heap[k]?=w'.heap[k]?:=fun t ht k o f hk=>
  hso (by exact aa hk hcore ht)
 refine⟨(cr hcore).trans (Ei (j:=2) I.ok ab),lh hcore,⟨I.t1,I.t2,I.t3,I.ok,I.bg,?_,?_,I.RO,?_,?_⟩,?_⟩
 ·rw[hss hcore,yY (c':={ c with av:=v }) (j:=2) I.ok ab rfl rfl]
 ·exact(I1.mem.to (st _ an)).to (ne _ I.t1.symm)
 ·exact aj (aj I1.out (st _ an)) (ne _ I.t2.symm)
 ·exact aj ho (ne _ I.t3.symm)
 ·refine⟨auS ((aun G I.ay).grown q I1.ay hb) (by exact I.bg) _,fun k o t f e n1 n2 n3=>?_⟩;have e1:=(gs e).1;have e2:=(G.block k e1).trans e;have e3:=(st _ n3 k _ _ e2).trans e2;exact((ne _ n1 k _ _ e3).trans e3).trans e.symm
theorem Inv.qF {W:World}{n:Nat}{os':List Int}(I:Inv ty rs w base g c l os ss)(G:Gr w W)(q:W.grownBy w' c.out.ownBlock)(hn:os'.length=n)(ho:w'.ownsRow base 37 1 v n (os'.map (Value.int .u32))):w'.cell? ⟨g,38,none⟩=some c.out/\w'.frozen? ⟨g,38,none⟩=false/\Inv ty rs (w'.setCell ⟨g,38,none⟩ v) base g { c with out:=v } l os' ss/\Fr ty base w (w'.setCell ⟨g,38,none⟩ v):=by
 subst hn;have I1:=I.of G;have st:∀t:Nat,t≠37->∀(k:Nat) (o:Array Value) (f:Nat×Nat),W.heap[k]?=some (.cells o t f)->w'.heap[k]?=W.heap[k]?:=fun t ht k o f hk=>
  q.block k (gs hk).1 (fun e=>by
   rcases I1.out.2 with⟨h0,_⟩|⟨g',cap,cur,hv,_,hg,_⟩
   ·rw[h0]at e;cases e
   ·rw[hv]at e;injection e with e;exact aa hk hg ht e)
 have hb:∀k,c.out.ownBlock=some k->base<=k:=fun k e=>(I1.out.lt k e).1
 have hcore:=(st _ I.t2 g _ _ I1.core).trans I1.core;have ne:∀t:Nat,t≠ty->∀(k:Nat) (o:Array Value) (f:Nat×Nat),w'.heap[k]?=some (.cells o t f)->(w'.setCell ⟨g,38,none⟩ v).heap[k]?=w'.heap[k]?:=fun t ht k o f hk=>
  hso (by exact aa hk hcore ht)
 refine⟨(cr hcore).trans (Ei (j:=1) I.ok ab),lh hcore,⟨I.t1,I.t2,I.t3,I.ok,I.bg,?_,?_,I.RO,?_,?_⟩,?_⟩
 ·rw[hss hcore,yY (c':={ c with out:=v }) (j:=1) I.ok ab rfl rfl]
 ·exact(I1.mem.to (st _ an)).to (ne _ I.t1.symm)
 ·exact aj ho (ne _ I.t2.symm)
 ·exact aj (aj I1.av (st _ an)) (ne _ I.t3.symm)
 ·refine⟨auS ((aun G I.ay).grown q I1.ay hb) (by exact I.bg) _,fun k o t f e n1 n2 n3=>?_⟩;have e1:=(gs e).1;have e2:=(G.block k e1).trans e;have e3:=(st _ n2 k _ _ e2).trans e2;exact((ne _ n1 k _ _ e3).trans e3).trans e.symm
theorem Inv.stored {k:List UInt8}(I:Inv ty rs w base g c l os ss)(G:Gr w w1)(R:qB w1 w.heap.size n k)(hk:k.length=n):Inv ty rs (w1.setCell ⟨g,37,none⟩ (.slice (some ⟨w.heap.size,0,none⟩) n n)) base g { c with m:=.slice (some ⟨w.heap.size,0,none⟩) n n } k os ss:=by have I1:=I.of G;obtain⟨rest,hr,hz⟩:=R;refine I1.toM ((Ch.refl g w1).setCell _ _) (by rw[hss I1.core,yY (c':={ c with m:=.slice (some ⟨w.heap.size,0,none⟩) n n }) (j:=0) I.ok ab rfl rfl]) I.ok (.inr ⟨w.heap.size,n,by rw[hk],⟨apr I.RO I.ay,by rw[hk];exact apn _⟩,rest,?_,hz⟩) rfl rfl;rw[hso (by exact aa hr I1.core I.t1.symm)];exact hr
end Gc
namespace Gc
open Mm Hh Hc
variable{h:Hv}
theorem dK (I:In ty rs w base g h l os ss)(c:Int):Calls prog 134 #[.pointer (some ⟨g,0,none⟩),.int .i64 c] w fun e w'=>e=.returned (.tuple #[])/\In ty rs w' base g (h.trap c) l os ss/\Ch g w w':=by
 obtain⟨c0,rfl,I⟩:=I;have k1:=(I.hcell ab).trans (aW I.ok 3);have k2:=(I.hcell ab).trans (aW I.ok 4);have fz:=I.fz;have o1:Hv.Ok { c0.h with state:=2 }:=⟨I.ok.len,I.ok.reg,I.ok.nH,I.ok.jV,I.ok.x9,I.ok.zO⟩;have J:Hid (Inv ty rs ((w.setCell ⟨g,35,none⟩ (.int .i64 2)).setCell ⟨g,36,none⟩ (.int .i64 c)) base g { c0 with h:=c0.h.trap c } l os ss):=
  (I.set ab (mR I.ok 2) o1).set (c:={ c0 with h:={ c0.h with state:=2 } }) ab (wh o1 c) (I.ok.trap c)
 generalize c0.h.state=x1 at k1;generalize c0.h.cause=x2 at k2;go_enter func134,ntmps134;go_wp2;go_end0;exact⟨rfl,⟨_,rfl,J⟩,((Ch.refl g w).setCell _ _).setCell _ _⟩
theorem yl (I:In ty rs w base g h l os ss)(r x:Int)(h0:0<=r)(h1:r<32)(hx0:0<=x)(hx1:x<4294967296):Calls prog 162 #[.pointer (some ⟨g,0,none⟩),.int .i64 r,.int .u32 x] w fun e w'=>e=.returned (.tuple #[])/\In ty rs w' base g (h.set r.toNat x) l os ss/\Ch g w w':=by
 obtain⟨c0,rfl,I⟩:=I;obtain⟨r,rfl⟩:=apt h0;simp only[apG];by_cases hr:r=0
 ·subst hr;have J:=kH I;go_enter func162,ntmps162;go_wp2;go_end0;exact⟨rfl,⟨c0,rfl,J⟩,Ch.refl g w⟩
 ·have hr2:r<32:=ab;have k1:=I.reg hr2;have fz:=I.fz;have e:c0.h.set r x={ c0.h with regs:=c0.h.regs.set r x }:=at6 hr;have ok:=I.ok.set r hx0 hx1;rw[e]at ok ⊢;have J:Hid _:=I.set ab (yc I.ok hr2 x) ok;have hr':¬(r:Int)=0:=ab;generalize rg c0.h r=y at k1;go_enter func162,ntmps162;go_wp2;go_end0;exact⟨rfl,⟨_,rfl,J⟩,(Ch.refl g w).setCell _ _⟩
theorem dY {w:World}{base g:Nat}{h:Hv}{l:List UInt8}{os:List Int}{ss:List (Int×Int)}(I:In ty rs w base g h l os ss)(hl:l.length<=140737488351232)(op a:Int)(h0:0<=a)(h1:a<4294967296):Calls prog 177 #[.pointer (some ⟨g,0,none⟩),.int .i64 op,.int .u32 a] w fun e w'=>e=.returned (.tuple #[.int .u32 (aN l op a),.bool (bM l op a)])/\In ty rs w' base g (if bM l op a=true then h else h.trap 3) l os ss/\Ch g w w':=by
 have T:Hid (∀c,_):=fun c=>dK I c
 have HI:=kH I;obtain⟨c0,rfl,I⟩:=I;obtain⟨ao,cap,hm,M⟩:=I.mem.mem;have k1:w.cell? ⟨g,37,none⟩=some (.slice ao l.length cap):=(I.dJ 0).trans (by rw[hm];rfl);have L:=kH (Mm.dY cap op a M hl h0 h1);generalize aN l op a=X at *
 generalize bM l op a=B at *
 generalize l.length=n at *
 cases B
 ·go_enter func177,ntmps177;go_wp2_with fail;refine L.mono ?_;rintro e w' ⟨rfl,rfl⟩;go_wp2_with fail;refine(T 3).mono ?_;rintro e w2 ⟨rfl,I2,C2⟩;have HI2:=kH I2;go_wp2;go_ret2;exact⟨rfl,HI2,C2⟩
 ·go_enter func177,ntmps177;go_wp2_with fail;refine L.mono ?_;rintro e w' ⟨rfl,rfl⟩;go_wp2;go_ret2;exact⟨rfl,HI,Ch.refl _ _⟩
theorem lD (I:In ty rs w base g h l os ss)(hl:l.length<=140737488351232)(op a x:Int)(h0:0<=a)(h1:a<4294967296)(hx0:0<=x)(hx1:x<4294967296)(ok:dX l op a=false):Calls prog 178 #[.pointer (some ⟨g,0,none⟩),.int .i64 op,.int .u32 a,.int .u32 x] w fun e w'=>e=.returned (.tuple #[])/\In ty rs w' base g (h.trap 4) l os ss/\Ch g w w':=by
 have T:Hid (∀W,In ty rs W base g h l os ss->∀c,_):=fun W I c=>dK I c
 have HI:=kH I;obtain⟨c0,rfl,I⟩:=I;obtain⟨ao,cap,hm,M⟩:=I.mem.mem;have k1:w.cell? ⟨g,37,none⟩=some (.slice ao l.length cap):=(I.dJ 0).trans (by rw[hm];rfl);have L:Hid (Calls prog 189 #[.slice ao l.length cap,.int .i64 op,.int .u32 a,.int .u32 x] w fun e w'=>∃QS n' cap',e=.returned (.tuple #[.slice QS n' cap',.bool false])/\Gr w w'):=by
  have:=Mm.dO cap op a x M hl h0 h1 hx0 hx1;rw[ok]at this;exact this.mono fun e w' ⟨a1,n1,c1,e1,_,e3⟩=>⟨a1,n1,c1,e1,e3⟩
 generalize l.length=n at *
 go_enter func178,ntmps178;go_wp2_with fail;refine L.mono ?_;rintro e w1 ⟨a1,n1,c1,rfl,G1⟩;have HI1:=kH (HI.of G1);have oQ:=kH ((Ch.refl g w).gr G1);go_wp2_with fail;refine(T _ HI1 4).mono ?_;rintro e w2 ⟨rfl,I2,C2⟩;have HI2:=kH I2;have ll:=kH (oQ.trans C2);go_wp2;refine auc (auV results178 _ _ _) rfl ?_;exact⟨rfl,HI2,ll⟩
theorem iZ (I:In ty rs w base g h l os ss)(T:Ts w base)(hl:l.length<=140737488351232)(hss:ss.length<=1000000)(op a x:Int)(h0:0<=a)(h1:a<4294967296)(hx0:0<=x)(hx1:x<4294967296)(ok:dX l op a=true):Calls prog 178 #[.pointer (some ⟨g,0,none⟩),.int .i64 op,.int .u32 a,.int .u32 x] w fun e w'=>e=.returned (.tuple #[])/\In ty rs w' base g h (il l op a x) os (ss++[(a,((gG op:Nat):Int))])/\Fr ty base w w':=by
 obtain⟨c0,rfl,I⟩:=I;obtain⟨ao,cap,hm,M⟩:=I.mem.mem;have k1:w.cell? ⟨g,37,none⟩=some (.slice ao l.length cap):=(I.dJ 0).trans (by rw[hm];rfl);have L:=kH (wC cap op a x M hl h0 h1 hx0 hx1 ok);have hk:=Hc.xZ (x:=x) ok;have hop:=Fz ok;obtain⟨i0,hi,hz0,hz1,hz2⟩:=auz WL;generalize il l op a x=k at *
 have HI:=kH I;have HT:=kH T;rcases hop with rfl|rfl|rfl
 ·rw[show((gG 16:Nat):Int)=1 from rfl];go_enter func178,ntmps178;go_wp2_with fail;refine L.mono ?_;rintro e w1 ⟨rfl,R1,G1⟩;have J:=HI.stored G1 R1 hk;have q1:=(Gr.cell G1 _ (by exact HI.lt)).trans k1;have q2:=(HI.of G1).fz 37;have B:Fr ty base w (w1.setCell ⟨g,37,none⟩ (.slice (some ⟨w.heap.size,0,none⟩) l.length l.length)):=HI.rF.below (((Ch.refl g w).gr G1).setCell _ _);go_wp2_with fail;generalize w1.setCell ⟨g,37,none⟩ (.slice (some ⟨w.heap.size,0,none⟩) l.length l.length)=w2 at *
  have KJ:=J.dJ 2;have fz:=J.fz;have hg:=J.lt;have ks:=(nO HT B.below).sizes 16 1 rfl;have HJ:=kH J;have HB:=kH B;go_region_law (refine aZ rfl (.tmp 33) (.tmp 41) 140 rfl base 175 i0 _ 2 8 underlying140 hi hz0 hz1 hz2 rfl an c0.av ss.length (rE ss) ar (aC HJ.av b9) ⟨w2.heap.size,0,none⟩ 1 1 [.int .u32 a,.int .u32 (IntKind.u32.wrap (a+1))] ar rfl (dP aq aq) (mU _ _) bj ab (by have:=HJ.ay;simp;omega) ?_;intro v' w' hown hgrow;obtain⟨g',cp,rfl⟩:=dh hown ab;obtain⟨c39,f39,F⟩:=HJ.gJ (n:=ss.length+1) b9 hgrow (ss':=ss++[(a,1)]) aq (by rw[jX];exact hown);have HF:Hid _:=F;clear F hown hgrow)
  all_goals
   go_end0;exact⟨rfl,HF.1.rF,HB.trans HF.2⟩
 ·rw[show((gG 17:Nat):Int)=2 from rfl];go_enter func178,ntmps178;go_wp2_with fail;refine L.mono ?_;rintro e w1 ⟨rfl,R1,G1⟩;have J:=HI.stored G1 R1 hk;have q1:=(Gr.cell G1 _ (by exact HI.lt)).trans k1;have q2:=(HI.of G1).fz 37;have B:Fr ty base w (w1.setCell ⟨g,37,none⟩ (.slice (some ⟨w.heap.size,0,none⟩) l.length l.length)):=HI.rF.below (((Ch.refl g w).gr G1).setCell _ _);go_wp2_with fail;generalize w1.setCell ⟨g,37,none⟩ (.slice (some ⟨w.heap.size,0,none⟩) l.length l.length)=w2 at *
  have KJ:=J.dJ 2;have fz:=J.fz;have hg:=J.lt;have ks:=(nO HT B.below).sizes 17 2 rfl;have HJ:=kH J;have HB:=kH B;go_region_law (refine aZ rfl (.tmp 33) (.tmp 41) 140 rfl base 175 i0 _ 2 8 underlying140 hi hz0 hz1 hz2 rfl an c0.av ss.length (rE ss) ar (aC HJ.av b9) ⟨w2.heap.size,0,none⟩ 1 1 [.int .u32 a,.int .u32 (IntKind.u32.wrap (a+2))] ar rfl (dP aq aq) (mU _ _) bj ab (by have:=HJ.ay;simp;omega) ?_;intro v' w' hown hgrow;obtain⟨g',cp,rfl⟩:=dh hown ab;obtain⟨c39,f39,F⟩:=HJ.gJ (n:=ss.length+1) b9 hgrow (ss':=ss++[(a,2)]) aq (by rw[jX];exact hown);have HF:Hid _:=F;clear F hown hgrow)
  all_goals
   go_end0;exact⟨rfl,HF.1.rF,HB.trans HF.2⟩
 ·rw[show((gG 18:Nat):Int)=4 from rfl];go_enter func178,ntmps178;go_wp2_with fail;refine L.mono ?_;rintro e w1 ⟨rfl,R1,G1⟩;have J:=HI.stored G1 R1 hk;have q1:=(Gr.cell G1 _ (by exact HI.lt)).trans k1;have q2:=(HI.of G1).fz 37;have B:Fr ty base w (w1.setCell ⟨g,37,none⟩ (.slice (some ⟨w.heap.size,0,none⟩) l.length l.length)):=HI.rF.below (((Ch.refl g w).gr G1).setCell _ _);go_wp2_with fail;generalize w1.setCell ⟨g,37,none⟩ (.slice (some ⟨w.heap.size,0,none⟩) l.length l.length)=w2 at *
  have KJ:=J.dJ 2;have fz:=J.fz;have hg:=J.lt;have ks:=(nO HT B.below).sizes 18 4 rfl;have HJ:=kH J;have HB:=kH B;go_region_law (refine aZ rfl (.tmp 33) (.tmp 41) 140 rfl base 175 i0 _ 2 8 underlying140 hi hz0 hz1 hz2 rfl an c0.av ss.length (rE ss) ar (aC HJ.av b9) ⟨w2.heap.size,0,none⟩ 1 1 [.int .u32 a,.int .u32 (IntKind.u32.wrap (a+4))] ar rfl (dP aq aq) (mU _ _) bj ab (by have:=HJ.ay;simp;omega) ?_;intro v' w' hown hgrow;obtain⟨g',cp,rfl⟩:=dh hown ab;obtain⟨c39,f39,F⟩:=HJ.gJ (n:=ss.length+1) b9 hgrow (ss':=ss++[(a,4)]) aq (by rw[jX];exact hown);have HF:Hid _:=F;clear F hown hgrow)
  all_goals
   go_end0;exact⟨rfl,HF.1.rF,HB.trans HF.2⟩
theorem dO (I:In ty rs w base g h l os ss)(T:Ts w base)(hl:l.length<=140737488351232)(hss:ss.length<=1000000)(op a x:Int)(h0:0<=a)(h1:a<4294967296)(hx0:0<=x)(hx1:x<4294967296):Calls prog 178 #[.pointer (some ⟨g,0,none⟩),.int .i64 op,.int .u32 a,.int .u32 x] w fun e w'=>e=.returned (.tuple #[])/\In ty rs w' base g (aH h l op a x).h (aH h l op a x).m os (ss++(aH h l op a x).av)/\Fr ty base w w':=by
 unfold aH;cases ok:dX l op a with
 |false=>
  refine(lD I hl op a x h0 h1 hx0 hx1 ok).mono ?_;rintro e w' ⟨rfl,J,C⟩;exact⟨rfl,by simpa using J,I.below C⟩
 |true=>exact iZ I T hl hss op a x h0 h1 hx0 hx1 ok
theorem tL (I:In ty rs w base g h l os ss)(hos:os.length<=1000000)(Yx:rg h 17=1):Calls prog 181 #[.pointer (some ⟨g,0,none⟩)] w fun e w'=>e=.returned (.tuple #[])/\In ty rs w' base g h l (os++[rg h 10]) ss/\Fr ty base w w':=by
 obtain⟨c0,rfl,I⟩:=I;have k17:w.cell? ⟨g,17,none⟩=some (.int .u32 1):=by rw[<-Yx];exact I.reg ab
 have k10:w.cell? ⟨g,10,none⟩=some (.int .u32 (rg c0.h 10)):=I.reg ab;have k38:=I.dJ 1;have fz:=I.fz;have hg:=I.lt;have HJ:Hid _:=I;obtain⟨i0,hi,hz0,hz1,hz2⟩:=auz wz;generalize rg c0.h 10=x at *
 go_enter func181,ntmps181;go_wp2_with fail;go_region_law (refine aZ rfl (.tmp 22) (.tmp 29) 36 rfl base 37 i0 _ 1 4 underlying36 hi hz0 hz1 hz2 rfl an c0.out os.length (os.map (Value.int .u32)) ar (aC HJ.out.out b9) ⟨w.heap.size,0,none⟩ 1 1 [.int .u32 x] ar rfl (one_cell aq) (one_one _) bj ab (by have:=HJ.out.ay;simp;omega) ?_;intro v' w' hown hgrow;obtain⟨g',cp,rfl⟩:=dh hown ab;obtain⟨c38,f38,F⟩:=HJ.out.qF (n:=os.length+1) b9 hgrow (os':=os++[x]) aq (by rw[aqb];exact hown);have HF:Hid _:=F;clear F hown hgrow)
 all_goals
  go_end0;exact⟨rfl,HF.1.rF,HF.2⟩
theorem tN (I:In ty rs w base g h l os ss)(Yx:¬rg h 17=1):Calls prog 181 #[.pointer (some ⟨g,0,none⟩)] w fun e w'=>e=.returned (.tuple #[])/\In ty rs w' base g (if rg h 17=0 then h.halt else h.trap 5) l os ss/\Fr ty base w w':=by
 have T:Hid (∀c,Calls prog 134 #[.pointer (some ⟨g,0,none⟩),.int .i64 c] w fun e w'=>e=.returned (.tuple #[])/\In ty rs w' base g (h.trap c) l os ss/\Ch g w w'):=fun c=>dK I c
 have HI:=kH I;obtain⟨c0,rfl,I⟩:=I;have k17:w.cell? ⟨g,17,none⟩=some (.int .u32 (rg c0.h 17)):=I.reg ab;have QU:=(I.hcell ab).trans (aW I.ok 3);have fz:=I.fz;have o1:=I.ok.halt;have HJ:=kH (I.set ab (mR I.ok 1) o1);generalize c0.h.state=y at *
 generalize hx:rg c0.h 17=x at *
 by_cases h0:x=0
 ·subst h0;rw[at7 rfl];clear T;go_enter func181,ntmps181;go_wp2_with fail;go_end0;exact⟨rfl,HJ.rF,HI.below ((Ch.refl g w).setCell _ _)⟩
 ·rw[at6 h0];have b0:(x ==0)=false:=by simp[h0]
  have b1:(x ==1)=false:=by simp[Yx]
  go_enter func181,ntmps181;go_wp2_with fail;refine(T 5).mono ?_;rintro e w' ⟨rfl,I2,C2⟩;have HI2:=kH I2;have ll:=kH C2;go_wp2_with fail;go_end0;exact⟨rfl,HI2,HI.below ll⟩
theorem tO (I:In ty rs w base g h l os ss)(hos:os.length<=1000000):Calls prog 181 #[.pointer (some ⟨g,0,none⟩)] w fun e w'=>e=.returned (.tuple #[])/\In ty rs w' base g (bA h l).h l (os++(bA h l).out) ss/\Fr ty base w w':=by
 unfold bA;by_cases h1:rg h 17=1
 ·rw[ak,at7 h1];exact tL I hos h1
 ·refine(tN I h1).mono ?_;rintro e w' ⟨rfl,J,B⟩;refine⟨rfl,?_,B⟩;by_cases h0:rg h 17=0
  ·rw[at7 h0]at J ⊢;simpa using J
  ·rw[at6 h0]at J;rw[at6 h0,at6 h1];simpa using J
theorem lV (I:In ty rs w base g h l os ss)(hl:l.length<=140737488351232)(a:Int)(h0:0<=a)(h1:a<4294967296):Calls prog 197 #[.pointer (some ⟨g,0,none⟩),.int .u32 a] w fun e w'=>e=.returned (bP (gB h l a).res)/\In ty rs w' base g (gB h l a).h l os ss/\Fr ty base w w':=by
 have L:=dY I hl 13 a h0 h1;unfold gB;have HI:=kH I;clear I;cases hB:bM l 13 a with
 |false=>
  have hX:aN l 13 a=0:=by unfold aN;rw[hB];rfl
  rw[hB,hX]at L;have HL:=kH L;clear L hX hB;go_enter func197,ntmps197;go_wp2_with fail;refine HL.mono ?_;rintro e w' ⟨rfl,I2,C2⟩;have HI2:=kH I2;have ll:=kH C2;clear I2 C2 HL;go_wp2_with fail;go_ret2;exact⟨rfl,HI2,HI.below ll⟩
 |true=>
  rw[hB]at L;have HL:Hid (Calls prog 177 #[.pointer (some ⟨g,0,none⟩),.int .i64 13,.int .u32 a] w fun e w'=>e=.returned (.tuple #[.int .u32 (aN l 13 a),.bool true])/\In ty rs w' base g h l os ss/\Ch g w w'):=L;clear L hB;generalize aN l 13 a=X at *
  go_enter func197,ntmps197;go_wp2_with fail;refine HL.mono ?_;rintro e w' ⟨rfl,I2,C2⟩;have ll:Hid (Ch g w w'):=C2;obtain⟨c0,rfl,I⟩:=I2;have k1:w'.cell? ⟨g,33,none⟩=some (.bool c0.h.held):=(I.hcell ab).trans (aW I.ok 1);have k2:w'.cell? ⟨g,34,none⟩=some (.int .u32 c0.h.aP):=(I.hcell ab).trans (aW I.ok 2);have fz:=I.fz;have o1:Hv.Ok { c0.h with held:=true }:=⟨I.ok.len,I.ok.reg,I.ok.nH,I.ok.jV,I.ok.x9,I.ok.zO⟩;have HJ:Hid (Inv ty rs ((w'.setCell ⟨g,33,none⟩ (.bool true)).setCell ⟨g,34,none⟩ (.int .u32 a)) base g { c0 with h:=c0.h.hold true a } l os ss):=
   (I.set ab (jW I.ok true) o1).set (c:={ c0 with h:={ c0.h with held:=true } }) ab (gI o1 a) (I.ok.hold true h0 h1)
  generalize c0.h.held=x1 at *
  generalize c0.h.aP=x2 at *
  go_wp2_with fail;go_ret2;exact⟨rfl,HJ.rF,HI.below ((ll.setCell _ _).setCell _ _)⟩
theorem jN (I:In ty rs w base g h l os ss)(T:Ts w base)(hl:l.length<=140737488351232)(hss:ss.length<=1000000)(a b:Int)(h0:0<=a)(h1:a<4294967296)(hx0:0<=b)(hx1:b<4294967296)(ok:bM l 13 a=true):Calls prog 198 #[.pointer (some ⟨g,0,none⟩),.int .u32 a,.int .u32 b] w fun e w'=>e=.returned (.int .u32 ((eU h l a b).res.getD 0))/\In ty rs w' base g (eU h l a b).h (eU h l a b).m os (ss++(eU h l a b).av)/\Fr ty base w w':=by
 unfold eU;rw[at7 ok];have HI:Hid (In ty rs w base g h l os ss):=I;obtain⟨c0,rfl,I⟩:=I;have k1:=(I.hcell ab).trans (aW I.ok 1);have k2:=(I.hcell ab).trans (aW I.ok 2);have fz:=I.fz;have o1:Hv.Ok { c0.h with held:=false }:=⟨I.ok.len,I.ok.reg,I.ok.nH,I.ok.jV,I.ok.x9,I.ok.zO⟩;have J:Inv ty rs ((w.setCell ⟨g,33,none⟩ (.bool false)).setCell ⟨g,34,none⟩ (.int .u32 0)) base g { c0 with h:=c0.h.hold false 0 } l os ss:=
  (I.set ab (jW I.ok false) o1).set (c:={ c0 with h:={ c0.h with held:=false } }) ab (gI o1 0) (I.ok.hold false (x:=0) ab ab)
 have B:Fr ty base w ((w.setCell ⟨g,33,none⟩ (.bool false)).setCell ⟨g,34,none⟩ (.int .u32 0)):=HI.below (((Ch.refl g w).setCell _ _).setCell _ _);have S:=dO J.rF (nO T B.below) hl hss 18 a b h0 h1 hx0 hx1;have e1:aH (c0.h.hold false 0) l 18 a b=⟨c0.h.hold false 0,il l 18 a b,[],[(a,4)],none⟩:=by unfold aH;rw[at7 (bG ok)];rfl
 have HS:Hid (Calls prog 178 #[.pointer (some ⟨g,0,none⟩),.int .i64 18,.int .u32 a,.int .u32 b] ((w.setCell ⟨g,33,none⟩ (.bool false)).setCell ⟨g,34,none⟩ (.int .u32 0)) fun e w'=>e=.returned (.tuple #[])/\In ty rs w' base g (c0.h.hold false 0) (il l 18 a b) os (ss++[(a,4)])/\Fr ty base ((w.setCell ⟨g,33,none⟩ (.bool false)).setCell ⟨g,34,none⟩ (.int .u32 0)) w'):=by
  have S1:=S;rw[e1]at S1;exact S1
 have HJ:=kH J.rF;have HB:=kH B;generalize c0.h.held=x1 at *
 generalize c0.h.aP=x2 at *
 cases x1 with
 |false=>
  rw[at6 aq];go_enter func198,ntmps198;go_wp2_with fail;go_ret;exact⟨rfl,by simpa using HJ.out,HB.out⟩
 |true=>
  by_cases ha:x2=a
  ·rw[at7 ⟨rfl,ha⟩];have ba:(x2 ==a)=true:=by simp[ha]
   go_enter func198,ntmps198;go_wp2_with fail;refine HS.mono ?_;rintro e w' ⟨rfl,I2,B2⟩;have HI2:=kH I2;have HB2:=kH (HB.trans B2);go_wp2_with fail;go_ret;exact⟨rfl,HI2,HB2⟩
  ·rw[at6 (by simp[ha])];have ba:(x2 ==a)=false:=by simp[ha]
   go_enter func198,ntmps198;go_wp2_with fail;go_ret;exact⟨rfl,by simpa using HJ.out,HB.out⟩
theorem uz (I:In ty rs w base g h l os ss)(T:Ts w base)(hl:l.length<=140737488351232)(hss:ss.length<=1000000)(op a b:Int)(h0:0<=a)(h1:a<4294967296)(hx0:0<=b)(hx1:b<4294967296):Calls prog 180 #[.pointer (some ⟨g,0,none⟩),.int .i64 op,.int .u32 a,.int .u32 b] w fun e w'=>e=.returned (bP (aK h l op a b).res)/\In ty rs w' base g (aK h l op a b).h (aK h l op a b).m os (ss++(aK h l op a b).av)/\Fr ty base w w':=by
 have R:=kH (lV I hl a h0 h1);have Tr:Hid (∀c,_):=fun c=>dK I c
 have SH:Hid (bM l 13 a=true->_):=fun ok=>jN I T hl hss a b h0 h1 hx0 hx1 ok
 have wv:=W.aN l 13 a;have wa:=W.mO (op:=op) wv ⟨hx0,hx1⟩;have St:=kH (dO I T hl hss 18 a _ h0 h1 wa.1 wa.2);have HI:=kH I;obtain⟨c0,rfl,I⟩:=I;obtain⟨ao,cap,hm,M⟩:=I.mem.mem;have k1:w.cell? ⟨g,37,none⟩=some (.slice ao l.length cap):=(I.dJ 0).trans (by rw[hm];rfl);have L:=kH (Mm.dY cap 13 a M hl h0 h1);have Am:=kH (Ww.Fv op _ b w wv.1 wv.2 hx0 hx1);by_cases h46:op=46
 ·have e:aK c0.h l op a b=gB c0.h l a:=at7 h46;have em:(gB c0.h l a).m=l/\(gB c0.h l a).av=[]:=by unfold gB;split<;>exact⟨rfl,rfl⟩
  rw[e,em.1,em.2,apz];have b46:(op ==46)=true:=by simp[h46]
  generalize gB c0.h l a=E at *
  unfold bP at *
  go_enter func180,ntmps180;go_wp2_with fail;refine R.mono ?_;rintro e w' ⟨rfl,I2,B2⟩;have HI2:=kH I2;have HB2:=kH B2;go_wp2_with fail;go_ret2;exact⟨rfl,HI2,HB2⟩
 have b46:(op ==46)=false:=by simp[h46]
 cases ok:bM l 13 a with
 |false=>
  have e:aK c0.h l op a b=⟨c0.h.trap 4,l,[],[],none⟩:=by
   unfold aK eU iN;rw[at6 h46,ok];simp
  rw[e,apz];rw[ok]at L;have L2:=kH L;generalize aN l 13 a=X at *
  generalize l.length=n at *
  go_enter func180,ntmps180;go_wp2_with fail;refine L2.mono ?_;rintro e w' ⟨rfl,rfl⟩;go_wp2_with fail;refine(Tr 4).mono ?_;rintro e w2 ⟨rfl,I2,C2⟩;have HI2:=kH I2;have ll:=kH C2;go_wp2_with fail;go_ret2;exact⟨rfl,HI2,HI.below ll⟩
 |true=>
  rw[ok]at L;have L2:=kH L;by_cases h47:op=47
  ·have e:aK c0.h l op a b=eU c0.h l a b:=by unfold aK;rw[at6 h46,at7 h47]
   have er:bP (eU c0.h l a b).res=.tuple #[.int .u32 ((eU c0.h l a b).res.getD 0),.bool true]:=by
    unfold bP eU;rw[at7 ok];split<;>rfl
   rw[e,er];have S2:=kH (SH ok);have b47:(op ==47)=true:=by simp[h47]
   generalize eU c0.h l a b=E at *
   generalize E.res.getD 0=Y at *
   generalize aN l 13 a=X at *
   generalize l.length=n at *
   go_enter func180,ntmps180;go_wp2_with fail;refine L2.mono ?_;rintro e w' ⟨rfl,rfl⟩;go_wp2_with fail;refine S2.mono ?_;rintro e w2 ⟨rfl,I2,B2⟩;have HI2:=kH I2;have HB2:=kH B2;go_wp2_with fail;go_ret2;exact⟨rfl,HI2,HB2⟩
  ·have e:aK c0.h l op a b=⟨c0.h,il l 18 a (Wd.mO op (aN l 13 a) b),[],[(a,4)],some (aN l 13 a)⟩:=by unfold aK iN;rw[at6 h46,at6 h47,at7 ok]
   have e2:aH c0.h l 18 a (Wd.mO op (aN l 13 a) b)=⟨c0.h,il l 18 a (Wd.mO op (aN l 13 a) b),[],[(a,4)],none⟩:=by unfold aH;rw[at7 (bG ok)];rfl
   rw[e];rw[e2]at St;have St2:=kH St;have b47:(op ==47)=false:=by simp[h47]
   unfold bP;generalize il l 18 a (Wd.mO op (aN l 13 a) b)=K at *
   generalize Wd.mO op (aN l 13 a) b=Y at *
   generalize aN l 13 a=X at *
   generalize l.length=n at *
   go_enter func180,ntmps180;go_wp2_with fail;refine L2.mono ?_;rintro e w' ⟨rfl,rfl⟩;go_wp2_with fail;refine Am.mono ?_;rintro e w' ⟨rfl,rfl⟩;go_wp2_with fail;refine St2.mono ?_;rintro e w2 ⟨rfl,I2,B2⟩;have HI2:=kH I2;have HB2:=kH B2;go_wp2_with fail;go_ret2;exact⟨rfl,HI2,HB2⟩
end Gc
namespace Mp
open Mm Hh Hc Mi
variable{r r':Rn}{bf bt steps:Int}{j base g:Nat}{v:Value}{w:World}
def mg (r:Rn) (bf bt steps:Int):List Value:=r.tm.map (Value.int .u32)++[.int .u32 bf,.int .u32 bt,.int .i64 steps,.int .i64 r.n,.int .u32 r.here]
def Pr (w:World) (base g:Nat) (r:Rn) (bf bt steps:Int):Prop:=Gc.In 206 (mg r bf bt steps) w base g r.h r.m r.out r.av
theorem ZL (o:r.Ok)(hj:j<4):(mg r bf bt steps)[j]?=some (.int .u32 (r.tm.getD j 0)):=by have:=o.tl;unfold mg;rw[apA aE,apT,api ab];simp[List.getD,api (show j<r.tm.length by omega)]
theorem Uh (o:r.Ok)(j:Nat):(mg r bf bt steps)[4+j]?=[Value.int .u32 bf,.int .u32 bt,.int .i64 steps,.int .i64 r.n,.int .u32 r.here][j]?:=by unfold mg;rw[apv (by simp[o.tl])];simp[o.tl]
theorem JH (o:r.Ok)(hj:j<4)(x:Int):(mg r bf bt steps).set j (.int .u32 x)=mg { r with tm:=r.tm.set j x } bf bt steps:=by have:=o.tl;unfold mg;rw[aqn _ _ aE,List.map_set]
theorem NZ (o:r.Ok)(et:r'.tm=r.tm)(e:[Value.int .u32 bf,.int .u32 bt,.int .i64 steps,.int .i64 r.n,.int .u32 r.here].set j v=[Value.int .u32 bf,.int .u32 bt,.int .i64 steps,.int .i64 r'.n,.int .u32 r'.here]):(mg r bf bt steps).set (4+j) v=mg r' bf bt steps:=by unfold mg;rw[apJ _ _ (by simp[o.tl]),et];simp only[apY,o.tl];rw[show 4+j-4=j by omega,e]
theorem Pr.of {w':World}(I:Pr w base g r bf bt steps)(q:Gr w w'):Pr w' base g r bf bt steps:=Gc.In.of I q
theorem Pr.adK (I:Pr w base g r bf bt steps)(o:r.Ok)(hj:j<4):w.cell? ⟨g,40+j,none⟩=some (.int .u32 (r.tm.getD j 0)):=by obtain⟨c,e,I⟩:=I;exact(I.rest j).trans (ZL o hj)
theorem Pr.Oa (I:Pr w base g r bf bt steps)(o:r.Ok)(j:Nat):w.cell? ⟨g,44+j,none⟩=[Value.int .u32 bf,.int .u32 bt,.int .i64 steps,.int .i64 r.n,.int .u32 r.here][j]?:=by obtain⟨c,e,I⟩:=I;have:=(I.rest (4+j)).trans (Uh o j);rwa[show 40+(4+j)=44+j by omega]at this
theorem Pr.reg (I:Pr w base g r bf bt steps){i:Nat}(hi:i<32):w.cell? ⟨g,i,none⟩=some (.int .u32 (rg r.h i)):=by obtain⟨c,e,I⟩:=I;rw[<-e];exact I.reg hi
theorem Pr.hart (I:Pr w base g r bf bt steps)(hj:j<5):w.cell? ⟨g,32+j,none⟩=[Value.int .u32 r.h.pc,.bool r.h.held,.int .u32 r.h.aP,.int .i64 r.h.state,.int .i64 r.h.cause][j]?:=by obtain⟨c,e,I⟩:=I;rw[<-e];exact(I.hcell ab).trans (aW I.ok j)
theorem Pr.fz (I:Pr w base g r bf bt steps)(j:Nat):w.frozen? ⟨g,j,none⟩=false:=by obtain⟨c,e,I⟩:=I;exact I.fz j
theorem Pr.lt (I:Pr w base g r bf bt steps):g<w.heap.size:=by obtain⟨c,e,I⟩:=I;exact I.lt
theorem Pr.ay (I:Pr w base g r bf bt steps):base<=w.heap.size:=by obtain⟨c,e,I⟩:=I;exact I.ay
theorem Pr.adL (I:Pr w base g r bf bt steps)(o:r.Ok)(hj:j<4)(x:Int):Pr (w.setCell ⟨g,40+j,none⟩ (.int .u32 x)) base g { r with tm:=r.tm.set j x } bf bt steps:=by obtain⟨c,e,I⟩:=I;have:=I.vM j (.int .u32 x);rw[JH o hj]at this;exact⟨c,e,this⟩
theorem Pr.adM (I:Pr w base g r bf bt steps)(o:r.Ok)(j:Nat)(eh:r'.h=r.h)(em:r'.m=r.m)(eo:r'.out=r.out)(es:r'.av=r.av)(et:r'.tm=r.tm)(e:[Value.int .u32 bf,.int .u32 bt,.int .i64 steps,.int .i64 r.n,.int .u32 r.here].set j v=[Value.int .u32 bf,.int .u32 bt,.int .i64 steps,.int .i64 r'.n,.int .u32 r'.here]):Pr (w.setCell ⟨g,44+j,none⟩ v) base g r' bf bt steps:=by obtain⟨c,e0,I⟩:=I;have:=I.vM (4+j) v;rw[NZ o et e,show 40+(4+j)=44+j by omega]at this;unfold Pr;rw[eh,em,eo,es];exact⟨c,e0,this⟩
theorem Pr.Oc (I:Pr w base g r bf bt steps){x:Int}(hx:Hh.W x):Pr (w.setCell ⟨g,32,none⟩ (.int .u32 x)) base g { r with h:=r.h.go x } bf bt steps:=by obtain⟨c,e,I⟩:=I;have:=I.set (i:=32) ab (C9 I.ok x) (I.ok.go hx.1 hx.2);exact⟨_,by rw[<-e];rfl,this⟩
theorem Pr.same (I:Pr w base g r bf bt steps)(o:Bool)(v:Bool):Pr w base g { r with own:=o,over:=v } bf bt steps:=I
theorem fo (I:Pr w base g r bf bt steps)(o:r.Ok)(k:Int)(h0:0<=k)(h1:k<36):Calls prog 185 #[.pointer (some ⟨g,0,none⟩),.int .i64 k] w fun e w'=>e=.returned (.int .u32 (r.get k))/\w'=w:=by
 obtain⟨k,rfl⟩:=apt h0;by_cases h:k<32
 ·have q:=I.reg h;have e:r.get (k:Int)=rg r.h k:=dU;rw[e];generalize rg r.h k=x at *
  go_enter func185,ntmps185;go_wp2;go_ret;exact⟨rfl,rfl⟩
 ·obtain⟨j,rfl⟩:∃j,k=32+j:=⟨k-32,ab⟩;have q:=I.adK o (j:=j) ab;have e:r.get ((32+j:Nat):Int)=r.tm.getD j 0:=by
   unfold Rn.get;rw[ak,show(((32+j:Nat):Int)-32).toNat=j by omega]
  rw[e];generalize r.tm.getD j 0=x at *
  go_enter func185,ntmps185;go_wp2;go_ret;exact⟨rfl,rfl⟩
theorem Ej (I:Pr w base g r bf bt steps)(o:r.Ok)(k x:Int)(h0:0<=k)(h1:k<36)(hx:Hh.W x):Calls prog 187 #[.pointer (some ⟨g,0,none⟩),.int .i64 k,.int .u32 x] w fun e w'=>e=.returned (.tuple #[])/\Pr w' base g (r.put k x) bf bt steps/\Ch g w w':=by
 obtain⟨k,rfl⟩:=apt h0;by_cases h:k<32
 ·have S:Hid (Calls prog 162 #[.pointer (some ⟨g,0,none⟩),.int .i64 k,.int .u32 x] w fun e w'=>e=.returned (.tuple #[])/\Pr w' base g (r.put k x) bf bt steps/\Ch g w w'):=by
   have e:r.put (k:Int) x={ r with h:=r.h.set k x }:=by
    unfold Rn.put;rw[ak,apG]
   rw[e];have:=Gc.yl I k x h0 ab hx.1 hx.2;rw[apG]at this;exact this
  go_enter func187,ntmps187;go_wp2_with fail;refine S.mono ?_;rintro e w' ⟨rfl,I2,C2⟩;have HI2:=kH I2;go_wp2;refine auc (auV results187 _ _ _) rfl ?_;exact⟨rfl,HI2,C2⟩
 ·obtain⟨j,rfl⟩:∃j,k=32+j:=⟨k-32,ab⟩;have q:=I.adK o (j:=j) ab;have f:=I.fz (40+j);have e:r.put ((32+j:Nat):Int) x={ r with tm:=r.tm.set j x }:=by
   unfold Rn.put;rw[dU,show(((32+j:Nat):Int)-32).toNat=j by omega]
  have HJ:Hid (Pr (w.setCell ⟨g,40+j,none⟩ (.int .u32 x)) base g (r.put ((32+j:Nat):Int) x) bf bt steps):=by
   rw[e];exact I.adL o ab x
  generalize r.tm.getD j 0=y at *
  go_enter func187,ntmps187;go_wp2;go_end0;exact⟨rfl,HJ,(Ch.refl g w).setCell _ _⟩
end Mp
end Go.Proofs.YtiadhbmnfjfioaaGreatDoor
