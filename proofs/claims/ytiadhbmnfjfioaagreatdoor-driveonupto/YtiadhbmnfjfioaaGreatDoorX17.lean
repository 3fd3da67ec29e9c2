/- ours -/
import Derived.Test.YtiadhbmnfjfioaaGreatDoorX16
set_option linter.unusedVariables false
set_option linter.unusedSimpArgs false
set_option maxHeartbeats 8000000
set_option maxRecDepth 100000
set_option linter.unusedSectionVars false
namespace Go.Proofs.YtiadhbmnfjfioaaGreatDoor
open Go.Proofs.Tryz hiding d0 d1
open Go.ChangeShapes Go.WideShapes Go.ChangeAt Go.RowKit
variable{ops:Array Oper}{a op rd n:Int}{K:IntKind}{L1:List (List Nat)}{wd:List Nat}{rest:List Oper}{l xs:List Value}{b x t B c k pc x0 x1 N g:Nat}{f:Nat×Nat}{o:Oper}{a1:Option Addr}{w w':World}
namespace Vp
variable[Inhabited Hc.bN]
open Mm Hh Hc Mc Ud As Kc
theorem V6 {y z u:Nat}(h:w.heap[b]?=some (.cells #[.int K x,.int K y,.int K z,.int K u] t f)):Ns K w (some ⟨b,0,none⟩) 4 [x,y,z,u]:=
 ⟨rfl,fun _=>⟨b,0,rfl,(gs h).1,fun i v hi=>by
  match i,hi with
  |0,hi=>
   simp only[apw,auj]at hi;subst hi;exact iE h
  |1,hi=>
   simp only[apI,apw,auj]at hi;subst hi;exact iY h
  |2,hi=>
   simp only[apI,apw,auj]at hi;subst hi;exact E8 h
  |3,hi=>
   simp only[apI,apw,auj]at hi;subst hi;exact QQ h
  |i+4,hi=>simp at hi⟩⟩
theorem yu (h0:0<=a)(h1:a<4294967296):0<=Dc.aO a/\Dc.aO a<=59:=by have:=Dc.kI h0 h1;unfold Dc.aO;split<;>omega
structure Wt (a:Int) (x0 x1 x2 x3 x4:Nat):Prop where
 e0:Dc.aO a=x0
 e1:Dc.iF (Dc.aJ (Dc.aO a)) a=x1
 e2:Dc.bZ (Dc.aJ (Dc.aO a)) a=x2
 e3:Dc.bV (Dc.aJ (Dc.aO a)) a=x3
 e4:Dc.bS (Dc.aJ (Dc.aO a)) a%4294967296=x4
 b0:x0<=1000
 b1:x1<=1000
 b2:x2<=1000
 b3:x3<=1000
 b4:x4<4294967296
theorem Qj (hx:x<4294967296):∃x0 x1 x2 x3 x4,Wt x x0 x1 x2 x3 x4:=by have h1:=wN (Dc.aJ (Dc.aO x)) x;have h2:=Ts.ME (Dc.aJ (Dc.aO x)) x;have h3:=Ts.MF (Dc.aJ (Dc.aO x)) x;have h0:0<=Dc.aO x/\Dc.aO x<=59:=yu ab ab;exact⟨(Dc.aO x).toNat,(Dc.iF (Dc.aJ (Dc.aO x)) x).toNat,(Dc.bZ (Dc.aJ (Dc.aO x)) x).toNat,(Dc.bV (Dc.aJ (Dc.aO x)) x).toNat,(Dc.bS (Dc.aJ (Dc.aO x)) x%4294967296).toNat,⟨ab,ab,ab,ab,ab,ab,ab,ab,ab,ab⟩⟩
theorem abv (hx:x<4294967296)(hd:Dc.aO x≠0)(T:∀{W:World},Gr w W->gz W):Calls prog 50 #[.int .u32 x] w fun e w'=>e=.returned (str (nP [x]))/\Gr w w':=by
 obtain⟨x0,x1,x2,x3,x4,Q⟩:=Qj hx;have ib:=yF (Dc.aJ (Dc.aO x)) (show(0:Int)<=x by omega) (show(x:Int)<4294967296 by omega);have e:nP [x]=bH aIs [x0,x1,x2,x3,x4]:=by
  unfold nP;simp only[at6 hd];rw[Q.e4,Q.e1,Q.e2,Q.e3,Q.e0];simp
 rw[e];have HD:Hid (Calls prog 14 #[.int .u32 x] w fun e w'=>e=.returned (.tuple #[.agg #[.int .i64 (x0:Int),.int .i64 (x1:Int),.int .i64 (x2:Int),.int .i64 (x3:Int),.int .i32 (Dc.bS (Dc.aJ (Dc.aO x)) x)],.bool true])/\Gr w w'):=by
  refine(Dw.jh (x:Int) w (T (Gr.refl _)).tb ab ab).mono fun e w' ⟨he,G⟩=>⟨?_,G.1⟩
  rw[he];unfold Dw.kP Dw.df Dw.fZ;rw[auq hd,Q.e1,Q.e2,Q.e3,Q.e0]
 have q4:=Q.e4;have b0:=Q.b0;have b1:=Q.b1;have b2:=Q.b2;have b3:=Q.b3;have b4:=Q.b4;have HT:Hid (∀{W:World},Gr w W->gz W):=T;clear T Q hd e;generalize Dc.bS (Dc.aJ (Dc.aO x)) x=z4 at *
 have anq:IntKind.u32.wrap z4=(x4:Int):=by rw[IntKind.wrap_u32];omega
 have HJ:Hid (∀(W:World) (b:Nat),Gs W b 3 [[aIs],[dg x0,dg x1,dg x2,dg x3],[dg x4]]->Calls prog 51 #[.slice (some ⟨b,0,none⟩) 3 3] W fun e w'=>e=.returned (str (bH aIs [x0,x1,x2,x3,x4]))/\Gr W w'):=fun W b S=>Xz (k:=[x0,x1,x2,x3]) (l:=[x4]) S an (fun y hy=>by simp only[apx,apB,auw]at hy;rcases hy with rfl|rfl|rfl|rfl<;>omega) (fun y hy=>by rw[apE.1 hy];omega) aq
 generalize str (bH aIs [x0,x1,x2,x3,x4])=TXT at *
 go_enter func50,ntmps50;go_wp2_with fail;refine HD.mono ?_;rintro e w1 ⟨rfl,G1⟩;have aU:=kH G1;go_wp2_with (refine auf rfl 59 _ _ rfl w1.heap.size #[.int .i64 (x0:Int),.int .i64 (x1:Int),.int .i64 (x2:Int),.int .i64 (x3:Int),.int .i32 z4] rfl ar 59 #[.int .i64 0,.int .i64 0,.int .i64 0,.int .i64 0,.int .i32 0] ?r3 Hf.iI rfl (Hf.mZ _ _ _ _ _) ?_;(case r3=>exact at5 w1 _));refine aT (fun W=>W.heap[w1.heap.size]?=some (.cells #[.int .i64 (x0:Int),.int .i64 (x1:Int),.int .i64 (x2:Int),.int .i64 (x3:Int),.int .i32 z4] 59 (0,0))/\Gr w W) ⟨aup _ _ _ _ _ (0,0) (at5 w1 _),ag (aU.alloc _) aU.size _⟩ ?_;generalize w1.heap.size=b5 at *
 rintro w4 ⟨hb,G4⟩;have fC:=kH G4;have y0:=iE hb;have y1:=iY hb;have y2:=E8 hb;have y3:=QQ hb;have y4:=E9 hb;have hw4:=(gs hb).1;have HTI:Hid (∀(W:World) (b t:Nat) (f:Nat×Nat),Gr w4 W->W.heap[b]?=some (.cells #[.int .i64 (x0:Int),.int .i64 (x1:Int),.int .i64 (x2:Int),.int .i64 (x3:Int)] t f)->Calls prog 52 #[.slice (some ⟨b,0,none⟩) 4 4] W fun e w'=>∃a k,e=.returned (.slice a 4 k)/\(Ts w' a 4 [dg x0,dg x1,dg x2,dg x3]/\(a=none->k=0))/\Gr W w'):=fun W b t f G h=>Hq (l:=[x0,x1,x2,x3]) (V6 h) (fun y hy=>by simp only[apx,apB,auw]at hy;rcases hy with rfl|rfl|rfl|rfl<;>omega) ab (HT (fC.trans G))
 have HTP:Hid (∀(W:World) (b t:Nat) (f:Nat×Nat),Gr w4 W->W.heap[b]?=some (.cells #[.int .u32 (x4:Int)] t f)->Calls prog 79 #[.slice (some ⟨b,0,none⟩) 1 1] W fun e w'=>∃a k,e=.returned (.slice a 1 k)/\(Ts w' a 1 [dg x4]/\(a=none->k=0))/\Gr W w'):=fun W b t f G h=>Ht (l:=[x4]) (rq h) (fun y hy=>by rw[apE.1 hy];omega) ab (HT (fC.trans G))
 let Ro:Array Value->TypeId->Nat->Rg.Kd w4.heap.size []:=fun c t n=>Rg.Fa (fun b:Nat=>.slice (some ⟨b,0,none⟩) n n) (fun W b=>W.heap[b]?=some (.cells c t (0,0))) (fun g h=>cu g h)
 let Cal:List (List Nat)->Nat->Rg.Kd w4.heap.size []:=fun L n=>Rg.Fa (fun x:Option Addr×Nat=>.slice x.1 n x.2) (fun W x=>Ts W x.1 n L/\(x.1=none->x.2=0)) (fun g h=>fP h g)
 refine Rg.ve (T:=[]) [Ro #[.string ⟨#[105,115]⟩] 9 1,Rg.Val (.pointer (some ⟨b5,0,none⟩)),Rg.Val (.int .i64 x0),Rg.Val (.pointer (some ⟨b5,1,none⟩)),Rg.Val (.int .i64 x1),Rg.Val (.pointer (some ⟨b5,2,none⟩)),Rg.Val (.int .i64 x2),Rg.Val (.pointer (some ⟨b5,3,none⟩)),Rg.Val (.int .i64 x3),Ro #[.int .i64 (x0:Int),.int .i64 (x1:Int),.int .i64 (x2:Int),.int .i64 (x3:Int)] 3 4,Cal [dg x0,dg x1,dg x2,dg x3] 4,
  Rg.Val (.pointer (some ⟨b5,4,none⟩)),Rg.Val (.int .i32 z4),Rg.Val (.int .u32 x4),Ro #[.int .u32 (x4:Int)] 37 1,Cal [dg x4] 1,Rg.Fa (fun b:Nat=>.slice (some ⟨b,0,none⟩) 3 3) (fun W b=>Gs W b 3 [[aIs],[dg x0,dg x1,dg x2,dg x3],[dg x4]]) (fun g h=>h.of g),Rg.Val TXT,Rg.Val TXT] [[],[],[1],[],[3],[],[5],[],[7],[2,4,6,8],[9],[],[11],[12],[13],[14],[0,10,15],[16],[17]] al al ?_ ?_
 ·simp only[Rg.Rt,Rg.dep,Rg.Ob,Rg.at',Rg.Val,Rg.Fa,Rg.zW,Rg.made,Rg.nS,List.replicate,apH,ap8,apC,apy,apw,apI,Act.put,apl,Rg.inT,au7,Ro,Cal];refine⟨?_,?_,?_,?_,?_,?_,?_,?_,?_,?_,?_,?_,?_,?_,?_,?_,?_,?_,?_,trivial⟩;all_goals intro W hW
  all_goals have q0:=(hW.cell _ (by exact hw4)).trans y0
  all_goals have q1:=(hW.cell _ (by exact hw4)).trans y1
  all_goals have q2:=(hW.cell _ (by exact hw4)).trans y2
  all_goals have q3:=(hW.cell _ (by exact hw4)).trans y3
  all_goals have q4:=(hW.cell _ (by exact hw4)).trans y4
  case refine_11=>
   rintro _ ⟨b,rfl,hb⟩ K hK;go_simp;refine(HTI W _ _ _ hW hb).mono ?_;rintro e w' ⟨a,k,rfl,h,G⟩;exact hK.out _ _ G ⟨(a,k),rfl,h⟩ trivial
  case refine_16=>
   rintro _ ⟨b,rfl,hb⟩ K hK;go_simp;refine(HTP W _ _ _ hW hb).mono ?_;rintro e w' ⟨a,k,rfl,h,G⟩;exact hK.out _ _ G ⟨(a,k),rfl,h⟩ trivial
  case refine_17=>
   rintro _ ⟨b,rfl,hb⟩ _ ⟨⟨a1,k1⟩,rfl,h1⟩ _ ⟨⟨a2,k2⟩,rfl,h2⟩ K hK;have h0:=oP (W:=aIs) hb;go_simp;exact hK.out _ _ br ⟨_,rfl,gs3 (at5 W _) ⟨h0.of br,fun e=>by cases e⟩ (fP h1 br) (fP h2 br)⟩ trivial
  case refine_18=>
   rintro _ ⟨b,rfl,S⟩ K hK;go_simp;refine(HJ W _ S).mono ?_;rintro e w' ⟨rfl,G⟩;exact hK.out _ _ G rfl trivial
  all_goals intros
  all_goals subst_vars
  all_goals rename_i K hK
  all_goals go_simp
  all_goals first|exact hK.out _ _ (Gr.refl _) rfl trivial|exact hK.out _ _ br ⟨_,rfl,at5 _ _⟩ trivial
 ·intro w' G;simp only[Rg.Fin',Rg.Val,Rg.Fa,Rg.zW,ave,Act.put,apl,apC,apy,Ro,Cal];intros;subst_vars;go_wp2_with fail;go_ret;exact⟨rfl,fC.trans G⟩
theorem abw (hx:x<4294967296)(hd:Dc.aO x=0)(T:Dw.nK w):Calls prog 50 #[.int .u32 x] w fun e w'=>e=.returned (str (nP [x]))/\Gr w w':=by
 have e:nP [x]=aNo:=by unfold nP;simp only[at7 hd]
 rw[e];have HD:Hid (Calls prog 14 #[.int .u32 x] w fun e w'=>e=.returned (.tuple #[.agg #[.int .i64 0,.int .i64 0,.int .i64 0,.int .i64 0,.int .i32 0],.bool false])/\Gr w w'):=by
  refine(Dw.jh (x:Int) w T ab ab).mono fun e w' ⟨he,G⟩=>⟨?_,G.1⟩
  rw[he,(Dw.j5 hd).1,(Dw.j5 hd).2];rfl
 go_enter func50,ntmps50;go_wp2_with fail;refine HD.mono ?_;rintro e w1 ⟨rfl,G1⟩;have aU:=kH G1;go_wp2_with (refine auf rfl 59 _ _ rfl w1.heap.size #[.int .i64 0,.int .i64 0,.int .i64 0,.int .i64 0,.int .i32 0] rfl ar 59 #[.int .i64 0,.int .i64 0,.int .i64 0,.int .i64 0,.int .i32 0] ?r3 Hf.iI rfl (Hf.mZ _ _ _ _ _) ?_;(case r3=>exact at5 w1 _));go_ret;exact⟨rfl,ag (aU.alloc _) aU.size _⟩
theorem Qk (hx:x<4294967296)(T:∀{W:World},Gr w W->gz W):Calls prog 50 #[.int .u32 x] w fun e w'=>e=.returned (str (nP [x]))/\Gr w w':=by
 by_cases hd:Dc.aO x=0
 ·exact abw hx hd (T (Gr.refl _)).tb
 ·exact abv hx hd T
end Vp
namespace As
open Mm
theorem bInfo:(prog.info? 74).map (·.size)=some 2:=al
theorem aeV:liesAt prog prog.depth 74 (2/prog.cellsOf 74) 0 74 1=true:=al
theorem xR (h0:w.cell? ⟨b,0,none⟩=some (.pointer none))(hsh:w.shape? b=some (74,2))(hfz:w.frozen? ⟨b,0,none⟩=false):Calls prog 41 #[.pointer (some ⟨b,0,none⟩)] w fun e w'=>e=.returned (.tuple #[])/\w'=w.setCell ⟨b,0,none⟩ (.pointer (some ⟨b,0,none⟩)):=by obtain⟨j,hj,hjs⟩:=aqv.1 bInfo;go_enter func41,ntmps41;go_wp2;rw[Lib.run_to_unsafe w ⟨b,0,none⟩ underlying72 underlying162 hj (by rw[hjs];decide) hsh (Nat.zero_lt_succ 1)];simp only[Result.andThen];rw[Oper.upon_value];go_wp2;rw[run_callFunc_extern func74 al al al (e:=Extern.AbiNoEscape.same) al,Lib.run_noEscape];simp only[Result.andThen];rw[Oper.upon_value];go_wp2;rw[Lib.run_from_unsafe w ⟨b,0,none⟩ underlying162 underlying72 hj hsh aeV];simp only[Result.andThen];rw[Oper.upon_value];go_wp2;go_end0;exact⟨rfl,rfl⟩
theorem xS (h0:w.cell? ⟨b,0,none⟩=some (.pointer (some ⟨b,0,none⟩))):Calls prog 41 #[.pointer (some ⟨b,0,none⟩)] w fun e w'=>e=.returned (.tuple #[])/\w'=w:=by obtain⟨j,hj,_⟩:=aqv.1 bInfo;go_enter func41,ntmps41;go_wp2;rw[Lib.run_neq_ptr_same w _ underlying72 hj];go_wp2;go_end0;exact⟨rfl,rfl⟩
abbrev Bq (B b:Nat) (l:List UInt8) (w:World):Prop:=Lib.IsBuilderF 74 5 B b (Lib.byteCells l) w
theorem Kq {bs:List Value}(h:Lib.IsBuilderF 74 5 B b bs w):Calls prog 41 #[.pointer (some ⟨b,0,none⟩)] w fun e w'=>e=.returned (.tuple #[])/\Lib.BuilderAtF 74 5 B b (.pointer (some ⟨b,0,none⟩)) bs w'/\Below B w w'/\Lib.OthersKept 5 (some b) w w':=by
 rcases h with h|h
 ·refine(xR h.cell0 h.shape h.frozen0).mono ?_;rintro e w' ⟨rfl,rfl⟩;exact⟨rfl,h.used _,(auC B w).setCell (p:=⟨b,0,none⟩) h.1 _,(Lib.OthersKept.refl _ _ w).setCell ⟨b,0,none⟩ rfl _⟩
 ·refine(xS h.cell0).mono ?_;rintro e w' ⟨rfl,rfl⟩;exact⟨rfl,h,auC B _,Lib.OthersKept.refl _ _ _⟩
theorem Kt {bs:List Value}(s:ByteArray)(h:Lib.IsBuilderF 74 5 B b bs w)(hlen:bs.length+s.size<=140737488355328)(hBw:B<=w.heap.size):Calls prog 19 #[.pointer (some ⟨b,0,none⟩),.string s] w fun e w'=>e=.returned (.tuple #[.int .i64 s.size,.nilIface])/\Lib.IsBuilderF 74 5 B b (bs++Lib.strCells s) w'/\Below B w w'/\Lib.OthersKept 5 (some b) w w':=by
 obtain⟨i0,hi,hz0,hz1,hz2⟩:=auz Mm.info5;have H:=kH (Kq h);clear h;go_enter func19,ntmps19;go_wp2_with fail;refine H.mono ?_;rintro e w1 ⟨rfl,h1,hb1,hk1⟩;obtain⟨hB,v,hbk,hown,hne⟩:=h1;have c0:w1.cell? ⟨b,0,none⟩=some (.pointer (some ⟨b,0,none⟩)):=(cr hbk).trans rfl;have c1:w1.cell? ⟨b,1,none⟩=some v:=(cr hbk).trans rfl;go_wp2_with (at_builtin;refine Lib.wpList_append_own_stringF _ rfl _ _ 25 9 rfl B 5 i0 underlying25 underlying9 hi hz0 hz1 hz2 _ _ _ rfl hown s rfl ?c3 ?c4 ?c5 ?_)
 case c3=>unfold maxLen;omega
 case c4=>omega
 case c5=>have:=hb1.size;omega
 intro v' w2 hown' hgrow _;have hlt:b<w1.heap.size:=(gs hbk).1;have hb2:w2.heap[b]?=some (.cells #[.pointer (some ⟨b,0,none⟩),v] 74 (0,0)):=by
  rw[hgrow.block b hlt (fun e=>hne e.symm)];exact hbk
 have d0:w2.cell? ⟨b,0,none⟩=some (.pointer (some ⟨b,0,none⟩)):=(cr hb2).trans rfl;have d1:w2.cell? ⟨b,1,none⟩=some v:=(cr hb2).trans rfl;have f1:w2.frozen? ⟨b,1,none⟩=false:=lh hb2;obtain⟨ao,n',cap,rfl⟩:∃ao n' cap,v'=.slice ao n' cap:=by
  rcases hown'.2 with⟨hv,_⟩|⟨g,cap,cur,fz,hv,_⟩
  ·exact⟨_,_,_,hv⟩
  ·exact⟨_,_,_,hv⟩
 go_wp2;go_ret2;refine⟨rfl,.inr ?_,?_,(hk1.grown hgrow (Lib.ownsRowF_kind hown)).setCell ⟨b,1,none⟩ rfl _⟩
 ·exact Lib.BuilderAtF.put hB hb2 (bs':=bs++Lib.strCells s) (by simpa[Lib.strCells_length]using hown') an
 ·exact(hb1.grown hgrow (by have:=hb1.size;omega) (fun k hk=>(hown.lt k hk).1)).setCell (p:=⟨b,1,none⟩) hB _
theorem aF {b:Int}(h1:a<=op)(h2:op<=b)(w:World):Calls prog 94 #[.int .i64 op,.int .i64 a,.int .i64 b] w fun e w'=>e=.returned (.bool true)/\w=w':=by go_enter func94,ntmps94;go_wp2;go_ret;exact⟨rfl,rfl⟩
theorem ai {b:Int}(h:op<a\/b<op)(w:World):Calls prog 94 #[.int .i64 op,.int .i64 a,.int .i64 b] w fun e w'=>e=.returned (.bool false)/\w=w':=by
 by_cases h1:a<=op
 ·have h2:¬op<=b:=ab;go_enter func94,ntmps94;go_wp2;go_ret;exact⟨rfl,rfl⟩
 ·clear h;go_enter func94,ntmps94;go_wp2;go_ret;exact⟨rfl,rfl⟩
theorem Ql (h1:1<=op)(h2:op<=2)(w:World):Calls prog 67 #[.int .i64 op] w fun e w'=>e=.returned (str (jU op))/\w=w':=by rw[acx ab];have H0:=kH (aF h1 h2);go_enter func67,ntmps67;go_wp2_with fail;refine(H0 _).mono ?_;rintro e _ ⟨rfl,rfl⟩;go_wp2_with fail;go_ret;exact⟨rfl,rfl⟩
theorem Qm (h:op=3)(w:World):Calls prog 67 #[.int .i64 op] w fun e w'=>e=.returned (str (jU op))/\w=w':=by
 rw[acy ab];have H0:Hid (∀w:World,Calls prog 94 #[.int .i64 op,.int .i64 1,.int .i64 2] w fun e w'=>e=.returned (.bool false)/\w=w'):=ai ab;have e3:(op ==3)=true:=by simp;omega
 clear h;go_enter func67,ntmps67;go_wp2_with fail;refine(H0 _).mono ?_;rintro e _ ⟨rfl,rfl⟩;go_wp2_with fail;go_ret;exact⟨rfl,rfl⟩
theorem Qn (h:op=4)(w:World):Calls prog 67 #[.int .i64 op] w fun e w'=>e=.returned (str (jU op))/\w=w':=by
 rw[RH (by unfold F2;omega)];have H0:Hid (∀w:World,Calls prog 94 #[.int .i64 op,.int .i64 1,.int .i64 2] w fun e w'=>e=.returned (.bool false)/\w=w'):=ai ab;have e3:(op ==3)=false:=by simp;omega
 have e4:(op ==4)=true:=by simp;omega
 clear h;go_enter func67,ntmps67;go_wp2_with fail;refine(H0 _).mono ?_;rintro e _ ⟨rfl,rfl⟩;go_wp2_with fail;go_ret;exact⟨rfl,rfl⟩
theorem Qo (h1:19<=op)(h2:op<=27)(w:World):Calls prog 67 #[.int .i64 op] w fun e w'=>e=.returned (str (jU op))/\w=w':=by
 rw[RH (by unfold F2;omega)];have H0:Hid (∀w:World,Calls prog 94 #[.int .i64 op,.int .i64 1,.int .i64 2] w fun e w'=>e=.returned (.bool false)/\w=w'):=ai ab;have e3:(op ==3)=false:=by simp;omega
 have e4:(op ==4)=false:=by simp;omega
 have H3:=kH (aF h1 h2);go_enter func67,ntmps67;go_wp2_with fail;refine(H0 _).mono ?_;rintro e _ ⟨rfl,rfl⟩;go_wp2_with fail;refine(H3 _).mono ?_;rintro e _ ⟨rfl,rfl⟩;go_wp2_with fail;go_ret;exact⟨rfl,rfl⟩
theorem Qp (h:op=57)(w:World):Calls prog 67 #[.int .i64 op] w fun e w'=>e=.returned (str (jU op))/\w=w':=by
 rw[RH (by unfold F2;omega)];have H0:Hid (∀w:World,Calls prog 94 #[.int .i64 op,.int .i64 1,.int .i64 2] w fun e w'=>e=.returned (.bool false)/\w=w'):=ai ab;have e3:(op ==3)=false:=by simp;omega
 have e4:(op ==4)=false:=by simp;omega
 have H3:Hid (∀w:World,Calls prog 94 #[.int .i64 op,.int .i64 19,.int .i64 27] w fun e w'=>e=.returned (.bool false)/\w=w'):=ai ab;have e57:(op ==57)=true:=by simp;omega
 clear h;go_enter func67,ntmps67;go_wp2_with fail;refine(H0 _).mono ?_;rintro e _ ⟨rfl,rfl⟩;go_wp2_with fail;refine(H3 _).mono ?_;rintro e _ ⟨rfl,rfl⟩;go_wp2_with fail;go_ret;exact⟨rfl,rfl⟩
theorem Qq (h1:5<=op)(h2:op<=10)(w:World):Calls prog 67 #[.int .i64 op] w fun e w'=>e=.returned (str (jU op))/\w=w':=by
 rw[acz ab];have H0:Hid (∀w:World,Calls prog 94 #[.int .i64 op,.int .i64 1,.int .i64 2] w fun e w'=>e=.returned (.bool false)/\w=w'):=ai ab;have e3:(op ==3)=false:=by simp;omega
 have e4:(op ==4)=false:=by simp;omega
 have H3:Hid (∀w:World,Calls prog 94 #[.int .i64 op,.int .i64 19,.int .i64 27] w fun e w'=>e=.returned (.bool false)/\w=w'):=ai ab;have e57:(op ==57)=false:=by simp;omega
 have H5:=kH (aF h1 h2);go_enter func67,ntmps67;go_wp2_with fail;refine(H0 _).mono ?_;rintro e _ ⟨rfl,rfl⟩;go_wp2_with fail;refine(H3 _).mono ?_;rintro e _ ⟨rfl,rfl⟩;go_wp2_with fail;refine(H5 _).mono ?_;rintro e _ ⟨rfl,rfl⟩;go_wp2_with fail;go_ret;exact⟨rfl,rfl⟩
theorem Qr (h1:11<=op)(h2:op<=15)(w:World):Calls prog 67 #[.int .i64 op] w fun e w'=>e=.returned (str (jU op))/\w=w':=by
 rw[acA ab];have H0:Hid (∀w:World,Calls prog 94 #[.int .i64 op,.int .i64 1,.int .i64 2] w fun e w'=>e=.returned (.bool false)/\w=w'):=ai ab;have e3:(op ==3)=false:=by simp;omega
 have e4:(op ==4)=false:=by simp;omega
 have H3:Hid (∀w:World,Calls prog 94 #[.int .i64 op,.int .i64 19,.int .i64 27] w fun e w'=>e=.returned (.bool false)/\w=w'):=ai ab;have e57:(op ==57)=false:=by simp;omega
 have H5:Hid (∀w:World,Calls prog 94 #[.int .i64 op,.int .i64 5,.int .i64 10] w fun e w'=>e=.returned (.bool false)/\w=w'):=ai ab;have H6:=kH (aF h1 h2);go_enter func67,ntmps67;go_wp2_with fail;refine(H0 _).mono ?_;rintro e _ ⟨rfl,rfl⟩;go_wp2_with fail;refine(H3 _).mono ?_;rintro e _ ⟨rfl,rfl⟩;go_wp2_with fail;refine(H5 _).mono ?_;rintro e _ ⟨rfl,rfl⟩;go_wp2_with fail;refine(H6 _).mono ?_;rintro e _ ⟨rfl,rfl⟩;go_wp2_with fail;go_ret;exact⟨rfl,rfl⟩
theorem Qs (h1:16<=op)(h2:op<=18)(w:World):Calls prog 67 #[.int .i64 op] w fun e w'=>e=.returned (str (jU op))/\w=w':=by
 rw[acB ab];have H0:Hid (∀w:World,Calls prog 94 #[.int .i64 op,.int .i64 1,.int .i64 2] w fun e w'=>e=.returned (.bool false)/\w=w'):=ai ab;have e3:(op ==3)=false:=by simp;omega
 have e4:(op ==4)=false:=by simp;omega
 have H3:Hid (∀w:World,Calls prog 94 #[.int .i64 op,.int .i64 19,.int .i64 27] w fun e w'=>e=.returned (.bool false)/\w=w'):=ai ab;have e57:(op ==57)=false:=by simp;omega
 have H5:Hid (∀w:World,Calls prog 94 #[.int .i64 op,.int .i64 5,.int .i64 10] w fun e w'=>e=.returned (.bool false)/\w=w'):=ai ab;have H6:Hid (∀w:World,Calls prog 94 #[.int .i64 op,.int .i64 11,.int .i64 15] w fun e w'=>e=.returned (.bool false)/\w=w'):=ai ab;have H7:=kH (aF h1 h2);go_enter func67,ntmps67;go_wp2_with fail;refine(H0 _).mono ?_;rintro e _ ⟨rfl,rfl⟩;go_wp2_with fail;refine(H3 _).mono ?_;rintro e _ ⟨rfl,rfl⟩;go_wp2_with fail;refine(H5 _).mono ?_;rintro e _ ⟨rfl,rfl⟩;go_wp2_with fail;refine(H6 _).mono ?_;rintro e _ ⟨rfl,rfl⟩;go_wp2_with fail;refine(H7 _).mono ?_;rintro e _ ⟨rfl,rfl⟩;go_wp2_with fail;go_ret;exact⟨rfl,rfl⟩
theorem Qt (h1:28<=op)(h2:op<=45)(w:World):Calls prog 67 #[.int .i64 op] w fun e w'=>e=.returned (str (jU op))/\w=w':=by
 rw[acC ab];have H0:Hid (∀w:World,Calls prog 94 #[.int .i64 op,.int .i64 1,.int .i64 2] w fun e w'=>e=.returned (.bool false)/\w=w'):=ai ab;have e3:(op ==3)=false:=by simp;omega
 have e4:(op ==4)=false:=by simp;omega
 have H3:Hid (∀w:World,Calls prog 94 #[.int .i64 op,.int .i64 19,.int .i64 27] w fun e w'=>e=.returned (.bool false)/\w=w'):=ai ab;have e57:(op ==57)=false:=by simp;omega
 have H5:Hid (∀w:World,Calls prog 94 #[.int .i64 op,.int .i64 5,.int .i64 10] w fun e w'=>e=.returned (.bool false)/\w=w'):=ai ab;have H6:Hid (∀w:World,Calls prog 94 #[.int .i64 op,.int .i64 11,.int .i64 15] w fun e w'=>e=.returned (.bool false)/\w=w'):=ai ab;have H7:Hid (∀w:World,Calls prog 94 #[.int .i64 op,.int .i64 16,.int .i64 18] w fun e w'=>e=.returned (.bool false)/\w=w'):=ai ab;have H8:=kH (aF h1 h2);go_enter func67,ntmps67;go_wp2_with fail;refine(H0 _).mono ?_;rintro e _ ⟨rfl,rfl⟩;go_wp2_with fail;refine(H3 _).mono ?_;rintro e _ ⟨rfl,rfl⟩;go_wp2_with fail;refine(H5 _).mono ?_;rintro e _ ⟨rfl,rfl⟩;go_wp2_with fail;refine(H6 _).mono ?_;rintro e _ ⟨rfl,rfl⟩;go_wp2_with fail;refine(H7 _).mono ?_;rintro e _ ⟨rfl,rfl⟩;go_wp2_with fail;refine(H8 _).mono ?_;rintro e _ ⟨rfl,rfl⟩;go_wp2_with fail;go_ret;exact⟨rfl,rfl⟩
theorem Qu (h:op=46)(w:World):Calls prog 67 #[.int .i64 op] w fun e w'=>e=.returned (str (jU op))/\w=w':=by
 rw[acD ab];have H0:Hid (∀w:World,Calls prog 94 #[.int .i64 op,.int .i64 1,.int .i64 2] w fun e w'=>e=.returned (.bool false)/\w=w'):=ai ab;have e3:(op ==3)=false:=by simp;omega
 have e4:(op ==4)=false:=by simp;omega
 have H3:Hid (∀w:World,Calls prog 94 #[.int .i64 op,.int .i64 19,.int .i64 27] w fun e w'=>e=.returned (.bool false)/\w=w'):=ai ab;have e57:(op ==57)=false:=by simp;omega
 have H5:Hid (∀w:World,Calls prog 94 #[.int .i64 op,.int .i64 5,.int .i64 10] w fun e w'=>e=.returned (.bool false)/\w=w'):=ai ab;have H6:Hid (∀w:World,Calls prog 94 #[.int .i64 op,.int .i64 11,.int .i64 15] w fun e w'=>e=.returned (.bool false)/\w=w'):=ai ab;have H7:Hid (∀w:World,Calls prog 94 #[.int .i64 op,.int .i64 16,.int .i64 18] w fun e w'=>e=.returned (.bool false)/\w=w'):=ai ab;have H8:Hid (∀w:World,Calls prog 94 #[.int .i64 op,.int .i64 28,.int .i64 45] w fun e w'=>e=.returned (.bool false)/\w=w'):=ai ab;have e46:(op ==46)=true:=by simp;omega
 clear h;go_enter func67,ntmps67;go_wp2_with fail;refine(H0 _).mono ?_;rintro e _ ⟨rfl,rfl⟩;go_wp2_with fail;refine(H3 _).mono ?_;rintro e _ ⟨rfl,rfl⟩;go_wp2_with fail;refine(H5 _).mono ?_;rintro e _ ⟨rfl,rfl⟩;go_wp2_with fail;refine(H6 _).mono ?_;rintro e _ ⟨rfl,rfl⟩;go_wp2_with fail;refine(H7 _).mono ?_;rintro e _ ⟨rfl,rfl⟩;go_wp2_with fail;refine(H8 _).mono ?_;rintro e _ ⟨rfl,rfl⟩;go_wp2_with fail;go_ret;exact⟨rfl,rfl⟩
theorem Ku (h1:47<=op)(h2:op<=56)(w:World):Calls prog 67 #[.int .i64 op] w fun e w'=>e=.returned (str (jU op))/\w=w':=by
 rw[acE ab];have H0:Hid (∀w:World,Calls prog 94 #[.int .i64 op,.int .i64 1,.int .i64 2] w fun e w'=>e=.returned (.bool false)/\w=w'):=ai ab;have e3:(op ==3)=false:=by simp;omega
 have e4:(op ==4)=false:=by simp;omega
 have H3:Hid (∀w:World,Calls prog 94 #[.int .i64 op,.int .i64 19,.int .i64 27] w fun e w'=>e=.returned (.bool false)/\w=w'):=ai ab;have e57:(op ==57)=false:=by simp;omega
 have H5:Hid (∀w:World,Calls prog 94 #[.int .i64 op,.int .i64 5,.int .i64 10] w fun e w'=>e=.returned (.bool false)/\w=w'):=ai ab;have H6:Hid (∀w:World,Calls prog 94 #[.int .i64 op,.int .i64 11,.int .i64 15] w fun e w'=>e=.returned (.bool false)/\w=w'):=ai ab;have H7:Hid (∀w:World,Calls prog 94 #[.int .i64 op,.int .i64 16,.int .i64 18] w fun e w'=>e=.returned (.bool false)/\w=w'):=ai ab;have H8:Hid (∀w:World,Calls prog 94 #[.int .i64 op,.int .i64 28,.int .i64 45] w fun e w'=>e=.returned (.bool false)/\w=w'):=ai ab;have e46:(op ==46)=false:=by simp;omega
 have H10:=kH (aF h1 h2);go_enter func67,ntmps67;go_wp2_with fail;refine(H0 _).mono ?_;rintro e _ ⟨rfl,rfl⟩;go_wp2_with fail;refine(H3 _).mono ?_;rintro e _ ⟨rfl,rfl⟩;go_wp2_with fail;refine(H5 _).mono ?_;rintro e _ ⟨rfl,rfl⟩;go_wp2_with fail;refine(H6 _).mono ?_;rintro e _ ⟨rfl,rfl⟩;go_wp2_with fail;refine(H7 _).mono ?_;rintro e _ ⟨rfl,rfl⟩;go_wp2_with fail;refine(H8 _).mono ?_;rintro e _ ⟨rfl,rfl⟩;go_wp2_with fail;refine(H10 _).mono ?_;rintro e _ ⟨rfl,rfl⟩;go_wp2_with fail;go_ret;exact⟨rfl,rfl⟩
theorem Qw (h:op<1\/58<=op)(w:World):Calls prog 67 #[.int .i64 op] w fun e w'=>e=.returned (str (jU op))/\w=w':=by
 rw[acF h];have H0:Hid (∀w:World,Calls prog 94 #[.int .i64 op,.int .i64 1,.int .i64 2] w fun e w'=>e=.returned (.bool false)/\w=w'):=ai ab;have e3:(op ==3)=false:=by simp;omega
 have e4:(op ==4)=false:=by simp;omega
 have H3:Hid (∀w:World,Calls prog 94 #[.int .i64 op,.int .i64 19,.int .i64 27] w fun e w'=>e=.returned (.bool false)/\w=w'):=ai ab;have e57:(op ==57)=false:=by simp;omega
 have H5:Hid (∀w:World,Calls prog 94 #[.int .i64 op,.int .i64 5,.int .i64 10] w fun e w'=>e=.returned (.bool false)/\w=w'):=ai ab;have H6:Hid (∀w:World,Calls prog 94 #[.int .i64 op,.int .i64 11,.int .i64 15] w fun e w'=>e=.returned (.bool false)/\w=w'):=ai ab;have H7:Hid (∀w:World,Calls prog 94 #[.int .i64 op,.int .i64 16,.int .i64 18] w fun e w'=>e=.returned (.bool false)/\w=w'):=ai ab;have H8:Hid (∀w:World,Calls prog 94 #[.int .i64 op,.int .i64 28,.int .i64 45] w fun e w'=>e=.returned (.bool false)/\w=w'):=ai ab;have e46:(op ==46)=false:=by simp;omega
 have H10:Hid (∀w:World,Calls prog 94 #[.int .i64 op,.int .i64 47,.int .i64 56] w fun e w'=>e=.returned (.bool false)/\w=w'):=ai ab;go_enter func67,ntmps67;go_wp2_with fail;refine(H0 _).mono ?_;rintro e _ ⟨rfl,rfl⟩;go_wp2_with fail;refine(H3 _).mono ?_;rintro e _ ⟨rfl,rfl⟩;go_wp2_with fail;refine(H5 _).mono ?_;rintro e _ ⟨rfl,rfl⟩;go_wp2_with fail;refine(H6 _).mono ?_;rintro e _ ⟨rfl,rfl⟩;go_wp2_with fail;refine(H7 _).mono ?_;rintro e _ ⟨rfl,rfl⟩;go_wp2_with fail;refine(H8 _).mono ?_;rintro e _ ⟨rfl,rfl⟩;go_wp2_with fail;refine(H10 _).mono ?_;rintro e _ ⟨rfl,rfl⟩;go_wp2_with fail;go_ret;exact⟨rfl,rfl⟩
theorem Kv (op:Int)(w:World):Calls prog 67 #[.int .i64 op] w fun e w'=>e=.returned (str (jU op))/\w=w':=by
 by_cases c0:1<=op/\op<=2
 ·exact Ql c0.1 c0.2 w
 by_cases c1:op=3
 ·exact Qm c1 w
 by_cases c2:op=4
 ·exact Qn c2 w
 by_cases c3:19<=op/\op<=27
 ·exact Qo c3.1 c3.2 w
 by_cases c4:op=57
 ·exact Qp c4 w
 by_cases c5:5<=op/\op<=10
 ·exact Qq c5.1 c5.2 w
 by_cases c6:11<=op/\op<=15
 ·exact Qr c6.1 c6.2 w
 by_cases c7:16<=op/\op<=18
 ·exact Qs c7.1 c7.2 w
 by_cases c8:28<=op/\op<=45
 ·exact Qt c8.1 c8.2 w
 by_cases c9:op=46
 ·exact Qu c9 w
 by_cases c10:47<=op/\op<=56
 ·exact Ku c10.1 c10.2 w
 exact Qw ab w
theorem abx (op:Int):∀c∈jU op,c=100\/c=115\/c=116\/c=105\/c=117\/c=44\/c=40\/c=41:=by
 unfold jU;repeat' split
 all_goals decide
theorem zM (op:Int):(jU op).length<=7:=by
 unfold jU;repeat' split
 all_goals decide
abbrev df (f:Fi):Value:=.agg #[.int .i64 f.1,.int .i64 f.2.1,.int .i64 f.2.2.1,.int .i64 f.2.2.2.1,.int .i32 f.2.2.2.2]
structure Ic (rd a b n:Int):Prop where
 d0:0<=rd
 d1:rd<=31
 a0:0<=a
 a1:a<=31
 b0:0<=b
 b1:b<=31
 n0 : -2147483648<=n
 n1:n<2147483648
theorem Ic.of {b:Int}(h:Re.XK op rd a b n)(n0 : -2147483648<=n)(n1:n<2147483648):Ic rd a b n:=⟨h.1.2.2.1,h.1.2.2.2.1,h.1.2.2.2.2.1,h.1.2.2.2.2.2.1,h.1.2.2.2.2.2.2.1,h.1.2.2.2.2.2.2.2,n0,n1⟩
theorem Qx {b:Int}(R:Ic rd a b n)(T:gz w):Calls prog 68 #[.agg #[.int .i64 op,.int .i64 rd,.int .i64 a,.int .i64 b,.int .i32 n],.int .i32 100] w fun e w'=>e=.returned (str (rg rd))/\Gr w w':=by
 have HC:Hid (∀w:World,gz w->Calls prog 95 #[.int .i64 rd] w fun e w'=>e=.returned (str (rg rd))/\Gr w w'):=fun w T=>kJ (by have:=R.d0;omega) (by have:=R.d1;omega) T
 have HT:=kH T;have n0:=R.n0;have n1:=R.n1;generalize str (rg rd)=V at *
 go_enter func68,ntmps68;go_wp2_with fail;refine(HC _ (HT.of br)).mono ?_;rintro e w1 ⟨rfl,G1⟩;go_wp2_with fail;go_ret;exact⟨rfl,br.trans G1⟩
theorem Qy {b:Int}(R:Ic rd a b n)(T:gz w):Calls prog 68 #[.agg #[.int .i64 op,.int .i64 rd,.int .i64 a,.int .i64 b,.int .i32 n],.int .i32 115] w fun e w'=>e=.returned (str (rg a))/\Gr w w':=by
 have HC:Hid (∀w:World,gz w->Calls prog 95 #[.int .i64 a] w fun e w'=>e=.returned (str (rg a))/\Gr w w'):=fun w T=>kJ (by have:=R.a0;omega) (by have:=R.a1;omega) T
 have HT:=kH T;have n0:=R.n0;have n1:=R.n1;generalize str (rg a)=V at *
 go_enter func68,ntmps68;go_wp2_with fail;refine(HC _ (HT.of br)).mono ?_;rintro e w1 ⟨rfl,G1⟩;go_wp2_with fail;go_ret;exact⟨rfl,br.trans G1⟩
theorem Qz {b:Int}(R:Ic rd a b n)(T:gz w):Calls prog 68 #[.agg #[.int .i64 op,.int .i64 rd,.int .i64 a,.int .i64 b,.int .i32 n],.int .i32 116] w fun e w'=>e=.returned (str (rg b))/\Gr w w':=by
 have HC:Hid (∀w:World,gz w->Calls prog 95 #[.int .i64 b] w fun e w'=>e=.returned (str (rg b))/\Gr w w'):=fun w T=>kJ (by have:=R.b0;omega) (by have:=R.b1;omega) T
 have HT:=kH T;have n0:=R.n0;have n1:=R.n1;generalize str (rg b)=V at *
 go_enter func68,ntmps68;go_wp2_with fail;refine(HC _ (HT.of br)).mono ?_;rintro e w1 ⟨rfl,G1⟩;go_wp2_with fail;go_ret;exact⟨rfl,br.trans G1⟩
theorem QB {b:Int}(R:Ic rd a b n)(T:gz w):Calls prog 68 #[.agg #[.int .i64 op,.int .i64 rd,.int .i64 a,.int .i64 b,.int .i32 n],.int .i32 105] w fun e w'=>e=.returned (str (num n))/\Gr w w':=by
 have HC:Hid (∀w:World,gz w->Calls prog 96 #[.int .i64 n] w fun e w'=>e=.returned (str (num n))/\Gr w w'):=fun w T=>tH (by have:=R.n0;omega) (by have:=R.n1;omega) T
 have HT:=kH T;have n0:=R.n0;have n1:=R.n1;generalize str (num n)=V at *
 go_enter func68,ntmps68;go_wp2_with fail;refine(HC _ (HT.of br)).mono ?_;rintro e w1 ⟨rfl,G1⟩;go_wp2_with fail;go_ret;exact⟨rfl,br.trans G1⟩
theorem QC {b:Int}(R:Ic rd a b n)(T:gz w):Calls prog 68 #[.agg #[.int .i64 op,.int .i64 rd,.int .i64 a,.int .i64 b,.int .i32 n],.int .i32 117] w fun e w'=>e=.returned (str (num (n/4096)))/\Gr w w':=by
 have HC:Hid (∀w:World,gz w->Calls prog 96 #[.int .i64 (n/4096)] w fun e w'=>e=.returned (str (num (n/4096)))/\Gr w w'):=fun w T=>tH (by have:=R.n0;omega) (by have:=R.n1;omega) T
 have HT:=kH T;have n0:=R.n0;have n1:=R.n1;generalize str (num (n/4096))=V at *
 go_enter func68,ntmps68;go_wp2_with fail;refine(HC _ (HT.of br)).mono ?_;rintro e w1 ⟨rfl,G1⟩;go_wp2_with fail;go_ret;exact⟨rfl,br.trans G1⟩
theorem pI {b:Int}(R:Ic rd a b n)(T:gz w)(hc:c=100\/c=115\/c=116\/c=105\/c=117\/c=44\/c=40\/c=41):Calls prog 68 #[.agg #[.int .i64 op,.int .i64 rd,.int .i64 a,.int .i64 b,.int .i32 n],.int .i32 (c:Int)] w fun e w'=>e=.returned (str (dA rd a b n c))/\Gr w w':=by
 rcases hc with rfl|rfl|rfl|rfl|rfl|hc
 ·exact Qx R T
 ·exact Qy R T
 ·exact Qz R T
 ·exact QB R T
 ·exact QC R T
 ·clear T R;rcases hc with rfl|rfl|rfl
  all_goals
   go_enter func68,ntmps68;go_wp2_with fail;go_ret;exact⟨rfl,(Gr.refl _).alloc _⟩
end As
namespace As
open Mm
theorem upA (g:Gr w w'){x:Obj}(h:w.heap[k]?=some x):w'.heap[k]?=some x:=by rw[au1 g k (gs h).1];exact h
end As
namespace As
open Mm
theorem V7 {T e:TypeId}{bs:List Value}(h:Lib.IsBuilderF T e B b bs w)(G:Gr w w'):Lib.IsBuilderF T e B b bs w':=by
 have one:∀p,Lib.BuilderAtF T e B b p bs w->Lib.BuilderAtF T e B b p bs w':=fun p ⟨hB,v,hb,hown,hne⟩=>
  ⟨hB,v,(au1 G b (gs hb).1).trans hb,hown.kept (row:=none) ⟨G.os,G.tape,G.output,G.size,fun k hk _=>au1 G k hk⟩ (by cases v.ownBlock<;>simp),hne⟩
 exact h.elim (fun x=>.inl (one _ x)) (fun x=>.inr (one _ x))
theorem _root_.Go.Proofs.YtiadhbmnfjfioaaGreatDoor.Mm.Gr.trans' {a b c:World}(h:Gr a b)(k:Below (a.heap.size+1) b c):Gr a c:=auI h (aun k ab)
theorem Kz (L:List Nat)(f:Nat->List Nat)(p:Nat)(h:p<L.length):(L.take (p+1)).flatMap f=(L.take p).flatMap f++f L[p]:=by rw[apU,api h,List.flatMap_append];simp only[Option.toList_some,apL,aqg,apz]
theorem QD {b:Int}(R:Ic rd a b n)(c:Nat):(dA rd a b n c).length<=30:=by
 have h:=R;obtain⟨d0,d1,a0,a1,b0,b1,n0,n1⟩:=h;have l1:=mQ (n:=rd) ab ab;have l2:=mQ (n:=a) ab ab;have l3:=mQ (n:=b) ab ab;have l4:=mQ (n:=n) ab ab;have l5:=mQ (n:=n/4096) ab ab;unfold dA rg;repeat' split
 all_goals simp<;>omega
theorem qo {rd a b n:Int}(R:Ic rd a b n):∀l:List Nat,(l.flatMap (dA rd a b n)).length≤30*l.length
 | []=>aq
 |c::l=>by
  have:=qo R l;have:=QD R c;simp only[apL,apo,apH];omega
theorem jG {b:Int}(R:Ic rd a b n)(T:gz w):Calls prog 33 #[.agg #[.int .i64 op,.int .i64 rd,.int .i64 a,.int .i64 b,.int .i32 n]] w fun e w'=>e=.returned (str (nV op rd a b n))/\Gr w w':=by
 have HS:=kH (Kv op);have HR:=kH R;have HT:=kH T;have hch:=kH (abx op);have hln:=kH (zM op);unfold nV;generalize jU op=S at *
 go_enter func33,ntmps33;go_wp2_with fail;refine(HS _).mono ?_;rintro e _ ⟨rfl,rfl⟩;rw[show str S=.string (bs S)from rfl];go_wp2_with fail;go_loopw [] (fun wr=>∃(pos:Nat),pos<=S.length/\Lib.IsBuilderF 74 5 (w.heap.size+1) (w.heap.size+1) (Lib.byteCells (((S.take pos).flatMap (dA rd a b n)).map UInt8.ofNat)) wr/\wr.heap[w.heap.size+1+1]?=some (.stringIter (bs S) pos)/\wr.heap[w.heap.size]?=some (.cells #[.int .i64 op,.int .i64 rd,.int .i64 a,.int .i64 b,.int .i32 n] 59 (0,0))/\Gr w wr) (fun wr=>(bs S).size-wr.iterPos (w.heap.size+1+1))
 case atStart=>
  refine⟨0,apF _,?_,?_,?_,(((Gr.refl w).alloc _).alloc _).alloc _⟩
  ·have:=(Lib.IsBuilderF.of (Lib.fresh_isBuilder 74 5 (w.alloc (.cells #[.int .i64 op,.int .i64 rd,.int .i64 a,.int .i64 b,.int .i32 n] 59)))).alloc (.stringIter (bs S) 0);rw[show(w.alloc (.cells #[.int .i64 op,.int .i64 rd,.int .i64 a,.int .i64 b,.int .i32 n] 59)).heap.size=w.heap.size+1 by simp]at this;exact this
  ·have:=World.iter_heap ((w.alloc (.cells #[.int .i64 op,.int .i64 rd,.int .i64 a,.int .i64 b,.int .i32 n] 59)).alloc (.cells #[.pointer none,.slice none 0 0] 74)) (bs S) 0;simpa using this
  ·show(((w.alloc _).alloc _).alloc _).heap[w.heap.size]?=_
   rw[heap_alloc_old _ _ aE,heap_alloc_old _ _ aq];exact at5 w _
 case round=>
  obtain⟨pos,hps,hI,hit,hbk,hg⟩:=hrel;have hI0:=kH hI;by_cases hp:pos<S.length
  ·have hp':pos<(bs S).size:=by rw[dz];exact hp
   have hc:=hch _ (art hp);have akx:S[pos]<128:=ab;have e0:((bs S)[pos]'hp').toNat=S[pos]:=by
    have:(bs S)[pos]'hp'=UInt8.ofNat S[pos]:=by
     show(bs S).data[pos]=_
     simp only[bs,apN,List.getElem_map]
    rw[this,auG];omega
   have hnx:∀ty,(Instr.next (.pointer (some ⟨w.heap.size+1+1,0,none⟩)) true ty).run prog wr=.ok (.tuple #[.bool true,.int .i64 pos,.int .i32 (S[pos]:Nat)]) (wr.iterAt (w.heap.size+1+1) (bs S) (pos+1)):=fun ty=>by
    rw[Lib.run_next_ascii_at wr _ (bs S) pos ty hit hp' ab,e0]
   have HI2:=kH (hI.iterAt hit (pos+1));have hit2:Hid _:=Lib.iterAt_heap wr (w.heap.size+1+1) (bs S) pos (pos+1) hit;have hbk2:=kH ((Lib.iterAt_other wr (w.heap.size+1+1) w.heap.size (bs S) (pos+1) ab).trans hbk);have hg2:Hid (Gr w (wr.iterAt (w.heap.size+1+1) (bs S) (pos+1))):=Lib.below_iterAt hg ab (bs S) (pos+1);have hm:Hid (wr.iterPos (w.heap.size+1+1)=pos):=by unfold Hid;simp[World.iterPos,hit]
   have HC:Hid (∀W:World,gz W->Calls prog 68 #[.agg #[.int .i64 op,.int .i64 rd,.int .i64 a,.int .i64 b,.int .i32 n],.int .i32 ((S[pos]:Nat):Int)] W fun e w'=>e=.returned (str (dA rd a b n S[pos]))/\Gr W w'):=fun W T=>pI HR T hc
   have hfl:=kH (Kz S (dA rd a b n) pos hp);have hle:Hid _:=qo HR (S.take (pos+1));generalize wr.iterAt (w.heap.size+1+1) (bs S) (pos+1)=W1 at *
   generalize S[pos]=c at *
   have z0:=iE hbk2;have z1:=iY hbk2;have z2:=E8 hbk2;have z3:=QQ hbk2;have z4:=E9 hbk2;go_wp2_with fail;refine(HC.out _ (HT.out.of hg2.out)).mono ?_;rintro e W2 ⟨rfl,G2⟩;have HI3:=kH (V7 HI2.out G2);have hit3:=kH (upA G2 hit2.out);have aiV:=kH (upA G2 hbk2.out);have hg3:=kH (hg2.out.trans G2);have hsz:Hid (w.heap.size+1<=W2.heap.size):=by have:=(gs hit3.out).1;unfold Hid;omega
   have H4:Hid (Calls prog 19 #[.pointer (some ⟨w.heap.size+1,0,none⟩),.string (bs (dA rd a b n c))] W2 fun e w'=>e=.returned (.tuple #[.int .i64 (bs (dA rd a b n c)).size,.nilIface])/\Lib.IsBuilderF 74 5 (w.heap.size+1) (w.heap.size+1) (Lib.byteCells (((S.take pos).flatMap (dA rd a b n)).map UInt8.ofNat)++Lib.strCells (bs (dA rd a b n c))) w'/\Below (w.heap.size+1) W2 w'/\Lib.OthersKept 5 (some (w.heap.size+1)) W2 w'):=
    Kt (bs (dA rd a b n c)) HI3.out (by
     have h1:=hle.out;have h2:=congrArg List.length hfl.out;have h3:=hln.out;rw[ap5]at h1;rw[apo]at h2;rw[Lib.byteCells_length,apY,dz];omega) hsz.out
   have hcs:Hid (Lib.byteCells (((S.take pos).flatMap (dA rd a b n)).map UInt8.ofNat)++Lib.strCells (bs (dA rd a b n c))=Lib.byteCells (((S.take (pos+1)).flatMap (dA rd a b n)).map UInt8.ofNat)):=by
    unfold Hid;rw[hfl.out,Lib.strCells_eq,bU,aqb];simp[Lib.byteCells]
   rw[show str (dA rd a b n c)=.string (bs (dA rd a b n c))from rfl];generalize bs (dA rd a b n c)=sb at *
   go_wp2_with fail;refine H4.mono ?_;rintro e W3 ⟨rfl,hI4,hb4,hk4⟩;rw[hcs.out]at hI4;have HI4:=kH hI4;go_wp2_with fail;go_roundw
   case rel=>
    exact⟨pos+1,ab,HI4,hk4.iter hit3 ab,(au1 hb4 _ ab).trans aiV,hg3.trans' hb4⟩
   case measure=>
    have e1:W3.iterPos (w.heap.size+1+1)=pos+1:=by simp[World.iterPos,hk4.iter hit3.out ab]
    rw[e1,hm.out];omega
  ·have aiW:pos=S.length:=ab;subst aiW;have hnx:∀ty,(Instr.next (.pointer (some ⟨w.heap.size+1+1,0,none⟩)) true ty).run prog wr=_:=fun ty=>Lib.run_next_end_at wr (w.heap.size+1+1) (bs S) S.length ty hit (by rw[dz];omega)
   have hsz:w.heap.size+1<=wr.heap.size:=by have:=(gs hit).1;omega
   have H5:Hid (Calls prog 21 #[.pointer (some ⟨w.heap.size+1,0,none⟩)] wr fun e w'=>e=.returned (str (S.flatMap (dA rd a b n)))/\Below (w.heap.size+1) wr w'):=(Tryz.Builder_String_any_k (w.heap.size+1) (w.heap.size+1) (((S.take S.length).flatMap (dA rd a b n)).map UInt8.ofNat) wr hI hsz).mono fun e w' ⟨he,_,hb,_⟩=>⟨by rw[he,ap9];rfl,hb⟩
   have HG:=kH hg;go_wp2_with fail;refine H5.mono ?_;rintro e W3 ⟨rfl,hb4⟩;go_wp2_with fail;go_ret;exact⟨rfl,HG.trans' hb4⟩
end As
namespace As
open Mm
theorem xU {t:Bool}(h:decide (46<=op/\op<=56)=t)(w:World):Calls prog 66 #[.int .i64 op] w fun e w'=>e=.returned (.bool t)/\w=w':=by
 have H:Hid (∀w:World,Calls prog 94 #[.int .i64 op,.int .i64 46,.int .i64 56] w fun e w'=>e=.returned (.bool t)/\w=w'):=fun w=>by
  cases t with
  |true=>have:=ava h;exact aF this.1 this.2 w
  |false=>have:=of_decide_eq_false h;exact ai ab w
 go_enter func66,ntmps66;go_wp2_with fail;refine(H _).mono ?_;rintro e _ ⟨rfl,rfl⟩;go_wp2_with fail;go_ret;exact⟨rfl,rfl⟩
theorem QE (h1:1<=k)(h2:k<=59)(hk:¬(46<=(k:Int)/\(k:Int)<=56))(rd a b n:Int)(T:gz w):Calls prog 32 #[.agg #[.int .i64 (k:Int),.int .i64 rd,.int .i64 a,.int .i64 b,.int .i32 n]] w fun e w'=>e=.returned (str (names.getD (k-1) []))/\Gr w w':=by
 have HA:Hid (∀w:World,Calls prog 66 #[.int .i64 (k:Int)] w fun e w'=>e=.returned (.bool false)/\w=w'):=xU (by simpa using hk);have c0:(0:Int)<=(k:Int):=ab;have c1:(k:Int)<60:=ab;have q:∀o,(w.alloc o).cell? ⟨1,k,none⟩=some (str (names.getD (k-1) [])):=fun o=>by
  have:=(T.of ((Gr.refl w).alloc o)).nm (k-1) ab;rwa[show k-1+1=k by omega]at this
 generalize str (names.getD (k-1) [])=V at *
 go_enter func32,ntmps32;go_wp2_with fail;refine(HA _).mono ?_;rintro e _ ⟨rfl,rfl⟩;go_wp2_with fail;go_ret;exact⟨rfl,(Gr.refl _).alloc _⟩
theorem QF {A B:List Nat}(hl:A.length+B.length<=1000000)(w:World):(binOp .add 9 (str A) (str B)).run prog w=.ok (str (A++B)) w:=by
 have e:(Op.stringOp .add ⟨(A.map UInt8.ofNat).toArray⟩ ⟨(B.map UInt8.ofNat).toArray⟩).run prog w=.ok (str (A++B)) w:=by
  rw[<-mP];exact run_string_add_sum _ _ _ (by show(A.map UInt8.ofNat).toArray.size+(B.map UInt8.ofNat).toArray.size<=9223372036854775807;simp;omega)
 unfold str at e ⊢;rw[binOp_string_add];exact e
theorem QG {m:Nat}(h1:46<=(k:Int))(h2:(k:Int)<=56)(hm:m<4)(rd a b:Int)(T:gz w):Calls prog 32 #[.agg #[.int .i64 (k:Int),.int .i64 rd,.int .i64 a,.int .i64 b,.int .i32 (m:Int)]] w fun e w'=>e=.returned (str (names.getD (k-1) []++[46,119]++RB (m:Int)))/\Gr w w':=by
 have HA:Hid (∀w:World,Calls prog 66 #[.int .i64 (k:Int)] w fun e w'=>e=.returned (.bool true)/\w=w'):=xU aE;have c0:(0:Int)<=(k:Int):=ab;have c1:(k:Int)<60:=ab;have c2:(0:Int)<=(m:Int):=ab;have c3:(m:Int)<4:=ab;have q:∀o,(w.alloc o).cell? ⟨1,k,none⟩=some (str (names.getD (k-1) [])):=fun o=>by
  have:=(T.of ((Gr.refl w).alloc o)).nm (k-1) ab;rwa[show k-1+1=k by omega]at this
 have r:∀o,(w.alloc o).cell? ⟨2,m,none⟩=some (str (RB (m:Int))):=fun o=>(T.of ((Gr.refl w).alloc o)).ad m hm
 have HL:Hid ((names.getD (k-1) []).length<=10):=by
  have:∀k:Fin 59,(names.getD k.val []).length<=10:=an;exact this ⟨k-1,ab⟩
 have HM:Hid ((RB (m:Int)).length<=10):=by
  unfold Hid RB;repeat' split
  all_goals simp
 generalize names.getD (k-1) []=A at *
 generalize RB (m:Int)=M at *
 have q0:=q (.cells #[.int .i64 (k:Int),.int .i64 rd,.int .i64 a,.int .i64 b,.int .i32 (m:Int)] 59);have r0:=r (.cells #[.int .i64 (k:Int),.int .i64 rd,.int .i64 a,.int .i64 b,.int .i32 (m:Int)] 59);have ha1:∀w:World,(binOp .add 9 (str A) (.string ⟨#[46,119]⟩)).run prog w=.ok (str (A++[46,119])) w:=fun w=>QF (B:=[46,119]) (by have:=HL.out;simp;omega) w
 have ha2:∀w:World,(binOp .add 9 (str (A++[46,119])) (str M)).run prog w=.ok (str (A++[46,119]++M)) w:=fun w=>QF (by have:=HL.out;have:=HM.out;simp;omega) w
 generalize str (A++[46,119]++M)=V at *
 generalize str (A++[46,119])=V1 at *
 go_enter func32,ntmps32;go_wp2_with fail;refine(HA _).mono ?_;rintro e _ ⟨rfl,rfl⟩;go_wp2_with fail;go_quiet (fail);go_wp2_with fail;go_ret;exact⟨rfl,br.drewN _⟩
theorem KA (h1:1<=op)(h2:op<=59)(hn:46<=op->op<=56->0<=n/\n<=3)(rd a b:Int)(T:gz w):Calls prog 32 #[.agg #[.int .i64 op,.int .i64 rd,.int .i64 a,.int .i64 b,.int .i32 n]] w fun e w'=>e=.returned (str (rD op n))/\Gr w w':=by
 obtain⟨k,rfl⟩:∃k:Nat,op=(k:Int):=⟨op.toNat,ab⟩;unfold rD;rw[show((k:Int)-1).toNat=k-1 by omega];by_cases h:46<=(k:Int)/\(k:Int)<=56
 ·rw[at7 h];obtain⟨n0,n1⟩:=hn h.1 h.2;obtain⟨m,rfl⟩:∃m:Nat,n=(m:Int):=⟨n.toNat,ab⟩;exact QG h.1 h.2 ab rd a b T
 ·rw[at6 h];exact QE ab ab h rd a b n T
theorem aby {b:Int}(h:Re.XK op rd a b n):46<=op->op<=56->0<=n/\n<=3:=fun h1 h2=>by rcases h.2 with h|h|h|h|h|h|h|h|h|h|h|h<;>omega
theorem KC {b:Int}(n0 : -2147483648<=n)(n1:n<2147483648)(hy:Re.XK op rd a b n)(T:gz w):Calls prog 16 #[.agg #[.int .i64 op,.int .i64 rd,.int .i64 a,.int .i64 b,.int .i32 n]] w fun e w'=>e=.returned (.tuple #[str (vX op rd a b n),.int .i64 0])/\Gr w w':=by
 have H0:Hid (∀w:World,Dw.nK w->Calls prog 31 #[.agg #[.int .i64 op,.int .i64 rd,.int .i64 a,.int .i64 b,.int .i32 n]] w fun e w'=>e=.returned (.tuple #[.int .u32 (Dw.Wv op rd a b n),.int .i64 0])/\Gr w w'):=fun w T=>(Dw.uH op rd a b n w T n0 n1 (Dw.uI hy n0 n1)).mono fun e w' ⟨he,g⟩=>⟨he,g.1⟩
 have H1:Hid (∀w:World,gz w->Calls prog 32 #[.agg #[.int .i64 op,.int .i64 rd,.int .i64 a,.int .i64 b,.int .i32 n]] w fun e w'=>e=.returned (str (rD op n))/\Gr w w'):=fun w T=>KA hy.1.1 hy.1.2.1 (aby hy) rd a b T
 have H2:Hid (∀w:World,gz w->Calls prog 33 #[.agg #[.int .i64 op,.int .i64 rd,.int .i64 a,.int .i64 b,.int .i32 n]] w fun e w'=>e=.returned (str (nV op rd a b n))/\Gr w w'):=fun w T=>jG (Ic.of hy n0 n1) T
 have HT:=kH T;have HL:=kH (z8 hy.1.1 hy.1.2.1 n);have HM:Hid ((nV op rd a b n).length<=210):=by
  have:=qo (Ic.of hy n0 n1) (jU op);have:=zM op;unfold Hid nV;omega
 have HE:Hid (vX op rd a b n=rD op n++if nV op rd a b n=[]then[]else 32::nV op rd a b n):=by
  unfold Hid vX;rw[Aa hy.1.1 hy.1.2.1]
 rw[HE.out];generalize Dw.Wv op rd a b n=v at *
 generalize rD op n=A at *
 generalize nV op rd a b n=M at *
 go_enter func16,ntmps16;go_wp2_with fail;refine(H0 _ (HT.of br).tb).mono ?_;rintro e w1 ⟨rfl,G1⟩;have HB1:=kH (upA G1 (at5 w _));have aU:=kH (br.trans G1);have z0:=iE HB1;have z1:=iY HB1;have z2:=E8 HB1;have z3:=QQ HB1;have z4:=E9 HB1;go_wp2_with fail;refine(H1 _ (HT.of aU)).mono ?_;rintro e w2 ⟨rfl,G2⟩;have HB2:=kH (upA G2 HB1);have HG2:=kH (aU.trans G2);have z0:=iE HB2;have z1:=iY HB2;have z2:=E8 HB2;have z3:=QQ HB2;have z4:=E9 HB2;go_wp2_with fail;refine(H2 _ (HT.of HG2)).mono ?_;rintro e w3 ⟨rfl,G3⟩;have fQ:=kH (HG2.trans G3);by_cases hM:M=[]
 ·subst hM;rw[show str []=.string ⟨#[]⟩from rfl];go_wp2_with fail;go_ret2;exact⟨aq,fQ⟩
 ·have h1:(!(bs M).toList.isEmpty)=true:=by
   rw[aqs,bU];simpa using hM
  rw[show str M=.string (bs M)from rfl]
  go_wp2_with (first
   |(refine tF rfl _ _ _ _ rfl [32] M rfl rfl (by have:=HM.out;simp;omega) ?_)
   |(refine tF rfl _ _ _ _ rfl A (32::M) rfl rfl (by have:=HL.out;have:=HM.out;simp;omega) ?_))
  go_ret2;exact⟨by first|rfl|(simp[hM];rfl),fQ⟩
end As
namespace Vp
variable[Inhabited Hc.bN]
open Mm Hh Hc Mc Ud As
variable{M H P U:Value}{p:Pl}
theorem zN {l:List UInt8}{pc:Int}(h0:0<=pc)(h1:pc<4294967296):(¬Bk.jR l pc=0->Bk.blk l pc 16 0=[])/\(Bk.jR l pc=0->∃r,Bk.blk l pc 16 0=aN l 13 pc::r):=by
 have e:Bk.at4 pc 0=pc:=by unfold Bk.at4 Wd.lo;omega
 refine⟨fun h=>Bk.pg (n:=15) (k:=0) (by rw[e];exact h),fun h=>?_⟩;rw[Bk.blk,e,at7 h];exact⟨_,rfl⟩
theorem Ie {x:Int}(h0:0<=x)(h1:x<4294967296)(h:¬Dc.aO x=0):Re.XK (Dc.aO x) (Dc.iF (Dc.aJ (Dc.aO x)) x) (Dc.bZ (Dc.aJ (Dc.aO x)) x) (Dc.bV (Dc.aJ (Dc.aO x)) x) (Dc.bS (Dc.aJ (Dc.aO x)) x):=by
 have hb:=Dc.kI h0 h1;have:0<=Dc.aO x:=by unfold Dc.aO;split<;>omega
 exact Dw.uJ h0 h1 ⟨by unfold Dw.fZ;simpa using h,rfl,rfl,rfl,rfl,rfl⟩
theorem abz (hp:pc<4294967296)(X:Pr 71 B w g M H P U p)(T:Tz B w)(hf:Bk.jR p.m pc=0):Calls prog 53 #[.pointer (some ⟨g,0,none⟩),.int .u32 pc] w (fE 71 B w g M H P (p,mF p [pc])):=by
 obtain⟨r,hr⟩:=(zN (l:=p.m) (pc:=(pc:Int)) ab ab).2 hf;have e:mF p [pc]=zw (aN p.m 13 pc):=by unfold mF;simp only[hr]
 rw[e];obtain⟨ma,mc,ha,hc0,pa,pc',ua,un,uc,rfl,rfl,rfl,rfl,Mm1,_⟩:=X.open;have z0:=iE X.blk;have m4:=X.ok.m4;have wx:=W.aN p.m 13 (pc:Int);have hd:¬Dc.aO (aN p.m 13 pc)=0:=by
  unfold Bk.jR at hf;split at hf
  ·split at hf
   ·cases hf
   ·assumption
  ·cases hf
 have HF:Hid (Calls prog 29 #[.slice ma p.m.length mc,.int .u32 pc] w fun e w'=>e=.returned (.tuple #[Dw.kP (aN p.m 13 pc),.int .i64 0])/\Gr w w'):=by
  have:=Hf.ng mc (pc:Int) Mm1 T.PY.tb ab ab ab;rwa[hf]at this
 have hP:=Ie wx.1 wx.2 hd;have ib:=yF (Dc.aJ (Dc.aO (aN p.m 13 pc))) wx.1 wx.2;have HP:Hid (∀W:World,Gr w W->Calls prog 16 #[Dw.kP (aN p.m 13 pc)] W fun e w'=>e=.returned (.tuple #[str (zw (aN p.m 13 pc)),.int .i64 0])/\Gr W w'):=fun W G=>KC ib.1 ib.2 hP (T.gr G).PY
 have HB:Hid (∀e w',Gr w w'->e=.returned (str (zw (aN p.m 13 pc)))->fE 71 B w g (.slice ma p.m.length mc) (.slice ha p.hs.length hc0) (.slice pa p.ps.length pc') (p,zw (aN p.m 13 pc)) e w'):=fun e w' G he=>⟨he,_,_,_,_,X.gr G,Fx.bD G⟩
 unfold Dw.kP Dw.df at HF HP;generalize str (zw (aN p.m 13 pc))=V at *
 generalize zw (aN p.m 13 pc)=V0 at *
 generalize Dc.iF (Dc.aJ (Dc.aO (aN p.m 13 pc))) (aN p.m 13 pc)=x1 at *
 generalize Dc.bZ (Dc.aJ (Dc.aO (aN p.m 13 pc))) (aN p.m 13 pc)=x2 at *
 generalize Dc.bV (Dc.aJ (Dc.aO (aN p.m 13 pc))) (aN p.m 13 pc)=x3 at *
 generalize Dc.bS (Dc.aJ (Dc.aO (aN p.m 13 pc))) (aN p.m 13 pc)=x4 at *
 generalize Dc.aO (aN p.m 13 pc)=x0 at *
 go_enter func53,ntmps53;go_wp2_with fail;refine HF.mono ?_;rintro e w1 ⟨rfl,G1⟩;have aU:=kH G1
 go_wp2_with (first
  |(refine auf rfl 59 _ _ rfl w1.heap.size #[.int .i64 x0,.int .i64 x1,.int .i64 x2,.int .i64 x3,.int .i32 x4] rfl ar 59 #[.int .i64 0,.int .i64 0,.int .i64 0,.int .i64 0,.int .i32 0] ?r3 Hf.iI rfl (Hf.mZ _ _ _ _ _) ?_;(case r3=>exact at5 w1 _))
  |(refine auL rfl 59 _ rfl w1.heap.size rfl 59 #[.int .i64 x0,.int .i64 x1,.int .i64 x2,.int .i64 x3,.int .i32 x4] (0,0) _ ?z1 underlying59 rfl Hf.iI ?_;(case z1=>exact aup _ _ _ _ _ (0,0) (at5 w1 _))))
 refine(HP _ (ag (aU.alloc _) aU.size _)).mono ?_;rintro e w5 ⟨rfl,G5⟩;have lu:=kH ((ag (aU.alloc _) aU.size _).trans G5);go_wp2_with fail;go_ret;exact HB _ _ lu rfl
theorem abA (hp:pc<4294967296)(X:Pr 71 B w g M H P U p)(T:Tz B w)(hf:¬Bk.jR p.m pc=0):Calls prog 53 #[.pointer (some ⟨g,0,none⟩),.int .u32 pc] w (fE 71 B w g M H P (p,mF p [pc])):=by
 have hr:=(zN (l:=p.m) (pc:=(pc:Int)) ab ab).1 hf;have e:mF p [pc]=aNo:=by unfold mF;simp only[hr]
 rw[e];obtain⟨ma,mc,ha,hc0,pa,pc',ua,un,uc,rfl,rfl,rfl,rfl,Mm1,_⟩:=X.open;have z0:=iE X.blk;have m4:=X.ok.m4;have HF:=kH (Hf.ng mc (pc:Int) Mm1 T.PY.tb ab ab ab);have HB:Hid (∀e w',Gr w w'->e=.returned (str aNo)->fE 71 B w g (.slice ma p.m.length mc) (.slice ha p.hs.length hc0) (.slice pa p.ps.length pc') (p,aNo) e w'):=fun e w' G he=>⟨he,_,_,_,_,X.gr G,Fx.bD G⟩
 unfold Dw.kP Dw.df at HF;generalize Bk.jR p.m pc=E at *
 generalize Dc.iF (Dc.aJ (Dc.aO (aN p.m 13 pc))) (aN p.m 13 pc)=x1 at *
 generalize Dc.bZ (Dc.aJ (Dc.aO (aN p.m 13 pc))) (aN p.m 13 pc)=x2 at *
 generalize Dc.bV (Dc.aJ (Dc.aO (aN p.m 13 pc))) (aN p.m 13 pc)=x3 at *
 generalize Dc.bS (Dc.aJ (Dc.aO (aN p.m 13 pc))) (aN p.m 13 pc)=x4 at *
 generalize Dc.aO (aN p.m 13 pc)=x0 at *
 go_enter func53,ntmps53;go_wp2_with fail;refine HF.mono ?_;rintro e w1 ⟨rfl,G1⟩;have aU:=kH G1;go_wp2_with (refine auf rfl 59 _ _ rfl w1.heap.size #[.int .i64 x0,.int .i64 x1,.int .i64 x2,.int .i64 x3,.int .i32 x4] rfl ar 59 #[.int .i64 0,.int .i64 0,.int .i64 0,.int .i64 0,.int .i32 0] ?r3 Hf.iI rfl (Hf.mZ _ _ _ _ _) ?_;(case r3=>exact at5 w1 _));go_ret;exact HB _ _ (ag (aU.alloc _) aU.size _) rfl
theorem QH (hp:pc<4294967296)(X:Pr 71 B w g M H P U p)(T:Tz B w):Calls prog 53 #[.pointer (some ⟨g,0,none⟩),.int .u32 pc] w (fE 71 B w g M H P (p,mF p [pc])):=by
 by_cases hf:Bk.jR p.m pc=0
 ·exact abz hp X T hf
 ·exact abA hp X T hf
end Vp
namespace Vp
variable[Inhabited Hc.bN]
open Mm Hh Hc Mc Ud As
variable{w w':World}{g B:Nat}{M H P U:Value}{p:Pl}{V:Value}
variable{l:List Nat}{r:Pl×List Nat}
def Rd (w:World) (V:Value) (s:ByteArray) (l:List Nat):Prop:=Calls prog 42 #[V] w fun e w'=>∃a c,e=.returned (.tuple #[.string s,.slice a l.length c,.bool true])/\(Ns .u32 w' a l.length l/\∀b o,a=some ⟨b,o,none⟩->w.heap.size<=b)/\Gr w w'
def Cm (w:World) (g B:Nat) (M H P:Value) (f:Nat) (args:Array Value) (r:Pl×List Nat):Prop:=∀W:World,Gr w W->Calls prog f args W (fE 71 B w g M H P r)
theorem Cm.mk {f:Nat}{args:Array Value}{r:Pl×List Nat}(h:∀W:World,Gr w W->Calls prog f args W (fE 71 B W g M H P r)):Cm w g B M H P f args r:=fun W G=>(h W G).mono fun e w' q=>fE.pre (D:=(_,_,_)) (Fx.bD G) q
theorem V8 (R:Rd w V ⟨#[104,97,114,116]⟩ [x0])(C:Cm w g B M H P 44 #[.pointer (some ⟨g,0,none⟩),.int .u32 (x0:Int)] r):Calls prog 20 #[.pointer (some ⟨g,0,none⟩),V] w (fE 71 B w g M H P r):=by have HR:=kH R;have HC:Hid _:=C;clear R C;go_enter func20,ntmps20;go_wp2_with fail;refine HR.mono ?_;rintro e w1 ⟨a,c,rfl,⟨N,_⟩,G⟩;have HG:Hid (Gr w w1):=G;obtain⟨b,o,rfl,_,hc⟩:=N.spot aq;have c0:w1.cell? ⟨b,o,none⟩=some (.int .u32 (x0:Int)):=hc 0 x0 rfl;clear hc N G;go_wp2_with fail;refine(HC _ HG).mono ?_;rintro e w2 ⟨rfl,h⟩;go_wp2_with fail;go_ret;exact⟨rfl,h⟩
theorem QI {x2:Nat}(R:Rd w V ⟨#[115,101,116]⟩ [x0,x1,x2])(C:Cm w g B M H P 45 #[.pointer (some ⟨g,0,none⟩),.int .u32 (x0:Int),.int .u32 (x1:Int),.int .u32 (x2:Int)] r):Calls prog 20 #[.pointer (some ⟨g,0,none⟩),V] w (fE 71 B w g M H P r):=by
 have HR:Hid _:=R;have HC:Hid _:=C;clear R C;go_enter func20,ntmps20;go_wp2_with fail;refine HR.mono ?_;rintro e w1 ⟨a,c,rfl,⟨N,_⟩,G⟩;have HG:Hid (Gr w w1):=G;obtain⟨b,o,rfl,_,hc⟩:=N.spot aq;have c0:w1.cell? ⟨b,o,none⟩=some (.int .u32 (x0:Int)):=hc 0 x0 rfl;have c1:w1.cell? ⟨b,o+1,none⟩=some (.int .u32 (x1:Int)):=hc 1 x1 rfl;have c2:w1.cell? ⟨b,o+2,none⟩=some (.int .u32 (x2:Int)):=hc 2 x2 rfl;clear hc N G;go_wp2_with fail;go_region_with (go_at_call 45;refine(HC _ (HG.trans (Gr.refl _).drew)).mono ?_;rintro e w2 ⟨rfl,h⟩)
 all_goals
  go_wp2_with fail;go_ret;exact⟨rfl,h⟩
theorem V9 (R:Rd w V ⟨#[112,105,99,107]⟩ [x0,x1])(C:Cm w g B M H P 46 #[.pointer (some ⟨g,0,none⟩),.int .u32 (x0:Int),.int .u32 (x1:Int)] r):Calls prog 20 #[.pointer (some ⟨g,0,none⟩),V] w (fE 71 B w g M H P r):=by
 have HR:Hid _:=R;have HC:Hid _:=C;clear R C;go_enter func20,ntmps20;go_wp2_with fail;refine HR.mono ?_;rintro e w1 ⟨a,c,rfl,⟨N,_⟩,G⟩;have HG:Hid (Gr w w1):=G;obtain⟨b,o,rfl,_,hc⟩:=N.spot aq;have c0:w1.cell? ⟨b,o,none⟩=some (.int .u32 (x0:Int)):=hc 0 x0 rfl;have c1:w1.cell? ⟨b,o+1,none⟩=some (.int .u32 (x1:Int)):=hc 1 x1 rfl;clear hc N G;go_wp2_with fail;go_region_with (go_at_call 46;refine(HC _ (HG.trans (Gr.refl _).drew)).mono ?_;rintro e w2 ⟨rfl,h⟩)
 all_goals
  go_wp2_with fail;go_ret;exact⟨rfl,h⟩
theorem abB (R:Rd w V ⟨#[114,117,110]⟩ [])(C:Cm w g B M H P 47 #[.pointer (some ⟨g,0,none⟩)] r):Calls prog 20 #[.pointer (some ⟨g,0,none⟩),V] w (fE 71 B w g M H P r):=by have HR:=kH R;have HC:=kH C;go_enter func20,ntmps20;go_wp2_with fail;refine HR.mono ?_;rintro e w1 ⟨a,c,rfl,⟨N,_⟩,G⟩;have HG:=kH G;go_wp2_with fail;refine(HC _ HG).mono ?_;rintro e w2 ⟨rfl,h⟩;go_wp2_with fail;go_ret;exact⟨rfl,h⟩
theorem We (R:Rd w V ⟨#[102,97,115,116]⟩ [x0])(C:Cm w g B M H P 48 #[.pointer (some ⟨g,0,none⟩),.int .u32 (x0:Int)] r):Calls prog 20 #[.pointer (some ⟨g,0,none⟩),V] w (fE 71 B w g M H P r):=by have HR:=kH R;have HC:Hid _:=C;clear R C;go_enter func20,ntmps20;go_wp2_with fail;refine HR.mono ?_;rintro e w1 ⟨a,c,rfl,⟨N,_⟩,G⟩;have HG:Hid (Gr w w1):=G;obtain⟨b,o,rfl,_,hc⟩:=N.spot aq;have c0:w1.cell? ⟨b,o,none⟩=some (.int .u32 (x0:Int)):=hc 0 x0 rfl;clear hc N G;go_wp2_with fail;refine(HC _ HG).mono ?_;rintro e w2 ⟨rfl,h⟩;go_wp2_with fail;go_ret;exact⟨rfl,h⟩
theorem abC (R:Rd w V ⟨#[104,97,114,116,63]⟩ [x0])(C:Cm w g B M H P 49 #[.pointer (some ⟨g,0,none⟩),.int .u32 (x0:Int)] r):Calls prog 20 #[.pointer (some ⟨g,0,none⟩),V] w (fE 71 B w g M H P r):=by have HR:=kH R;have HC:Hid _:=C;clear R C;go_enter func20,ntmps20;go_wp2_with fail;refine HR.mono ?_;rintro e w1 ⟨a,c,rfl,⟨N,_⟩,G⟩;have HG:Hid (Gr w w1):=G;obtain⟨b,o,rfl,_,hc⟩:=N.spot aq;have c0:w1.cell? ⟨b,o,none⟩=some (.int .u32 (x0:Int)):=hc 0 x0 rfl;clear hc N G;go_wp2_with fail;refine(HC _ HG).mono ?_;rintro e w2 ⟨rfl,h⟩;go_wp2_with fail;go_ret;exact⟨rfl,h⟩
theorem Wh (R:Rd w V ⟨#[115,104,111,119]⟩ [x0])(C:Cm w g B M H P 53 #[.pointer (some ⟨g,0,none⟩),.int .u32 (x0:Int)] r):Calls prog 20 #[.pointer (some ⟨g,0,none⟩),V] w (fE 71 B w g M H P r):=by have HR:=kH R;have HC:Hid _:=C;clear R C;go_enter func20,ntmps20;go_wp2_with fail;refine HR.mono ?_;rintro e w1 ⟨a,c,rfl,⟨N,_⟩,G⟩;have HG:Hid (Gr w w1):=G;obtain⟨b,o,rfl,_,hc⟩:=N.spot aq;have c0:w1.cell? ⟨b,o,none⟩=some (.int .u32 (x0:Int)):=hc 0 x0 rfl;clear hc N G;go_wp2_with fail;refine(HC _ HG).mono ?_;rintro e w2 ⟨rfl,h⟩;go_wp2_with fail;go_ret;exact⟨rfl,h⟩
theorem Wj (R:Rd w V ⟨#[98,97,99,107]⟩ [x0])(C:Cm w g B M H P 54 #[.pointer (some ⟨g,0,none⟩),.int .u32 (x0:Int)] r):Calls prog 20 #[.pointer (some ⟨g,0,none⟩),V] w (fE 71 B w g M H P r):=by have HR:=kH R;have HC:Hid _:=C;clear R C;go_enter func20,ntmps20;go_wp2_with fail;refine HR.mono ?_;rintro e w1 ⟨a,c,rfl,⟨N,_⟩,G⟩;have HG:Hid (Gr w w1):=G;obtain⟨b,o,rfl,_,hc⟩:=N.spot aq;have c0:w1.cell? ⟨b,o,none⟩=some (.int .u32 (x0:Int)):=hc 0 x0 rfl;clear hc N G;go_wp2_with fail;refine(HC _ HG).mono ?_;rintro e w2 ⟨rfl,h⟩;go_wp2_with fail;go_ret;exact⟨rfl,h⟩
theorem Wl (R:Rd w V ⟨#[119,104,97,116]⟩ [x0])(C:Cm w g B M H P 50 #[.int .u32 (x0:Int)] r):Calls prog 20 #[.pointer (some ⟨g,0,none⟩),V] w (fE 71 B w g M H P r):=by have HR:=kH R;have HC:Hid _:=C;clear R C;go_enter func20,ntmps20;go_wp2_with fail;refine HR.mono ?_;rintro e w1 ⟨a,c,rfl,⟨N,_⟩,G⟩;have HG:Hid (Gr w w1):=G;obtain⟨b,o,rfl,_,hc⟩:=N.spot aq;have c0:w1.cell? ⟨b,o,none⟩=some (.int .u32 (x0:Int)):=hc 0 x0 rfl;clear hc N G;go_wp2_with fail;refine(HC _ HG).mono ?_;rintro e w2 ⟨rfl,h⟩;go_wp2_with fail;go_ret;exact⟨rfl,h⟩
theorem gs1 {n1 c1:Nat}(h:w.heap[b]?=some (.cells #[.slice a1 n1 c1] t f))(h1:Ts w a1 n1 L1/\(a1=none->c1=0)):Gs w b 1 [L1]:=
 ⟨rfl,(gs h).1,fun i L hi=>by
  obtain rfl:i=0:=by
   have:=(apj.1 hi).1;simp at this;omega
  simp only[apw,auj]at hi;subst hi;exact⟨_,_,_,iE h,h1.1,h1.2⟩⟩
theorem aeW (S:Gs w b 1 [[dg x]])(hx:x<9223372036854775808):Calls prog 51 #[.slice (some ⟨b,0,none⟩) 1 1] w fun e w'=>e=.returned (str (dg x))/\Gr w w':=by
 have:=jv (c:=1) S aq ab aq (fun y hy=>by
  simp only[aqz,aqT,apz,apE]at hy;subst hy;exact nR hx)
 have e:jn [[dg x]].flatten=dg x:=by simp[jn]
 rwa[e]at this
theorem QJ (hx:x0<4294967296)(R:Rd w V ⟨#[98,108,111,99,107]⟩ [x0])(X:Pr 71 B w g M H P U p)(T:Tz B w):Calls prog 20 #[.pointer (some ⟨g,0,none⟩),V] w (fE 71 B w g M H P (p,EJ p [x0])):=by
 have e:EJ p [x0]=dg (Bk.blk p.m x0 16 0).length:=rfl;rw[e];have HB:Hid (∀e w',Gr w w'->e=.returned (str (dg (Bk.blk p.m x0 16 0).length))->fE 71 B w g M H P (p,dg (Bk.blk p.m x0 16 0).length) e w'):=fun e w' G he=>⟨he,_,_,_,_,X.gr G,Fx.bD G⟩
 obtain⟨ma,mc,ha,hc0,pa,pc',ua,un,uc,rfl,rfl,rfl,rfl,Mm1,_⟩:=X.open;have z0:=iE X.blk;have m4:=X.ok.m4;have h16:(Bk.blk p.m x0 16 0).length<=16:=(Ts.fM p.m x0 16 0).1;have HM:Hid (∀W:World,Gr w W->Calls prog 15 #[.slice ma p.m.length mc,.int .u32 (x0:Int)] W fun e w'=>∃va vc,e=.returned (.agg #[.int .u32 (x0:Int),.slice va (Bk.blk p.m x0 16 0).length vc])/\Gr W w'):=fun W G=>by
  have:=Bk.BJ mc (x0:Int) (Mm1.of G) (T.gr G).PY.tb ab ab ab;have e1:Bk.bkP p.m.length (x0:Int)=x0:=ak;have e2:Bk.bkX p.m.length p.m (x0:Int)=Bk.blk p.m x0 16 0:=ak;rw[e1,e2]at this;refine this.mono ?_;rintro e w' ⟨v,rfl,OW,G'⟩;obtain⟨va,vc,rfl⟩:=Bk.qZ OW;exact⟨va,vc,rfl,G'⟩
 have HT:Hid (∀(W:World) (b:Nat) (t:Nat) (f:Nat×Nat),Gr w W->W.heap[b]?=some (.cells #[.int .i64 ((Bk.blk p.m x0 16 0).length:Int)] t f)->Calls prog 52 #[.slice (some ⟨b,0,none⟩) 1 1] W fun e w'=>∃a k,e=.returned (.slice a 1 k)/\(Ts w' a 1 [dg (Bk.blk p.m x0 16 0).length]/\(a=none->k=0))/\Gr W w'):=fun W b t f G h=>Hq (c:=1) (rq h) (fun y hy=>by rw[apE.1 hy];omega) ab (T.gr G).PY
 have HJ:Hid (∀(W:World) (b:Nat) (t:Nat) (f:Nat×Nat) (a:Option Addr) (k:Nat),(Ts W a 1 [dg (Bk.blk p.m x0 16 0).length]/\(a=none->k=0))->W.heap[b]?=some (.cells #[.slice a 1 k] t f)->Calls prog 51 #[.slice (some ⟨b,0,none⟩) 1 1] W fun e w'=>e=.returned (str (dg (Bk.blk p.m x0 16 0).length))/\Gr W w'):=fun W b t f a k h1 h=>aeW (gs1 h h1) ab
 have hgl:=(gs X.blk).1;have HR:Hid _:=R;clear R X T Mm1 m4 h16 e;generalize str (dg (Bk.blk p.m x0 16 0).length)=V0 at *
 generalize dg (Bk.blk p.m x0 16 0).length=D0 at *
 generalize(Bk.blk p.m x0 16 0).length=N0 at *
 go_enter func20,ntmps20;go_wp2_with fail;refine HR.mono ?_;rintro e wr ⟨a,c,rfl,⟨N,_⟩,G⟩;have HG:Hid (Gr w wr):=G;obtain⟨b,o,rfl,_,hc⟩:=N.spot aq;have c0:wr.cell? ⟨b,o,none⟩=some (.int .u32 (x0:Int)):=hc 0 x0 rfl;have d0:=(G.cell _ (by exact hgl)).trans z0;clear hc N G HR z0 hgl;go_wp2_with fail;refine aut (S:=fun W=>Gr wr W) al (Gr.refl wr).drew (fun hHeld=>?_);refine aT (fun W=>Gr wr W) hHeld ?_;clear hHeld;rintro w5 G5;have rO:Hid (Gr wr w5):=G5;clear G5;refine tK 0 (.pointer (some ⟨g,0,none⟩)) rO ?_;refine tK 1 (.pointer (some ⟨g,0,none⟩)) rO ?_;refine tK 2 (.pointer (some ⟨g,0,none⟩)) rO ?_;refine tK 3 (.pointer (some ⟨g,0,none⟩)) rO ?_;refine auF (i:=4) (v:=.slice ma p.m.length mc) rfl al al al (fun _ _ _ h=>h) (Or.inl ⟨by rfl,fun W hW=>by have q0:=(hW.cell _ (by exact aug _ _ (by rw[d0]))).trans d0;go_simp⟩) rO ?_;simp only[apN,apP,apQ,Act.put,apl,apC,apy];refine tK 5 (.slice (some ⟨b,o,none⟩) 1 c) rO ?_;refine tK 6 (.pointer (some ⟨b,o,none⟩)) rO ?_;refine auF (i:=7) (v:=.int .u32 (x0:Int)) rfl al al al (fun _ _ _ h=>h) (Or.inl ⟨by rfl,fun W hW=>by have q1:=(hW.cell _ (by exact aug _ _ (by rw[c0]))).trans c0;go_simp⟩) rO ?_;simp only[apN,apP,apQ,Act.put,apl,apC,apy];refine aue (rs:=[8]) al aq ?_;refine aua rfl (fun K hK=>?_) aud;go_simp;refine(HM w5 (HG.trans rO)).mono ?_;rintro e w11 ⟨va,vc,rfl,G⟩;have aeD:Hid (Gr w5 w11):=G;have kv:Hid (Gr wr w11):=rO.trans G;clear G;refine hK.out _ _ kv (fun hx=>?_);clear hK K hx;refine auF (i:=9) (v:=.slice va N0 vc) rfl al al al (fun _ _ _ h=>h) (Or.inl ⟨by rfl,fun W hW=>by rfl⟩) kv ?_;simp only[apN,apP,apQ,Act.put,apl,apC,apy];refine tK 10 (.int .i64 (N0:Int)) kv ?_;refine aue (rs:=[11]) al aq ?_;refine aua rfl (fun K hK=>?_) aud;go_simp;refine hK.out _ _ (kv.alloc _) (fun hx=>?_);clear hK K hx;refine aT (fun W=>W.heap[w11.heap.size]?=some (.cells #[.int .i64 (N0:Int)] 3 (0,0))/\Gr w11 W) ⟨at5 w11 _,(Gr.refl _).alloc _⟩ ?_;rintro w14 ⟨hb,G⟩;have aiX:Hid (w14.heap[w11.heap.size]?=some (.cells #[.int .i64 (N0:Int)] 3 (0,0))):=hb;have ant:Hid (Gr w11 w14):=G;have aeX:Hid (Gr wr w14):=kv.trans G;clear hb G;refine aue (rs:=[12]) al aq ?_;refine aua rfl (fun K hK=>?_) aud;go_simp;refine(HT w14 _ _ _ (HG.trans aeX) (cu (Gr.refl _) aiX)).mono ?_;rintro e XC ⟨va1,vk1,rfl,hf,G⟩;have HC:Hid (Ts XC va1 1 [D0]/\(va1=none->vk1=0)):=hf;have anu:Hid (Gr w14 XC):=G;have abE:Hid (Gr wr XC):=aeX.trans G;clear G hf;refine hK.out _ _ abE (fun hx=>?_);clear hK K hx;refine aue (rs:=[13]) al aq ?_;refine aua rfl (fun K hK=>?_) aud;go_simp;refine hK.out _ _ (abE.alloc _) (fun hx=>?_);clear hK K hx;refine aT (fun W=>W.heap[XC.heap.size]?=some (.cells #[.slice va1 1 vk1] 22 (0,0))/\Gr XC W) ⟨at5 XC _,(Gr.refl _).alloc _⟩ ?_;rintro w21 ⟨hb,G⟩;have aiZ:Hid (w21.heap[XC.heap.size]?=some (.cells #[.slice va1 1 vk1] 22 (0,0))):=hb;have VJ:Hid (Gr XC w21):=G;have PX:Hid (Gr wr w21):=abE.trans G;clear hb G;refine aue (rs:=[14]) al aq ?_;refine aua rfl (fun K hK=>?_) aud;go_simp;refine(HJ w21 _ _ _ _ _ (fP HC VJ) (cu (Gr.refl _) aiZ)).mono ?_;rintro e w25 ⟨rfl,G⟩;have anv:Hid (Gr w21 w25):=G;have abF:Hid (Gr wr w25):=PX.trans G;clear G;refine hK.out _ _ abF (fun hx=>?_);clear hK K hx;refine tK 15 V0 abF ?_;refine auy al ?_ _;go_wp2_with fail;go_ret;exact HB _ _ (HG.trans abF) rfl
theorem QK (hl:∀x∈l,x<4294967296)(R:Rd w V ⟨#[119,111,114,100,115]⟩ l)(X:Pr 71 B w g M H P U p)(T:Tz B w):Calls prog 20 #[.pointer (some ⟨g,0,none⟩),V] w (fE 71 B w g M H P (iL p l)):=by
 have HC:Hid (∀(W:World) (a:Option Addr) (c:Nat),Gr w W->(Ns .u32 W a l.length l/\∀b o,a=some ⟨b,o,none⟩->w.heap.size<=b)->Calls prog 43 #[.pointer (some ⟨g,0,none⟩),.slice a l.length c] W (fE 71 B w g M H P (iL p l))):=fun W a c G ⟨N,hN⟩=>by
  have h:Calls prog 43 #[.pointer (some ⟨g,0,none⟩),.slice a l.length c] W (fE 71 B W g M H P (iL p l)):=by
   by_cases h4:p.m.length+4*l.length<=4096
   ·exact Ka (X.gr G) N hl (fun b o e hd=>by
     have h1:=hN b o e;have h2:=(X.dom b hd).2;omega) (fun h=>((T.gr G).below h).PY) h4
   ·exact PT (X.gr G) ab
  exact h.mono fun e w' q=>fE.pre (D:=(_,_,_)) (Fx.bD G) q
 have HR:=kH R;generalize iL p l=RES at *
 go_enter func20,ntmps20;go_wp2_with fail;refine HR.mono ?_;rintro e wr ⟨a,c,rfl,hN,G⟩;have HG:=kH G;have HN:=kH hN;go_wp2_with fail;refine(HC _ _ _ HG HN).mono ?_;rintro e w2 ⟨rfl,h⟩;go_wp2_with fail;go_ret;exact⟨rfl,h⟩
theorem Wn (R:Calls prog 42 #[V] w fun e w'=>e=.returned (.tuple #[.string ⟨#[]⟩,.slice none 0 0,.bool false])/\Gr w w')(X:Pr 71 B w g M H P U p):Calls prog 20 #[.pointer (some ⟨g,0,none⟩),V] w (fE 71 B w g M H P (p,aQ)):=by
 have HB:Hid (∀e w',Gr w w'->e=.returned (str aQ)->fE 71 B w g M H P (p,aQ) e w'):=fun e w' G he=>⟨he,_,_,_,_,X.gr G,Fx.bD G⟩
 have HR:=kH R;go_enter func20,ntmps20;go_wp2_with fail;refine HR.mono ?_;rintro e wr ⟨rfl,G⟩;have HG:=kH G;go_wp2_with fail;go_ret;exact HB _ _ HG rfl
def Cz:List (List Nat×Nat):=[(OH,1),(aal,3),(OI,2),(aam,0),(OJ,1),(aan,1),(OM,1),(EI,1),(OO,1),(OP,1)]
def abG:List (List UInt8×Int):=Cz.map fun q=>(q.1.map UInt8.ofNat,(q.2:Int))
theorem abH {s:ByteArray}(R:Rd w V s l)(X:Pr 71 B w g M H P U p)(hw:¬s.toList=[119,111,114,100,115])(hb:∀q k,(q,k)∈abG->s.toList=q->(l.length:Int)=k->False):Calls prog 20 #[.pointer (some ⟨g,0,none⟩),V] w (fE 71 B w g M H P (p,aQ)):=by
 have HB:Hid (∀e w',Gr w w'->e=.returned (str aQ)->fE 71 B w g M H P (p,aQ) e w'):=fun e w' G he=>⟨he,_,_,_,_,X.gr G,Fx.bD G⟩
 have HR:=kH R;have hw':(s.toList ==[119,111,114,100,115])=false:=by simpa using hw
 have HD:=kH hb;go_enter func20,ntmps20;go_wp2_with fail;refine HR.mono ?_;rintro e wr ⟨a,c,rfl,⟨N,_⟩,G⟩;have HG:=kH G;generalize l.length=n at *
 go_wp2_with fail
 all_goals first
  |(go_ret;exact HB _ _ HG rfl)
  |(refine(HD _ 1 ?_ bo ab).elim;decide)
  |(refine(HD _ 3 ?_ bo ab).elim;decide)
  |(refine(HD _ 2 ?_ bo ab).elim;decide)
  |(refine(HD _ 0 ?_ bo ab).elim;decide)
theorem KE (hd:∀d∈wd,d<256)(h:wd≠uU):¬(bs wd).toList=[119,111,114,100,115]:=fun e=>h (CZ hd an (nU (by rw[<-aqs,e];rfl)))
theorem Wo (hd:∀d∈wd,d<256)(h:∀q k,(q,k)∈Cz->wd=q->l.length=k->False):∀q k,(q,k)∈abG->(bs wd).toList=q->(l.length:Int)=k->False:=by
 intro q k hm e1 e2;unfold abG at hm;rw[apK]at hm;obtain⟨⟨a,n⟩,h1,h2⟩:=hm;simp only[auX]at h2;obtain⟨rfl,rfl⟩:=h2;have ha:∀d∈a,d<256:=by
  have:∀q∈Cz,∀d∈q.1,d<256:=an;exact this _ h1
 refine h a n h1 (CZ hd ha (nU ?_)) ab;rw[<-aqs,e1,bU]
theorem xV {k:Nat}(R:Rd w V (bs wd) l)(X:Pr 71 B w g M H P U p)(hd:∀d∈wd,d<256)(hw:wd≠uU)(h:∀q k,(q,k)∈Cz->wd=q->l.length=k->False):Calls prog 20 #[.pointer (some ⟨g,0,none⟩),V] w (fE 71 B w g M H P (p,aQ)):=abH R X (KE hd hw) (Wo hd h)
theorem cnt (n:Nat)(hn:∀x∈Cz,wd=x.1->x.2=n)(hl:l.length≠n):∀q k,(q,k)∈Cz->wd=q->l.length=k->False:=fun q k h1 h2 h3=>hl (h3.trans (hn (q,k) h1 h2))
theorem Wp (R:Rd w V (bs wd) l)(hd:∀d∈wd,d<256)(hl:∀x∈l,x<4294967296)(X:Pr 71 B w g M H P U p)(T:Tz B w):Calls prog 20 #[.pointer (some ⟨g,0,none⟩),V] w (fE 71 B w g M H P (OQ p wd l)):=by
 have TT:∀{W:World},Gr w W->∀{W2:World},Below B W W2->gz W2:=fun G _ h=>((T.gr G).below h).PY
 have bad:∀n,(∀x∈Cz,wd=x.1->x.2=n)->l.length≠n->wd≠uU->Calls prog 20 #[.pointer (some ⟨g,0,none⟩),V] w (fE 71 B w g M H P (p,aQ)):=fun n h1 h2 h3=>xV (k:=n) R X hd h3 (cnt n h1 h2)
 unfold OQ;by_cases h:wd=uU
 ·subst h;rw[at7 rfl];exact QK hl R X T
 rw[at6 h];by_cases h0:wd=OH
 ·subst h0;rw[at7 rfl]
  match l,R,hl,bad with
  | [x],R,hl,bad=>exact V8 R (Cm.mk fun W G=>PO (hl _ aq) (X.gr G) (TT G))
  | [],R,hl,bad=>exact bad 1 an aq h
  |_::_::_,R,hl,bad=>exact bad 1 an aq h
 rw[at6 h0];by_cases h1:wd=aal
 ·subst h1;rw[at7 rfl]
  match l,R,hl,bad with
  | [x,y,z],R,hl,bad=>exact(by
    by_cases hk:x<p.hs.length/\1<=y/\y<=31
    ·exact QI R (Cm.mk fun W G=>VB (hl _ aq) (X.gr G) hk.1 hk.2.1 hk.2.2)
    ·exact QI R (Cm.mk fun W G=>aa5 (X.gr G) hk))
  | [],R,hl,bad=>exact bad 3 an aq h
  | [_],R,hl,bad=>exact bad 3 an aq h
  | [_,_],R,hl,bad=>exact bad 3 an aq h
  |_::_::_::_::_,R,hl,bad=>exact bad 3 an aq h
 rw[at6 h1];by_cases h2:wd=OI
 ·subst h2;rw[at7 rfl]
  match l,R,hl,bad with
  | [x,y],R,hl,bad=>exact V9 R (Cm.mk fun W G=>PR (hl _ aq) (hl _ aq) (X.gr G) (TT G))
  | [],R,hl,bad=>exact bad 2 an aq h
  | [_],R,hl,bad=>exact bad 2 an aq h
  |_::_::_::_,R,hl,bad=>exact bad 2 an aq h
 rw[at6 h2];by_cases h3:wd=aam
 ·subst h3;rw[at7 rfl]
  match l,R,hl,bad with
  | [],R,hl,bad=>exact abB R (Cm.mk fun W G=>zb (X.gr G) (T.gr G))
  |_::_,R,hl,bad=>exact bad 0 an aq h
 rw[at6 h3];by_cases h4:wd=OJ
 ·subst h4;rw[at7 rfl]
  match l,R,hl,bad with
  | [x],R,hl,bad=>exact We R (Cm.mk fun W G=>Qg (hl _ aq) (X.gr G) (T.gr G))
  | [],R,hl,bad=>exact bad 1 an aq h
  |_::_::_,R,hl,bad=>exact bad 1 an aq h
 rw[at6 h4];by_cases h5:wd=aan
 ·subst h5;rw[at7 rfl]
  match l,R,hl,bad with
  | [x],R,hl,bad=>exact abC R (Cm.mk fun W G=>Ke (X.gr G) (TT G))
  | [],R,hl,bad=>exact bad 1 an aq h
  |_::_::_,R,hl,bad=>exact bad 1 an aq h
 rw[at6 h5];by_cases h6:wd=OM
 ·subst h6;rw[at7 rfl]
  match l,R,hl,bad with
  | [x],R,hl,bad=>exact Wl R (Cm.mk fun W G=>(Qk (hl _ aq) fun G2=>(T.gr (G.trans G2)).PY).mono fun e w' ⟨he,G2⟩=>⟨he,_,_,_,_,(X.gr G).gr G2,Fx.bD G2⟩)
  | [],R,hl,bad=>exact bad 1 an aq h
  |_::_::_,R,hl,bad=>exact bad 1 an aq h
 rw[at6 h6];by_cases h7:wd=OO
 ·subst h7;rw[at7 rfl]
  match l,R,hl,bad with
  | [x],R,hl,bad=>exact Wh R (Cm.mk fun W G=>QH (hl _ aq) (X.gr G) (T.gr G))
  | [],R,hl,bad=>exact bad 1 an aq h
  |_::_::_,R,hl,bad=>exact bad 1 an aq h
 rw[at6 h7];by_cases h8:wd=OP
 ·subst h8;rw[at7 rfl]
  match l,R,hl,bad with
  | [x],R,hl,bad=>exact Wj R (Cm.mk fun W G=>Qh (hl _ aq) (X.gr G))
  | [],R,hl,bad=>exact bad 1 an aq h
  |_::_::_,R,hl,bad=>exact bad 1 an aq h
 rw[at6 h8];by_cases h9:wd=EI
 ·subst h9;rw[at7 rfl]
  match l,R,hl,bad with
  | [x],R,hl,bad=>exact QJ (hl _ aq) R X T
  | [],R,hl,bad=>exact bad 1 an aq h
  |_::_::_,R,hl,bad=>exact bad 1 an aq h
 rw[at6 h9];refine xV (k:=0) R X hd h fun q k hm e _=>?_
 subst e;simp only[Cz,apx,auX,apB,auw]at hm;rcases hm with hm|hm|hm|hm|hm|hm|hm|hm|hm|hm
 ·exact h0 hm.1
 ·exact h1 hm.1
 ·exact h2 hm.1
 ·exact h3 hm.1
 ·exact h4 hm.1
 ·exact h5 hm.1
 ·exact h6 hm.1
 ·exact h9 hm.1
 ·exact h7 hm.1
 ·exact h8 hm.1
theorem EY {L:List Nat}(hl:∀d∈L,d<256)(hs:L.length<=4000000)(X:Pr 71 B w g M H P U p)(T:Tz B w):Calls prog 20 #[.pointer (some ⟨g,0,none⟩),str L] w (fE 71 B w g M H P (nQ p L)):=by
 have R:=ug hl hs T.ers;unfold nQ;cases hn:gu (splitN 32 L).tail with
 |none=>
  refine Wn (R.mono fun e w' ⟨q,G⟩=>?_) X;unfold RdA at q;rw[hn]at q;exact⟨q,G⟩
 |some l=>
  have hd:∀d∈(splitN 32 L).headD [],d<256:=by
   obtain⟨s1,s2,_⟩:=mG (c:=32) ab hl;rw[<-s1];exact s2
  refine Wp (R.mono fun e w' ⟨q,G⟩=>?_) hd (zx hn) X T;unfold RdA at q;rw[hn]at q;obtain⟨a,c,h1,h2⟩:=q;exact⟨a,c,h1,h2,G⟩
end Vp
namespace Vp
variable[Inhabited Hc.bN]
open Mm Hh Hc Mc Ud As Go.Lib
section
variable{P:Program}
theorem vV (base:Nat)(t u ty e:TypeId)(i:TypeInfo)(ht:P.underlying t=some (.slice e))(hu:P.underlying u=some .string)(hi:P.info? e=some i)(hz:i.zero=some (.int .u8 0))(hsize:i.size=1)(hby:i.bytes=1)(v:Value)(n:Nat)(xs:List Value)(hown:w.ownsRowF base e 1 v n xs)(s:ByteArray)(h63:n+s.size<=maxLen)(hbytes:n+s.size<=140737488355328)(hbase:base<=w.heap.size):∃v' w',(Builtin.append_ #[t,u] ty #[v,.string s]).run P w=.ok v' w'/\w'.ownsRowF base e 1 v' (n+s.size) (xs++strCells s)/\w.grownBy w' v.ownBlock/\∀k,v'.ownBlock=some k->v.ownBlock=some k\/w.heap.size<=k:=by
 obtain⟨v',w',hr,h2,h3,_⟩:=run_append_own_stringF (P:=P) w base t u ty e i ht hu hi hz hsize hby v n xs hown s h63 hbytes hbase;refine⟨v',w',hr,h2,h3,fun k hk=>?_⟩;rcases hown.2 with⟨rfl,rfl⟩|⟨g,cap,cur,fz,rfl,hbg,hg,hfz,hnc,hcm,hcs,htake⟩
 ·have hx:=apX (by simpa using hown.1);subst hx;obtain⟨v2,w2,hr2,k2,_⟩:=run_append_own_stringF (P:=P) w w.heap.size t u ty e i ht hu hi hz hsize hby (.slice none 0 0) 0 [] (World.ownsRowF_nil _ _ _ _) s h63 hbytes (apn _);rw[hr]at hr2;injection hr2 with e1 e2;subst e1;exact .inr (k2.lt k hk).1
 ·by_cases hroom:n+s.size<=cap
  ·have hcs':cur.size=cap:=by simpa using hcs
   have hr2:=run_append_room_stringF (P:=P) w t u ty e i ht hu hi hsize g n cap cur fz hg (by simpa using hfz) s hroom ab;rw[hr]at hr2;injection hr2 with e1 e2;subst e1;exact .inl hk
  ·have hxl:xs.length=n:=by simpa using hown.1
   have hsmall:n+s.size<=9223372036854775807:=by simp only[maxLen]at h63;omega
   have holds:=hown.cells (g:=g) rfl;have hr2:=run_append_grow_string (P:=P) w t u ty e i (.int .u8 0) ht hu hi hz ⟨g,0,none⟩ n cap xs (by rw[hsize];simpa using hxl) holds s ab ab (by rw[hby];exact growslice_fits ab ab);rw[hr]at hr2;injection hr2 with e1 e2;subst e1;simp only[Value.ownBlock,auj]at hk;exact .inr ab
theorem mK {a:Act}{Q:Exit→Act→World→Prop}(hgd:o.guard=none)(sl x:Operand)(t u:TypeId)(ho:o.op=.call { callee:=.builtin .append,args:=#[sl,x],argTypes:=#[t,u] })(base:Nat)(e:TypeId)(i:TypeInfo)(ht:P.underlying t=some (.slice e))(hu:P.underlying u=some .string)(hi:P.info? e=some i)(hz:i.zero=some (.int .u8 0))(hsize:i.size=1)(hby:i.bytes=1)(v:Value)(n:Nat)(xs:List Value)(hs:a.eval sl=v)(hown:w.ownsRowF base e 1 v n xs)(s:ByteArray)(hx:a.eval x=.string s)(h63:n+s.size<=maxLen)(hbytes:n+s.size<=140737488355328)(hbase:base<=w.heap.size)(h:∀v' w',w'.ownsRowF base e 1 v' (n+s.size) (xs++strCells s)->w.grownBy w' v.ownBlock->(∀k,v'.ownBlock=some k->v.ownBlock=some k\/w.heap.size<=k)->wpList P ops Q rest (a.put o.dst v') w'):wpList P ops Q (o::rest) a w:=by
 refine au5 hgd fun K hK=>?_
 obtain⟨v',w',hr,h2,h3,h4⟩:=vV (P:=P) base t u o.type e i ht hu hi hz hsize hby v n xs hown s h63 hbytes hbase;unfold Oper.wp execOp;simp only[ho,resolve,invoke,builtin,au3,avd,auM,List.map_toArray,aqo,aru,hs,hx,hr];exact hK _ _ (h v' w' h2 h3 h4)
end
variable{w w' w2:World}{ty g B b:Nat}{M H P U v v':Value}{p:Pl}
def Bv (B b:Nat) (v:Value) (l:List Value) (w:World):Prop:=∃q,(q=.pointer none\/q=.pointer (some ⟨b,0,none⟩))/\B<=b/\w.heap[b]?=some (.cells #[q,v] 74 (0,0))/\w.ownsRowF B 5 1 v l.length l/\v.ownBlock≠some b
theorem Bv.is (h:Bv B b v l w):Lib.IsBuilderF 74 5 B b l w:=by
 obtain⟨q,rfl|rfl,h1,h2,h3,h4⟩:=h
 ·exact .inl ⟨h1,v,h2,h3,h4⟩
 ·exact .inr ⟨h1,v,h2,h3,h4⟩
def Db (b:Nat) (v:Value) (k:Nat):Prop:=k=b\/v.ownBlock=some k
theorem Bv.check (h:Bv B b v l w):Calls prog 41 #[.pointer (some ⟨b,0,none⟩)] w fun e w'=>e=.returned (.tuple #[])/\(w'.heap[b]?=some (.cells #[.pointer (some ⟨b,0,none⟩),v] 74 (0,0))/\w'.ownsRowF B 5 1 v l.length l)/\Fx (Db b v) (Db b v) w w':=by
 obtain⟨q,hq,h1,h2,h3,h4⟩:=id h;rcases hq with rfl|rfl
 ·have h0:Lib.BuilderAtF 74 5 B b (.pointer none) l w:=⟨h1,v,h2,h3,h4⟩;refine(xR h0.cell0 h0.shape h0.frozen0).mono ?_;rintro e w' ⟨rfl,rfl⟩;refine⟨rfl,⟨by rw[hss h2];simp,h3.kept (row:=some b) ⟨rfl,rfl,rfl,aq,fun k _ hk=>hso (fun e=>hk (by rw[e]))⟩ (.inr h4)⟩,Fx.set (.inl rfl)⟩
 ·have h0:Lib.BuilderAtF 74 5 B b (.pointer (some ⟨b,0,none⟩)) l w:=⟨h1,v,h2,h3,h4⟩;refine(xS h0.cell0).mono ?_;rintro e w' ⟨rfl,rfl⟩;exact⟨rfl,⟨h2,h3⟩,Fx.refl _ _⟩
theorem QM (s:ByteArray)(h:Bv B b v l w)(hlen:l.length+s.size<=140737488355328)(hBw:B<=w.heap.size):Calls prog 19 #[.pointer (some ⟨b,0,none⟩),.string s] w fun e w'=>e=.returned (.tuple #[.int .i64 s.size,.nilIface])/\∃v',Bv B b v' (l++Lib.strCells s) w'/\Fx (Db b v) (Db b v') w w':=by
 obtain⟨i0,hi,hz0,hz1,hz2⟩:=auz Mm.info5;have HB:Hid (B<=b):=h.choose_spec.2.1;have HNE:Hid (v.ownBlock≠some b):=h.choose_spec.2.2.2.2;have HH:Hid (Calls prog 41 #[.pointer (some ⟨b,0,none⟩)] w fun e w'=>e=.returned (.tuple #[])/\(w'.heap[b]?=some (.cells #[.pointer (some ⟨b,0,none⟩),v] 74 (0,0))/\w'.ownsRowF B 5 1 v l.length l)/\Fx (Db b v) (Db b v) w w'):=h.check;clear h;go_enter func19,ntmps19;go_wp2_with fail;refine HH.mono ?_;rintro e w1 ⟨rfl,⟨hbk,hown⟩,F1⟩;have c0:w1.cell? ⟨b,0,none⟩=some (.pointer (some ⟨b,0,none⟩)):=(cr hbk).trans rfl;have c1:w1.cell? ⟨b,1,none⟩=some v:=(cr hbk).trans rfl;go_wp2_with (at_builtin;refine mK rfl _ _ 25 9 rfl B 5 i0 underlying25 underlying9 hi hz0 hz1 hz2 _ _ _ rfl hown s rfl ?c3 ?c4 ?c5 ?_)
 case c3=>unfold maxLen;omega
 case c4=>omega
 case c5=>have:=F1.size;omega
 intro v' w2 hown' hgrow hat;have hlt:b<w1.heap.size:=(gs hbk).1;have hb2:w2.heap[b]?=some (.cells #[.pointer (some ⟨b,0,none⟩),v] 74 (0,0)):=by
  rw[hgrow.block b hlt (fun e=>HNE.out e.symm)];exact hbk
 have d0:w2.cell? ⟨b,0,none⟩=some (.pointer (some ⟨b,0,none⟩)):=(cr hb2).trans rfl;have d1:w2.cell? ⟨b,1,none⟩=some v:=(cr hb2).trans rfl;have f1:w2.frozen? ⟨b,1,none⟩=false:=lh hb2;have HV:Hid (v'.ownBlock≠some b):=fun e=>by
  rcases hat b e with h|h
  ·exact HNE h
  ·omega
 obtain⟨ao,n',cap,rfl⟩:∃ao n' cap,v'=.slice ao n' cap:=by
  rcases hown'.2 with⟨hv,_⟩|⟨g,cap,cur,fz,hv,_⟩
  ·exact⟨_,_,_,hv⟩
  ·exact⟨_,_,_,hv⟩
 go_wp2;go_ret2;refine⟨rfl,_,⟨_,.inr rfl,HB,by rw[hss hb2];simp,?_,HV⟩,?_⟩
 ·have h5:w2.ownsRowF B 5 1 (.slice ao n' cap) (l++Lib.strCells s).length (l++Lib.strCells s):=by simpa[Lib.strCells_length]using hown'
  exact h5.kept (row:=some b) ⟨rfl,rfl,rfl,aq,fun k _ hk=>hso (fun e=>hk (by rw[e]))⟩ (.inr HV)
 ·refine F1.trans ((Fx.grown hgrow (fun k e=>.inr e) (D':=Db b (.slice ao n' cap)) ?_).trans (Fx.set (.inl rfl)));rintro k (h|h)
  ·exact .inl (.inl h)
  ·rcases hat k h with h|h
   ·exact .inl (.inr h)
   ·exact .inr h
theorem zV.other {us:List Uv}{k1 k2:Nat}(h:@zV ⟨⟨k1⟩⟩ g N w U us)(hk:N<=k2)(hgk:g≠k1):@zV ⟨⟨k2⟩⟩ g N w U us:=by
 obtain⟨w0,ua,uc,e,h1,h0,h2,h3,h4,h5⟩:=h;have h3o:=@Un.off ⟨⟨k1⟩⟩ _ _ _ _ h3;have h3u:=@Un.us ⟨⟨k1⟩⟩ _ _ _ _ h3;have h5':=h5
 -- the elder row as it is now
 obtain⟨w1,hw1,hz1⟩:∃w1:World,(∀k,k<N->(k≠k1->w1.heap[k]?=w0.heap[k]?)/\(k=k1->w1.heap[k]?=w.heap[k]?))/\w1.heap.size=N:=by
  by_cases hl:k1<N
  ·refine⟨{ w0 with heap:=w0.heap.setIfInBounds k1 (w.heap[k1]' ab) },fun k hk=>⟨fun hn=>?_,fun he=>?_⟩,by simp[h0]⟩
   ·show(w0.heap.setIfInBounds k1 _)[k]?=_
    rw[aqp (fun e=>hn e.symm)]
   ·subst he;show(w0.heap.setIfInBounds k _)[k]?=_
    rw[aqA ab];exact(aqk ab).symm
  ·exact⟨w0,fun k hk=>⟨fun _=>rfl,fun he=>absurd he ab⟩,h0⟩
 have hkk:∀k,k<w0.heap.size->@Kw ⟨⟨k1⟩⟩ w0 w1 k:=fun k hk=>by
  by_cases e:k=k1
  ·exact .inr (.inr e)
  ·exact .inl ((hw1 k ab).1 e)
 have hu1:=@Un.kw ⟨⟨k1⟩⟩ w1 w0 hkk _ _ _ ab h3;have hrow:∀b o,ua=some ⟨b,o,none⟩->0<us.length->w1.heap[b]?=w0.heap[b]?:=fun b o e hn=>@zG ⟨⟨k1⟩⟩ w1 w0 hkk _ _ _ h3 b o e hn
 have lts:∀{b i:Nat} {v:Value},w1.cell? ⟨b,i,none⟩=some v->b<N:=fun {b i v} h=>by
  have:=aug w1 _ h;rw[hz1]at this;exact this
 have hg1:NbW w1 g:=fun i v hv=>by
  have hl:=lts hv;by_cases e:g=k1
  ·exact absurd e hgk
  ·exact h4 i v ((aui ((hw1 g hl).1 e)).symm.trans hv)
 refine⟨w1,ua,uc,e,h1,hz1,h2,?_,hg1,fun k hk' hg=>?_⟩
 ·refine @Un.mk ⟨⟨k2⟩⟩ _ _ _ _ hu1 (fun b o e j hj=>?_);obtain⟨b',o',e',hb,hc⟩:=hu1.spot ab;rw[e]at e';injection e' with e';injection e' with e1 e2;subst e1 e2;obtain⟨x,⟨ba0,bn0,bc0,la0,ln0,lc0,ex,ou,_,_,M,L,_⟩,h2'⟩:=hc j us[j] (api hj);have WJ:=h2' 39 (.slice ba0 bn0 bc0) (by rw[ex];have:=eO (u:=us[j]) (b:=.slice ba0 bn0 bc0) (l:=.slice la0 ln0 lc0) ou.was 1;simpa using this);have QT:=h2' 40 (.slice la0 ln0 lc0) (by rw[ex];have:=eO (u:=us[j]) (b:=.slice ba0 bn0 bc0) (l:=.slice la0 ln0 lc0) ou.was 2;simpa using this);refine⟨show b≠k2 by omega,fun ba bn bc q hn ad ea=>?_,fun la ln lc q hn ad ea=>?_⟩
  ·rw[WJ]at q;injection q with q;injection q with q1 q2 q3;subst q1 q2;have hl:=aug w1 _ (M.cell ad ea 0 hn);rw[Mm.add_block,hz1]at hl;show ad.block≠k2
   omega
  ·rw[QT]at q;injection q with q;injection q with q1 q2 q3;subst q1 q2;obtain⟨lb,lo,e3,hlb,_⟩:=L.spot hn;rw[ea]at e3;injection e3 with e3;subst e3;show lb≠k2
   omega
 ·show w.heap[k]?=w1.heap[k]?\/NbW w1 k\/k=k2
  by_cases e:k=k1
  ·exact .inl ((hw1 k hk').2 e).symm
  ·rcases h5' k hk' hg with q|q|q
   ·exact .inl (q.trans ((hw1 k hk').1 e).symm)
   ·exact .inr (.inl fun i v hv=>q i v ((aui ((hw1 k hk').1 e)).symm.trans hv))
   ·exact absurd q e
theorem rz {base e sz n:Nat}(h:w.ownsRow base e sz v n xs)(hk:∀k,v.ownBlock=some k->w'.heap[k]?=w.heap[k]?):w'.ownsRow base e sz v n xs:=by
 obtain⟨h1,h2⟩:=h;refine⟨h1,?_⟩;rcases h2 with h2|⟨g,cap,cur,rfl,h3,h4,h5⟩
 ·exact .inl h2
 ·exact .inr ⟨g,cap,cur,rfl,h3,(hk g rfl).trans h4,h5⟩
theorem EZ (h:Bv B b v l w):NbW w b:=by
 obtain⟨q,hq,h1,h2,h3,h4⟩:=h;intro i u hu z;rw[cr h2]at hu
 match i,hu with
 |0,hu=>simp at hu;subst hu;rcases hq with rfl|rfl<;>simp
 |1,hu=>
  simp at hu;subst hu;rcases h3.2 with⟨rfl,_⟩|⟨_,_,_,_,rfl,_⟩<;>simp
 |i+2,hu=>simp at hu
theorem Pr.wr {k1 k2 Bb:Nat}{l:List Value}(X:@Pr ⟨⟨k1⟩⟩ ty B w g M H P U p)(hv:Bv Bb b v l w)(F:Fx (Db b v) (Db b v') w w')(hk1:∀k,v.ownBlock=some k->k=k1)(ai6:k2=k1\/w.heap.size<=k2)(hgk:g≠k1)(ap:∀k,Dm g M H P k->¬Db b v k):@Pr ⟨⟨k2⟩⟩ ty B w' g M H P U p/\∀k,Dm g M H P k->¬Db b v' k:=by
 have hd:=@Pr.dom ⟨⟨k1⟩⟩ w ty g B M H P U p X;have kp:∀k,Dm g M H P k->w'.heap[k]?=w.heap[k]?:=fun k h=>F.keep k (hd k h).2 (ap k h)
 refine⟨?_,fun k h h2=>?_⟩
 ·obtain⟨N,n1,n2,n3,n4⟩:=@Pr.row ⟨⟨k1⟩⟩ _ _ _ _ _ _ _ _ _ X;have n4':p.fr=true->@zV ⟨⟨k2⟩⟩ g N w' U p.us:=fun hf=>by
   have h5:=@zV.wr ⟨⟨k1⟩⟩ _ _ _ _ _ _ (n4 hf) F.size (fun k hk hg=>by
    by_cases hb:k=b
    ·subst hb;exact .inr (.inl (EZ hv))
    ·by_cases hw:v.ownBlock=some k
     ·exact .inr (.inr (hk1 k hw))
     ·exact .inl (F.keep k ab (fun h=>h.elim hb hw)))
   rcases ai6 with rfl|h6
   ·exact h5
   ·exact zV.other h5 ab hgk
  have m:=@Pr.mx ⟨⟨k1⟩⟩ _ _ _ _ _ _ _ _ _ X
  exact @Pr.mk ⟨⟨k2⟩⟩ _ _ _ _ _ _ _ _ _ (@Pr.oU ⟨⟨k1⟩⟩ _ _ _ _ _ _ _ _ _ X) (@Pr.bg ⟨⟨k1⟩⟩ _ _ _ _ _ _ _ _ _ X) ((kp g (.inl rfl)).trans (@Pr.blk ⟨⟨k1⟩⟩ _ _ _ _ _ _ _ _ _ X))
   ⟨rz m.mem fun k e=>kp k (.inr (.inl e)),rz m.hrt fun k e=>kp k (.inr (.inr (.inl e))),m.ok⟩ (@Pr.ok ⟨⟨k1⟩⟩ _ _ _ _ _ _ _ _ _ X)
   ⟨N,n1,apr n2 F.size,rz n3 fun k e=>kp k (.inr (.inr (.inr e))),n4'⟩ (@Pr.un ⟨⟨k1⟩⟩ _ _ _ _ _ _ _ _ _ X)
 ·rcases F.dom k h2 with h3|h3
  ·exact ap k h h3
  ·have:=(hd k h).2;omega
theorem Bv.fx {D D':Nat->Prop}(h:Bv B b v l w)(F:Fx D D' w w')(ap:∀k,D k->¬Db b v k):Bv B b v l w'/\∀k,D' k->¬Db b v k:=by
 obtain⟨q,hq,h1,h2,h3,h4⟩:=h;have hl:∀k,Db b v k->k<w.heap.size:=fun k hk=>by
  rcases hk with rfl|hk
  ·exact(gs h2).1
  ·exact(h3.lt k hk).2
 have kp:∀k,Db b v k->w'.heap[k]?=w.heap[k]?:=fun k hk=>F.keep k (hl k hk) (fun hd=>ap k hd hk)
 refine⟨⟨q,hq,h1,(kp b (.inl rfl)).trans h2,⟨h3.1,?_⟩,h4⟩,fun k hd hk=>?_⟩
 ·rcases h3.2 with e|⟨g,cap,cur,fz,rfl,e1,e2,e3⟩
  ·exact .inl e
  ·exact .inr ⟨g,cap,cur,fz,rfl,e1,(kp g (.inr rfl)).trans e2,e3⟩
 ·rcases F.dom k hd with h5|h5
  ·exact ap k h5 hk
  ·have:=hl k hk;omega
end Vp
end Go.Proofs.YtiadhbmnfjfioaaGreatDoor
