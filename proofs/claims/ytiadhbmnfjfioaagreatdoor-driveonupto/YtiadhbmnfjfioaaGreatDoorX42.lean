/- ours -/
import Derived.Test.YtiadhbmnfjfioaaGreatDoorX39
import Derived.Test.YtiadhbmnfjfioaaGreatDoorX40
set_option linter.unusedVariables false
set_option linter.unusedSimpArgs false
set_option maxHeartbeats 8000000
set_option maxRecDepth 100000
set_option linter.unusedSectionVars false
namespace Go.Proofs.YtiadhbmnfjfioaaGreatDoor
open Go.Proofs.Tryz
open Go.ChangeShapes Go.WideShapes Go.ChangeAt Go.RowKit
variable [Inhabited Hc.bN]
namespace Vp
open Mm Hh Hc Mc Ud As

variable {w w' :World} {g B :Nat} {M H P U :Value} {p :Pl}
theorem abr {b:Nat}{K:IntKind}{x y:Nat}{t:Nat}{f:Nat×Nat}(h:w.heap[b]?=some (.cells #[.int K x,.int K y] t f)):Ns K w (some ⟨b,0,none⟩) 2 [x,y]:=
 ⟨rfl,fun _=>⟨b,0,rfl,(gs h).1,fun i z hi=>by
  match i,hi with
  |0,hi=>
   simp only[apw,auj]at hi;subst hi;exact iE h
  |1,hi=>
   simp only[apI,apw,auj]at hi;subst hi;exact iY h
  |i+2,hi=>simp at hi⟩⟩
theorem VV {b:Nat}{h:Hv}(o:h.Ok){t:Nat}{f:Nat×Nat}(hb:w.heap[b]?=some (.cells (hA h) t f)):Ns .u32 w (some ⟨b,0,none⟩) 32 (h.regs.map Int.toNat):=
 ⟨by rw[apY,o.len],fun _=>⟨b,0,rfl,(gs hb).1,fun i x hi=>by
  rw[apT]at hi;obtain⟨y,hy,rfl⟩:=aqv.1 hi;have hl:i<32:=by rw[<-o.len];exact(apj.1 hy).1
  have hr:=lC o hl;have e:Hh.rg h i=y:=by unfold Hh.rg;rw[apV,hy];rfl
  have h0:=(o.reg i).1;rw[e]at hr h0;rw[apu,cr hb];show(hL h).toArray[i]?=_
  rw[apm,hr,show((y.toNat:Nat):Int)=y by omega]⟩⟩
theorem iHr:(prog.info? 43).map (·.size)=some 37:=by kernel_rfl
theorem aeQ {b:Nat}{st cs pc:Nat}{l:List Nat}(S:Gs w b 3 [[dg st,dg cs],[dg pc],l.map dg])(h1:st<9223372036854775808)(h2:cs<9223372036854775808)(h3:pc<9223372036854775808)(hl:∀x∈l,x<9223372036854775808)(hn:l.length<=500000):Calls prog 51 #[.slice (some ⟨b,0,none⟩) 3 3] w fun e w'=>e=.returned (str (bH (dg st) (cs::pc::l)))/\Gr w w':=by
 have:=jv (c:=3) S (by simp;omega) (by omega) (by simp) (fun x hx=>by
  simp only[aqz,aqT,apz,apR,apE,apK,apx,apB,auw]at hx;rcases hx with(rfl|rfl)|rfl|⟨y,hy,rfl⟩
  ·exact nR h1
  ·exact nR h2
  ·exact nR h3
  ·exact nR (hl y hy))
 rw[sS];simpa using this
structure Ask (p:Pl) (k st cs pc:Nat) (rs:List Nat) (L0:List Value):Prop where
 s:st<10/\cs<10/\pc<4294967296/\rs.length=32
 rw:∀x∈rs,x<4294967296
 len:L0.length=37
 one:L0.toArray.all (·.oneCell')=true
 NZ:∀(W:World) (b:Nat),W.heap[b]?=some (.cells L0.toArray 43 (0,0))->W.cell? ⟨b,35,none⟩=some (.int .i64 (st:Nat))/\W.cell? ⟨b,36,none⟩=some (.int .i64 (cs:Nat))/\W.cell? ⟨b,32,none⟩=some (.int .u32 (pc:Nat))/\Ns .u32 W (some ⟨b,0,none⟩) 32 rs
 res:vS p [k]=bH (dg st) (cs::pc::rs)
theorem VW {ty k:Nat}(X:Pr ty B w g M H P U p)(hk:k<p.hs.length):∃gh hc st cs pc rs L0,H=.slice (some ⟨gh,0,none⟩) p.hs.length hc/\w.rangeAt gh (k*37) L0/\Ask p k st cs pc rs L0:=by
 obtain⟨o1,o2⟩:=X.ok.hok _ (sP hk);have ms:0<=(hAt p k).state/\(hAt p k).state<=2/\0<=(hAt p k).cause/\(hAt p k).cause<=6:=by
  unfold may at o2;simp only[auk]at o2;omega
 obtain⟨ma,mc,ha,hc0,pa,pc,ua,un,uc,rfl,rfl,rfl,rfl,_,_,hH,_⟩:=X.open;obtain⟨gh,oh,rfl,he⟩:=He X.mx.hrt (by omega);have hp:=o1.jV;have hp0:=o1.nH;refine⟨gh,hc0,(hAt p k).state.toNat,(hAt p k).cause.toNat,(hAt p k).pc.toNat,(hAt p k).regs.map Int.toNat,hL (hAt p k),rfl,?_,⟨by omega,by omega,by omega,by rw[apY];exact o1.len⟩,fun x hx=>?_,aD o1,?_,fun W b hb=>?_,by simp only[vS,at7 hk]⟩
 ·obtain⟨b,o,e2,_,hc⟩:=hH.spot (by omega);injection e2 with e2;injection e2 with e3 e4;subst e3 e4;have:=hc k (hAt p k) (by unfold hAt;rw[apV,api hk];rfl);rw[apu]at this;exact this
 ·obtain⟨y,hy,rfl⟩:=apK.1 hx;obtain⟨i,hi⟩:=List.getElem?_of_mem hy;have:=o1.reg i;unfold Hh.rg at this;rw[apV,hi,aqw]at this;omega
 ·rw[List.all_toArray,apM];exact PK _
 ·have hs:=fun(j:Nat)=>aW (h:=hAt p k) o1 j
  have c:∀j:Nat,W.cell? ⟨b,32+j,none⟩=(hL (hAt p k))[32+j]?:=fun j=>by
   rw[cr hb,apm]
  refine⟨(c 3).trans ((hs 3).trans ?_),(c 4).trans ((hs 4).trans ?_),(c 0).trans ((hs 0).trans ?_),VV o1 hb⟩
  ·show some (Value.int .i64 (hAt p k).state)=_
   rw[show(((hAt p k).state.toNat:Nat):Int)=(hAt p k).state by omega]
  ·show some (Value.int .i64 (hAt p k).cause)=_
   rw[show(((hAt p k).cause.toNat:Nat):Int)=(hAt p k).cause by omega]
  ·show some (Value.int .u32 (hAt p k).pc)=_
   rw[show(((hAt p k).pc.toNat:Nat):Int)=(hAt p k).pc by omega]
def Qh {N:Nat} (L:List (List Nat)) (n:Nat):Rg.Kd N []:=Rg.Fa (fun x:Option Addr×Nat=>.slice x.1 n x.2) (fun W x=>Ts W x.1 n L/\(x.1=none->x.2=0)) fun g h=>fP h g
theorem VX {k:Nat}(X:Pr 71 B w g M H P U p)(T:∀{W:World},Below B w W->gz W)(hk:k<p.hs.length):Calls prog 49 #[.pointer (some ⟨g,0,none⟩),.int .u32 k] w (fE 71 B w g M H P (p,vS p [k])):=by
 have GR:Hid (Calls prog 77 #[.pointer (some ⟨g,0,none⟩),.int .u32 k] w fun e w'=>e=.returned (.bool true)/\w=w'):=(dE X).mono fun e w' ⟨a,b⟩=>⟨by rw[a];exact congrArg (fun t=>Ending.returned (.bool t)) (auq hk),b⟩
 obtain⟨gh,hc0,st,cs,jV,rs,L0,rfl,hrg,A⟩:=VW X hk;rw[A.res];have HX:=kH X;have HA:=kH A;have HRG:=kH hrg;have z1:=iY X.blk;have h4:=X.ok.h4;have HTG:Hid (∀W,Gr w W->gz W):=fun W G=>T (aun G X.le)
 obtain⟨⟨s1,s2,s3,s4⟩,hrw,hll, -, -, -⟩:=A;have rH:=kH hll;have sJ:Hid (L0.toArray.size=37):=by unfold Hid;rw[ap2];exact hll
 have HJ:Hid (∀(W:World) (b:Nat),Gs W b 3 [[dg st,dg cs],[dg jV],rs.map dg]->_):=fun W b S=>aeQ S (by omega) (by omega) (by omega) (fun x hx=>by have:=hrw x hx;omega) (by omega)
 have HRW:=kH hrw;have k0:(k:Int)<(p.hs.length:Int):=by omega
 generalize p.hs.length=n at *
 generalize hV:str (bH (dg st) (cs::jV::rs))=V at *
 have HV:=kH hV;generalize hD:L0.toArray=D0 at *
 have HD:=kH hD.symm;go_enter func49,ntmps49;go_wp2_with fail;refine GR.out.mono ?_;rintro e _ ⟨rfl,rfl⟩
 go_wp2_with (first
  |(refine auA rfl 43 _ rfl gh (k*37) rfl L0 _ ?r1 underlying43 rfl (by rw[rH.out];exact iHr) ?_;(case r1=>exact HRG.out))
  |(refine auf rfl 43 _ _ rfl w.heap.size D0 rfl (by simp[Act.eval,Act.put,HD.out]) 43 (hA ⟨List.replicate 32 0,0,false,0,0,0⟩) ?r3 (by rw[sJ.out];exact iHr) (by rw[sJ.out];rfl) (by rw[HD.out];exact HA.out.one) ?_;(case r3=>exact at5 w _)))
 refine aT (fun W=>W.heap[w.heap.size]?=some (.cells D0 43 (0,0))/\Gr w W) ⟨aup _ _ _ _ _ (0,0) (at5 w _),ag ((Gr.refl w).alloc _) (apn _) _⟩ ?_;generalize w.heap.size=b5 at *
 rintro w4 ⟨hb,G4⟩;have fC:=kH G4;obtain⟨y0,y1,y2,N4⟩:=HA.out.NZ w4 b5 (by rw[<-HD.out];exact hb);have HN4:=kH N4;have hw4:=(gs hb).1;refine Rg.ve (T:=[]) [Rg.Val (.pointer (some ⟨b5,35,none⟩)),Rg.Val (.int .i64 st),Rg.Val (.pointer (some ⟨b5,36,none⟩)),Rg.Val (.int .i64 cs),Rg.Rl #[.int .i64 (st:Int),.int .i64 (cs:Int)] 3 2,Qh [dg st,dg cs] 2,Rg.Val (.pointer (some ⟨b5,32,none⟩)),Rg.Val (.int .u32 jV),Rg.Rl #[.int .u32 (jV:Int)] 37 1,Qh [dg jV] 1,Rg.Val (.pointer (some ⟨b5,0,none⟩)),Rg.Val (.slice (some ⟨b5,0,none⟩) 32 32),Qh (rs.map dg) 32,Rg.Fa (fun b:Nat=>.slice (some ⟨b,0,none⟩) 3 3) (fun W b=>Gs W b 3 [[dg st,dg cs],[dg jV],rs.map dg]) (fun g h=>h.of g),Rg.Val V,Rg.Val V] [[],[0],[],[2],[1,3],[4],[],[6],[7],[8],[],[10],[11],[5,9,12],[13],[14]] (by kernel_rfl) (by kernel_rfl) ?_ ?_
 ·simp only[Rg.Rp,Rg.ObS,Rg.dep,Rg.Ob,Rg.at',Rg.Val,Rg.Fa,Rg.zW,Rg.Rl,Rg.made,Rg.nS,List.replicate,apH,ap8,apC,apy,apw,apI,aqj,Act.put,apl,Rg.inT,au7,Qh];refine⟨?_,?_,?_,?_,?_,?_,?_,?_,?_,?_,?_,?_,?_,?_,?_,?_,trivial⟩;all_goals intro W hW
  all_goals (have q0:=(hW.cell _ (by exact hw4)).trans y0;have q1:=(hW.cell _ (by exact hw4)).trans y1;have q2:=(hW.cell _ (by exact hw4)).trans y2)
  case refine_6=>
   rintro _ ⟨b,rfl,hb⟩ K hK;go_simp;refine(Hm (l:=[st,cs]) (abr hb) (fun y hy=>by simp only[apx,apB,auw]at hy;rcases hy with rfl|rfl<;>omega) (by omega) (HTG.out _ (fC.out.trans hW))).mono ?_;rintro e w' ⟨a,k,rfl,h,G⟩;exact hK.out _ _ G ⟨(a,k),rfl,h⟩ trivial
  case refine_10=>
   rintro _ ⟨b,rfl,hb⟩ K hK;go_simp;refine(Hq (l:=[jV]) (rq hb) (fun y hy=>by rw[apE.1 hy];omega) (by omega) (HTG.out _ (fC.out.trans hW))).mono ?_;rintro e w' ⟨a,k,rfl,h,G⟩;exact hK.out _ _ G ⟨(a,k),rfl,h⟩ trivial
  case refine_13=>
   rintro _ rfl K hK;go_simp;refine(Hq (HN4.out.of hW) HRW.out (by omega) (HTG.out _ (fC.out.trans hW))).mono ?_;rintro e w' ⟨a,k,rfl,h,G⟩;exact hK.out _ _ G ⟨(a,k),rfl,h⟩ trivial
  case refine_14=>
   rintro _ ⟨⟨a0,k0⟩,rfl,h0⟩ _ ⟨⟨a1,k1⟩,rfl,h1⟩ _ ⟨⟨a2,k2⟩,rfl,h2⟩ K hK;go_simp;exact hK.out _ _ ((Gr.refl _).alloc _) ⟨_,rfl,gs3 (at5 W _) (fP h0 ((Gr.refl _).alloc _)) (fP h1 ((Gr.refl _).alloc _)) (fP h2 ((Gr.refl _).alloc _))⟩ trivial
  case refine_15=>
   rintro _ ⟨b,rfl,S⟩ K hK;go_simp;refine(HJ.out W _ S).mono ?_;rintro e w' ⟨rfl,G⟩;exact hK.out _ _ G rfl trivial
  all_goals intros
  all_goals subst_vars
  all_goals rename_i K hK
  all_goals go_simp
  all_goals first|exact hK.out _ _ (Gr.refl _) rfl trivial|exact hK.out _ _ ((Gr.refl _).alloc _) ⟨_,rfl,at5 _ _⟩ trivial
 ·intro w' G;simp only[Rg.Fin',Rg.Val,Rg.Fa,Rg.zW,Rg.Rl,Qh,ave,Act.put,apl,apC,apy];rintro _-_-_-_-_-_-_-_-_-_-_-_-_-_-_-v hv;go_wp2_with fail;go_ret;exact⟨congrArg Ending.returned (hv.trans HV.out.symm),_,_,_,_,HX.out.gr (fC.out.trans G),Fx.bD (fC.out.trans G)⟩
theorem VY {k:Nat}(X:Pr 71 B w g M H P U p)(hk:¬k<p.hs.length):Calls prog 49 #[.pointer (some ⟨g,0,none⟩),.int .u32 k] w (fE 71 B w g M H P (p,vS p [k])):=by
 have e:vS p [k]=aQ:=by simp only[vS,at6 hk]
 rw[e];have GR:Hid (Calls prog 77 #[.pointer (some ⟨g,0,none⟩),.int .u32 k] w fun e w'=>e=.returned (.bool false)/\w=w'):=(dE X).mono fun e w' ⟨a,b⟩=>⟨by rw[a];exact congrArg (fun t=>Ending.returned (.bool t)) (auh hk),b⟩
 have HX:=kH X;go_enter func49,ntmps49;go_wp2_with fail;refine GR.out.mono ?_;rintro e _ ⟨rfl,rfl⟩;go_wp2_with fail;go_ret;exact⟨rfl,_,_,_,_,HX.out,Fx.refl _ _⟩
theorem Kb {k:Nat}(X:Pr 71 B w g M H P U p)(T:∀{W:World},Below B w W->gz W):Calls prog 49 #[.pointer (some ⟨g,0,none⟩),.int .u32 k] w (fE 71 B w g M H P (p,vS p [k])):=by
 by_cases hk:k<p.hs.length
 ·exact VX X T hk
 ·exact VY X hk
end Vp
namespace Vp
open Mm Hh Hc Mc Ud As Kc

variable {w w' :World} {g :Nat}
theorem VZ {b:Nat}{K:IntKind}{x y z u:Nat}{t:Nat}{f:Nat×Nat}(h:w.heap[b]?=some (.cells #[.int K x,.int K y,.int K z,.int K u] t f)):Ns K w (some ⟨b,0,none⟩) 4 [x,y,z,u]:=
 ⟨rfl,fun _=>⟨b,0,rfl,(gs h).1,fun i v hi=>by
  match i,hi with
  |0,hi=>
   simp only[apw,auj]at hi;subst hi;exact iE h
  |1,hi=>
   simp only[apI,apw,auj]at hi;subst hi;exact iY h
  |2,hi=>
   simp only[apI,apw,auj]at hi;subst hi;exact EZ h
  |3,hi=>
   simp only[apI,apw,auj]at hi;subst hi;exact QP h
  |i+4,hi=>simp at hi⟩⟩
theorem yu {a:Int}(h0:0<=a)(h1:a<4294967296):0<=Dc.aO a/\Dc.aO a<=59:=by have:=Dc.kI h0 h1;unfold Dc.aO;split<;>omega
structure Wt (a:Int) (x0 x1 x2 x3 x4:Nat):Prop where
 e0:Dc.aO a=x0
 e1:Dc.iF (Dc.aJ (Dc.aO a)) a=x1
 e2:Dc.bZ (Dc.aJ (Dc.aO a)) a=x2
 e3:Dc.bV (Dc.aJ (Dc.aO a)) a=x3
 e4:Dc.bS (Dc.aJ (Dc.aO a)) a%4294967296=x4
 b0:x0<=1000
 b1:x1<=1000
 b2:x2<=1000
 b3:x3<=1000
 b4:x4<4294967296
theorem Qi {x:Nat}(hx:x<4294967296):∃x0 x1 x2 x3 x4,Wt x x0 x1 x2 x3 x4:=by have h1:=wO (Dc.aJ (Dc.aO x)) x;have h2:=Nl (Dc.aJ (Dc.aO x)) x;have h3:=Np (Dc.aJ (Dc.aO x)) x;have h0:0<=Dc.aO x/\Dc.aO x<=59:=yu (by omega) (by omega);exact⟨(Dc.aO x).toNat,(Dc.iF (Dc.aJ (Dc.aO x)) x).toNat,(Dc.bZ (Dc.aJ (Dc.aO x)) x).toNat,(Dc.bV (Dc.aJ (Dc.aO x)) x).toNat,(Dc.bS (Dc.aJ (Dc.aO x)) x%4294967296).toNat,⟨by omega,by omega,by omega,by omega,by omega,by omega,by omega,by omega,by omega,by omega⟩⟩
theorem abt {x:Nat}(hx:x<4294967296)(hd:Dc.aO x≠0)(T:∀{W:World},Gr w W->gz W):Calls prog 50 #[.int .u32 x] w fun e w'=>e=.returned (str (nP [x]))/\Gr w w':=by
 obtain⟨x0,x1,x2,x3,x4,Q⟩:=Qi hx;have ib:=yF (Dc.aJ (Dc.aO x)) (show(0:Int)<=x by omega) (show(x:Int)<4294967296 by omega);have e:nP [x]=bH aIs [x0,x1,x2,x3,x4]:=by
  unfold nP;simp only[at6 hd];rw[Q.e4,Q.e1,Q.e2,Q.e3,Q.e0];simp
 rw[e];have HD:Hid (Calls prog 14 #[.int .u32 x] w fun e w'=>e=.returned (.tuple #[.agg #[.int .i64 (x0:Int),.int .i64 (x1:Int),.int .i64 (x2:Int),.int .i64 (x3:Int),.int .i32 (Dc.bS (Dc.aJ (Dc.aO x)) x)],.bool true])/\Gr w w'):=by
  refine(Dw.jh (x:Int) w (T (Gr.refl _)).tb (by omega) (by omega)).mono fun e w' ⟨he,G⟩=>⟨?_,G.1⟩
  rw[he];unfold Dw.kP Dw.df Dw.fZ;rw[auq hd,Q.e1,Q.e2,Q.e3,Q.e0]
 have q4:=Q.e4;have b0:=Q.b0;have b1:=Q.b1;have b2:=Q.b2;have b3:=Q.b3;have b4:=Q.b4;have HT:Hid (∀{W:World},Gr w W->gz W):=T;clear T Q hd e;generalize Dc.bS (Dc.aJ (Dc.aO x)) x=z4 at *
 have ann:IntKind.u32.wrap z4=(x4:Int):=by rw[IntKind.wrap_u32];omega
 have HJ:Hid (∀(W:World) (b:Nat),Gs W b 3 [[aIs],[dg x0,dg x1,dg x2,dg x3],[dg x4]]->Calls prog 51 #[.slice (some ⟨b,0,none⟩) 3 3] W fun e w'=>e=.returned (str (bH aIs [x0,x1,x2,x3,x4]))/\Gr W w'):=fun W b S=>Xx (k:=[x0,x1,x2,x3]) (l:=[x4]) S (by decide) (fun y hy=>by simp only[apx,apB,auw]at hy;rcases hy with rfl|rfl|rfl|rfl<;>omega) (fun y hy=>by rw[apE.1 hy];omega) (by simp)
 generalize str (bH aIs [x0,x1,x2,x3,x4])=TXT at *
 go_enter func50,ntmps50;go_wp2_with fail;refine HD.out.mono ?_;rintro e w1 ⟨rfl,G1⟩;have aU:=kH G1;go_wp2_with (refine auf rfl 59 _ _ rfl w1.heap.size #[.int .i64 (x0:Int),.int .i64 (x1:Int),.int .i64 (x2:Int),.int .i64 (x3:Int),.int .i32 z4] rfl (by simp[Act.eval,Act.put]) 59 #[.int .i64 0,.int .i64 0,.int .i64 0,.int .i64 0,.int .i32 0] ?r3 Hf.iI rfl (Hf.mZ _ _ _ _ _) ?_;(case r3=>exact at5 w1 _));refine aT (fun W=>W.heap[w1.heap.size]?=some (.cells #[.int .i64 (x0:Int),.int .i64 (x1:Int),.int .i64 (x2:Int),.int .i64 (x3:Int),.int .i32 z4] 59 (0,0))/\Gr w W) ⟨aup _ _ _ _ _ (0,0) (at5 w1 _),ag (aU.out.alloc _) aU.out.size _⟩ ?_;generalize w1.heap.size=b5 at *
 rintro w4 ⟨hb,G4⟩;have fC:=kH G4;have y0:=iE hb;have y1:=iY hb;have y2:=EZ hb;have y3:=QP hb;have y4:=E8 hb;have hw4:=(gs hb).1;have HTI:Hid (∀(W:World) (b t:Nat) (f:Nat×Nat),Gr w4 W->W.heap[b]?=some (.cells #[.int .i64 (x0:Int),.int .i64 (x1:Int),.int .i64 (x2:Int),.int .i64 (x3:Int)] t f)->Calls prog 52 #[.slice (some ⟨b,0,none⟩) 4 4] W fun e w'=>∃a k,e=.returned (.slice a 4 k)/\(Ts w' a 4 [dg x0,dg x1,dg x2,dg x3]/\(a=none->k=0))/\Gr W w'):=fun W b t f G h=>Hm (l:=[x0,x1,x2,x3]) (VZ h) (fun y hy=>by simp only[apx,apB,auw]at hy;rcases hy with rfl|rfl|rfl|rfl<;>omega) (by omega) (HT.out (fC.out.trans G))
 have HTP:Hid (∀(W:World) (b t:Nat) (f:Nat×Nat),Gr w4 W->W.heap[b]?=some (.cells #[.int .u32 (x4:Int)] t f)->Calls prog 79 #[.slice (some ⟨b,0,none⟩) 1 1] W fun e w'=>∃a k,e=.returned (.slice a 1 k)/\(Ts w' a 1 [dg x4]/\(a=none->k=0))/\Gr W w'):=fun W b t f G h=>Hq (l:=[x4]) (rq h) (fun y hy=>by rw[apE.1 hy];omega) (by omega) (HT.out (fC.out.trans G))
 let Rl:Array Value->TypeId->Nat->Rg.Kd w4.heap.size []:=fun c t n=>Rg.Fa (fun b:Nat=>.slice (some ⟨b,0,none⟩) n n) (fun W b=>W.heap[b]?=some (.cells c t (0,0))) (fun g h=>cu g h)
 let Cal:List (List Nat)->Nat->Rg.Kd w4.heap.size []:=fun L n=>Rg.Fa (fun x:Option Addr×Nat=>.slice x.1 n x.2) (fun W x=>Ts W x.1 n L/\(x.1=none->x.2=0)) (fun g h=>fP h g)
 refine Rg.ve (T:=[]) [Rl #[.string ⟨#[105,115]⟩] 9 1,Rg.Val (.pointer (some ⟨b5,0,none⟩)),Rg.Val (.int .i64 x0),Rg.Val (.pointer (some ⟨b5,1,none⟩)),Rg.Val (.int .i64 x1),Rg.Val (.pointer (some ⟨b5,2,none⟩)),Rg.Val (.int .i64 x2),Rg.Val (.pointer (some ⟨b5,3,none⟩)),Rg.Val (.int .i64 x3),Rl #[.int .i64 (x0:Int),.int .i64 (x1:Int),.int .i64 (x2:Int),.int .i64 (x3:Int)] 3 4,Cal [dg x0,dg x1,dg x2,dg x3] 4,
  Rg.Val (.pointer (some ⟨b5,4,none⟩)),Rg.Val (.int .i32 z4),Rg.Val (.int .u32 x4),Rl #[.int .u32 (x4:Int)] 37 1,Cal [dg x4] 1,Rg.Fa (fun b:Nat=>.slice (some ⟨b,0,none⟩) 3 3) (fun W b=>Gs W b 3 [[aIs],[dg x0,dg x1,dg x2,dg x3],[dg x4]]) (fun g h=>h.of g),Rg.Val TXT,Rg.Val TXT] [[],[],[1],[],[3],[],[5],[],[7],[2,4,6,8],[9],[],[11],[12],[13],[14],[0,10,15],[16],[17]] (by kernel_rfl) (by kernel_rfl) ?_ ?_
 ·simp only[Rg.Rp,Rg.dep,Rg.Ob,Rg.at',Rg.Val,Rg.Fa,Rg.zW,Rg.made,Rg.nS,List.replicate,apH,ap8,apC,apy,apw,apI,Act.put,apl,Rg.inT,au7,Rl,Cal];refine⟨?_,?_,?_,?_,?_,?_,?_,?_,?_,?_,?_,?_,?_,?_,?_,?_,?_,?_,?_,trivial⟩;all_goals intro W hW
  all_goals have q0:=(hW.cell _ (by exact hw4)).trans y0
  all_goals have q1:=(hW.cell _ (by exact hw4)).trans y1
  all_goals have q2:=(hW.cell _ (by exact hw4)).trans y2
  all_goals have q3:=(hW.cell _ (by exact hw4)).trans y3
  all_goals have q4:=(hW.cell _ (by exact hw4)).trans y4
  case refine_11=>
   rintro _ ⟨b,rfl,hb⟩ K hK;go_simp;refine(HTI.out W _ _ _ hW hb).mono ?_;rintro e w' ⟨a,k,rfl,h,G⟩;exact hK.out _ _ G ⟨(a,k),rfl,h⟩ trivial
  case refine_16=>
   rintro _ ⟨b,rfl,hb⟩ K hK;go_simp;refine(HTP.out W _ _ _ hW hb).mono ?_;rintro e w' ⟨a,k,rfl,h,G⟩;exact hK.out _ _ G ⟨(a,k),rfl,h⟩ trivial
  case refine_17=>
   rintro _ ⟨b,rfl,hb⟩ _ ⟨⟨a1,k1⟩,rfl,h1⟩ _ ⟨⟨a2,k2⟩,rfl,h2⟩ K hK;have h0:=oP (W:=aIs) hb;go_simp;exact hK.out _ _ ((Gr.refl _).alloc _) ⟨_,rfl,gs3 (at5 W _) ⟨h0.of ((Gr.refl _).alloc _),fun e=>by cases e⟩ (fP h1 ((Gr.refl _).alloc _)) (fP h2 ((Gr.refl _).alloc _))⟩ trivial
  case refine_18=>
   rintro _ ⟨b,rfl,S⟩ K hK;go_simp;refine(HJ.out W _ S).mono ?_;rintro e w' ⟨rfl,G⟩;exact hK.out _ _ G rfl trivial
  all_goals intros
  all_goals subst_vars
  all_goals rename_i K hK
  all_goals go_simp
  all_goals first|exact hK.out _ _ (Gr.refl _) rfl trivial|exact hK.out _ _ ((Gr.refl _).alloc _) ⟨_,rfl,at5 _ _⟩ trivial
 ·intro w' G;simp only[Rg.Fin',Rg.Val,Rg.Fa,Rg.zW,ave,Act.put,apl,apC,apy,Rl,Cal];intros;subst_vars;go_wp2_with fail;go_ret;exact⟨rfl,fC.out.trans G⟩
theorem abu {x:Nat}(hx:x<4294967296)(hd:Dc.aO x=0)(T:Dw.nK w):Calls prog 50 #[.int .u32 x] w fun e w'=>e=.returned (str (nP [x]))/\Gr w w':=by
 have e:nP [x]=aNo:=by unfold nP;simp only[at7 hd]
 rw[e];have HD:Hid (Calls prog 14 #[.int .u32 x] w fun e w'=>e=.returned (.tuple #[.agg #[.int .i64 0,.int .i64 0,.int .i64 0,.int .i64 0,.int .i32 0],.bool false])/\Gr w w'):=by
  refine(Dw.jh (x:Int) w T (by omega) (by omega)).mono fun e w' ⟨he,G⟩=>⟨?_,G.1⟩
  rw[he,(Dw.j5 hd).1,(Dw.j5 hd).2];rfl
 go_enter func50,ntmps50;go_wp2_with fail;refine HD.out.mono ?_;rintro e w1 ⟨rfl,G1⟩;have aU:=kH G1;go_wp2_with (refine auf rfl 59 _ _ rfl w1.heap.size #[.int .i64 0,.int .i64 0,.int .i64 0,.int .i64 0,.int .i32 0] rfl (by simp[Act.eval,Act.put]) 59 #[.int .i64 0,.int .i64 0,.int .i64 0,.int .i64 0,.int .i32 0] ?r3 Hf.iI rfl (Hf.mZ _ _ _ _ _) ?_;(case r3=>exact at5 w1 _));go_ret;exact⟨rfl,ag (aU.out.alloc _) aU.out.size _⟩
theorem Qj {x:Nat}(hx:x<4294967296)(T:∀{W:World},Gr w W->gz W):Calls prog 50 #[.int .u32 x] w fun e w'=>e=.returned (str (nP [x]))/\Gr w w':=by
 by_cases hd:Dc.aO x=0
 ·exact abu hx hd (T (Gr.refl _)).tb
 ·exact abt hx hd T
end Vp
end Go.Proofs.YtiadhbmnfjfioaaGreatDoor
