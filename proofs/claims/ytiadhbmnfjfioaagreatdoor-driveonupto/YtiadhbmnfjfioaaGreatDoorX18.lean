/- ours -/
import Derived.Test.YtiadhbmnfjfioaaGreatDoorX17
set_option linter.unusedVariables false
set_option linter.unusedSimpArgs false
set_option maxHeartbeats 8000000
set_option maxRecDepth 100000
set_option linter.unusedSectionVars false
namespace Go.Proofs.YtiadhbmnfjfioaaGreatDoor
open Go.Proofs.Tryz
open Go.ChangeShapes Go.WideShapes Go.ChangeAt Go.RowKit
variable [Inhabited Hc.bN]
namespace Kc
open Mm Ts Hc

structure Once (P:Prop):Prop where
 out:P
theorem share {P Q:Prop}(h:Once P->Q)(p:P):Q:=h ⟨p⟩
structure Ps (w W:World) (o:Nat) (room pu sl bp:Int) (va:Option Addr) (vn vc g m cp:Nat) (L:List Bv) (xs:List Value):Prop where
 lo:w.heap.size+1+1<o
 b:W.heap[w.heap.size+1]?=some (.cells #[.int .u32 bp,.slice va vn vc] 64 (0,0))
 z:W.heap[w.heap.size+1+1]?=some (.cells #[.int .i64 0,.slice none 0 0,.int .i64 0,.int .i64 0] 54 (0,0))
 r:W.heap[o]?=some (.cells #[.int .i64 room,.slice (some ⟨g,0,none⟩) m cp,.int .i64 pu,.int .i64 sl] 54 (0,0))
 own:W.ownsRow (w.heap.size+1+1+1) 64 2 (.slice (some ⟨g,0,none⟩) m cp) m xs
 bx:Bx W w.heap.size L xs
 len:L.length=m
 gr:Gr w W
section
variable {w W W' :World} {o :Nat} {room pu sl bp :Int} {va :Option Addr} {vn vc g m cp :Nat} {L :List Bv} {xs :List Value}
theorem Ps.of (P:Ps w W o room pu sl bp va vn vc g m cp L xs)(G:Gr W W'):Ps w W' o room pu sl bp va vn vc g m cp L xs:=⟨P.lo,aX G P.b,aX G P.z,aX G P.r,aC P.own G,P.bx.of G,P.len,P.gr.trans G⟩
theorem Ps.row (P:Ps w W o room pu sl bp va vn vc g m cp L xs)(Q:Ch g W W'):W'.heap[o]?=some (.cells #[.int .i64 room,.slice (some ⟨g,0,none⟩) m cp,.int .i64 pu,.int .i64 sl] 54 (0,0)):=dL P.own Q P.r (by decide)
theorem Ps.put (P:Ps w W o room pu sl bp va vn vc g m cp L xs)(Q:Ch g W W'){g' m' cp':Nat}{L':List Bv}{ys:List Value}(O:W'.ownsRow (w.heap.size+1+1+1) 64 2 (.slice (some ⟨g',0,none⟩) m' cp') m' ys)(X:Bx W' w.heap.size L' ys)(hl:L'.length=m'):Ps w (W'.setCell ⟨o,1,none⟩ (.slice (some ⟨g',0,none⟩) m' cp')) o room pu sl bp va vn vc g' m' cp' L' ys:=by
 have hg:=(P.own.lt g rfl).1;have hr:=P.row Q;have hlo:=P.lo;refine⟨P.lo,?_,?_,?_,?_,?_,hl,?_⟩
 ·rw[hso (by show w.heap.size+1≠o;omega),Q.block _ (gs P.b).1 (fun e=>by injection e with e;omega)];exact P.b
 ·rw[hso (by show w.heap.size+1+1≠o;omega),Q.block _ (gs P.z).1 (fun e=>by injection e with e;omega)];exact P.z
 ·rw[hss hr];rfl
 ·exact aj O fun q c r hq=>hso (by exact aa hq hr (by decide))
 ·exact X.to fun q c r hq=>hso (by exact aa hq hr (by decide))
 ·exact(WJ P.gr (by omega) Q).setCell (by show w.heap.size<=o;omega) _
theorem Ps.push (P:Ps w W o room pu sl bp va vn vc g m cp L xs)(v:Int):Ps w (W.setCell ⟨o,2,none⟩ (.int .i64 v)) o room v sl bp va vn vc g m cp L xs:=by
 have hlo:=P.lo;have hr:=P.r;refine⟨P.lo,?_,?_,?_,?_,?_,P.len,?_⟩
 ·rw[hso (by show w.heap.size+1≠o;omega)];exact P.b
 ·rw[hso (by show w.heap.size+1+1≠o;omega)];exact P.z
 ·rw[hss hr];rfl
 ·exact aj P.own fun q c r hq=>hso (by exact aa hq hr (by decide))
 ·exact P.bx.to fun q c r hq=>hso (by exact aa hq hr (by decide))
 ·exact P.gr.setCell (by show w.heap.size<=o;omega) _
theorem Ps.fin (P:Ps w W o room pu sl bp va vn vc g m cp L xs)(ok:∀b∈L,b.Ok):((((W.setCell ⟨w.heap.size+1+1,0,none⟩ (.int .i64 room)).setCell ⟨w.heap.size+1+1,1,none⟩ (.slice (some ⟨g,0,none⟩) m cp)).setCell ⟨w.heap.size+1+1,2,none⟩ (.int .i64 pu)).setCell ⟨w.heap.size+1+1,3,none⟩ (.int .i64 sl)).heap[w.heap.size+1+1]?=some (.cells #[.int .i64 room,.slice (some ⟨g,0,none⟩) m cp,.int .i64 pu,.int .i64 sl] 54 (0,0))/\(Bt w.heap.size ((((W.setCell ⟨w.heap.size+1+1,0,none⟩ (.int .i64 room)).setCell ⟨w.heap.size+1+1,1,none⟩ (.slice (some ⟨g,0,none⟩) m cp)).setCell ⟨w.heap.size+1+1,2,none⟩ (.int .i64 pu)).setCell ⟨w.heap.size+1+1,3,none⟩ (.int .i64 sl)) (some ⟨g,0,none⟩) m L/\m<=cp)/\Gr w ((((W.setCell ⟨w.heap.size+1+1,0,none⟩ (.int .i64 room)).setCell ⟨w.heap.size+1+1,1,none⟩ (.slice (some ⟨g,0,none⟩) m cp)).setCell ⟨w.heap.size+1+1,2,none⟩ (.int .i64 pu)).setCell ⟨w.heap.size+1+1,3,none⟩ (.int .i64 sl)):=by
 refine⟨uC P.z _ _ _ _,NI (aj P.own fun q c r hq=>yI _ _ _ _ _ _ (aa hq P.z (by decide))) (P.bx.to fun q c r hq=>yI _ _ _ _ _ _ (aa hq P.z (by decide))) ok P.len (by omega) (apn _),?_⟩;have q1:w.heap.size<=w.heap.size+1+1:=by omega
 exact(((P.gr.setCell (by exact q1) _).setCell (by exact q1) _).setCell (by exact q1) _).setCell (by exact q1) _
end
theorem Xc:∀(bs:List Bv) (j i:Nat),o6 ((i+j:Nat):Int) bs i=bs.take j++bs.drop (j+1)
 | [],j,i=>by simp[o6]
 |b::r,0,i=>by
  unfold o6;rw[at7 (by simp),pU (by omega)];rfl
 |b::r,j+1,i=>by
  unfold o6;rw[ak,show i+(j+1)=i+1+j by omega,Xc r j (i+1)];rfl
theorem Zd (bs:List Bv):o6 (-1) bs 0=bs:=pU (by omega)
theorem Ze (w:World)(room pu sl bp:Int)(ao va:Option Addr)(n cap vn vc:Nat)(hv:vn<1\/16<vn)(hvb:vn<=140737488351232):Calls prog 141 #[.agg #[.int .i64 room,.slice ao n cap,.int .i64 pu,.int .i64 sl],.agg #[.int .u32 bp,.slice va vn vc]] w fun e w'=>e=.returned (.tuple #[.agg #[.int .i64 0,.slice none 0 0,.int .i64 0,.int .i64 0],.int .i64 2])/\Gr w w':=by
 have hv2:vn=0\/¬(vn:Int)<1/\(16:Int)<(vn:Int):=by omega
 rcases hv2 with rfl|⟨h0,h1⟩
 all_goals
  go_enter func141,ntmps141;go_wp2_with fail;refine auc (v:=.tuple #[.agg #[.int .i64 0,.slice none 0 0,.int .i64 0,.int .i64 0],.int .i64 2]) (dB results141 _ _ _ _ _ (0,0) _ _ rfl rfl (jo (Gr.refl _)).2.2 underlying54 rfl wG) rfl ⟨rfl,(((Gr.refl _).alloc _).alloc _).alloc _⟩
theorem Ch.Xd {g:Nat}{w w':World}(G:Gr w w'):Ch g w w':=(Ch.refl g w).gr G
theorem agK {w:World}{ao:Option Addr}{n:Nat}(cap:Nat){bs:List Bv}(B:Bs w ao n bs)(hn:n*32<=140737488351232)(room pu sl:Int){b0:Bv}{va:Option Addr}{vn vc:Nat}(hb:Bc w b0 (.int .u32 b0.pc) (.slice va vn vc))(hv1:1<=vn)(hv2:vn<=16):Calls prog 141 #[.agg #[.int .i64 room,.slice ao n cap,.int .i64 pu,.int .i64 sl],.agg #[.int .u32 b0.pc,.slice va vn vc]] w fun e w'=>∃a m c,e=.returned (.tuple #[.agg #[.int .i64 room,.slice a m c,.int .i64 (rX room pu bs b0),.int .i64 sl],.int .i64 0])/\(Bt w.heap.size w' a m (jy room bs b0)/\m<=c)/\Gr w w':=by
 have CP:Hid (∀W:World,Gr w W->_):=fun W G=>wW cap (B.of G) hn room pu sl
 have zS:=kH B.ok;have HOb:=kH hb.ok;have HL:=kH B.len;have AT:Hid (∀W:World,_):=fun W=>LF W b0.pc
 have NG:Hid (∀(W:World) (K base b1 g cp:Nat) (xs:List Value),W.ownsRow base 64 2 (.slice (some ⟨g,0,none⟩) n cp) n xs->Bx W b1 bs xs->W.cell? ⟨K,0,none⟩=some (.int .u32 b0.pc)->Calls prog 136 #[.slice (some ⟨g,0,none⟩) n cp,.func (.func 163) #[] #[.pointer (some ⟨K,0,none⟩)]] W fun e w'=>e=.returned (.int .i64 (place b0.pc bs 0))/\Gr W w'):=fun W K base b1 g cp xs O X hk=>by
  obtain⟨hnc,cs,R,rfl⟩:=Rw.open O;rw[<-kK];exact LG cp (R.bq X HL.out) (by omega) K (fun b=>decide (b.pc=b0.pc)) fun W' b sa sc G' _=>FC ((G'.cell _ (by exact aug W _ hk)).trans hk) b.pc sa b.is.length sc
 have WO:Hid (∀(W:World) (base b1 g m cp k:Nat) (L:List Bv) (xs:List Value),W.ownsRow base 64 2 (.slice (some ⟨g,0,none⟩) m cp) m xs->Bx W b1 L xs->L.length=m->k<m->_):=fun W base b1 g m cp k L xs O X hl hk=>D7 O X hl hk
 have CB:Hid (∀W:World,Gr w W->_):=fun W G=>qW (hb.of G)
 have HP:Hid (place b0.pc bs 0 = -1\/∃j:Nat,place b0.pc bs 0=(j:Int)/\j<n):=by
  rcases fU b0.pc bs 0 with h|⟨j,x,h,hx⟩
  ·exact .inl h
  ·rw[apu]at h;exact .inr ⟨j,h,by rw[<-HL.out];exact(apj.1 hx).1⟩
 have HSn:Hid (∀(W:World) (v:Value) (L:List Bv) (xs:List Value),Bx W w.heap.size L xs->Io W w.heap.size v b0.is->_):=fun W v L xs h1 h2=>h1.snoc h2
 have Ga:Hid (∀L1:List Bv,o6 (place b0.pc bs 0) bs 0=L1->(room<((L1.length+1:Nat):Int)->jy room bs b0=(L1++[b0]).drop 1/\rX room pu bs b0=wrap64 (pu+1))/\(¬room<((L1.length+1:Nat):Int)->jy room bs b0=L1++[b0]/\rX room pu bs b0=pu)):=fun L1 e=>by
  unfold jy rX;rw[e,apo,apW];exact⟨fun h=>⟨at7 h,at7 h⟩,fun h=>⟨at6 h,at6 h⟩⟩
 have adv:∀b∈jy room bs b0,b.Ok:=fun b hb2=>by
  have hsub:=yA bs (place b0.pc bs 0) 0;have h1:∀b∈o6 (place b0.pc bs 0) bs 0++[b0],b.Ok:=fun b h=>by
   rcases apR.1 h with h|h
   ·exact zS.out b (hsub.subset h)
   ·rw[apE]at h;rw[h];exact HOb.out
  unfold jy at hb2;split at hb2
  ·exact h1 b (aqR hb2)
  ·exact h1 b hb2
 have TL:=kH adv;obtain⟨i0,hi,hz0,hz1,hz2⟩:=auz LC;clear B hb adv;generalize jy room bs b0=PL at *
 generalize rX room pu bs b0=PP at *
 generalize b0.pc=bp at *
 rcases HP.out with hp|⟨j,hp,hj⟩
 ·have HRm:Hid (o6 (place bp bs 0) bs 0=bs):=by unfold Hid;rw[hp];exact Zd bs
  rw[hp]at NG;clear HP hp;go_enter func141,ntmps141;go_wp2_with fail;refine(CP.out _ ((((Gr.refl w).alloc _).alloc _).alloc _)).mono ?_;rintro e w1 ⟨g,cp,xs,rfl,O1,X1,G1⟩;have T1:=jo G1;have hsz:(((w.alloc (.cells #[.int .i64 room,.slice ao n cap,.int .i64 pu,.int .i64 sl] 54)).alloc (.cells #[.int .u32 bp,.slice va vn vc] 64)).alloc (.cells #[.int .i64 0,.slice none 0 0,.int .i64 0,.int .i64 0] 54)).heap.size=w.heap.size+1+1+1:=by simp
  rw[hsz]at O1 X1;have QX:Hid (∀W,Gr w1 W->W.heap[w1.heap.size]?=some (.cells #[.int .i64 room,.slice (some ⟨g,0,none⟩) n cp,.int .i64 pu,.int .i64 sl] 54 (0,0))->Ps w W w1.heap.size room pu sl bp va vn vc g n cp bs xs):=fun W G hr=>
   ⟨(apk.1 T1.2.2).1,aX G T1.2.1,aX G T1.2.2,hr,aC O1 G,(X1.of G).low (by omega),HL.out,(((((Gr.refl w).alloc _).alloc _).alloc _).trans G1).trans G⟩
  clear O1 X1 T1 G1 CP hsz;go_wp2_with fail;refine Bj (fun W=>Ps w W w1.heap.size room pu sl bp va vn vc g n cp bs xs) (QX.out _ ((Gr.refl w1).alloc _) (at5 w1 _)) ?_;clear QX;generalize w1.heap.size=o at *
  clear w1;intro W P0;have nk:=kH P0;have x1:W.cell? ⟨o,1,none⟩=some (.slice (some ⟨g,0,none⟩) n cp):=atZ _ _ _ _ _ _ P0.r;have q0:W.cell? ⟨w.heap.size+1,0,none⟩=some (.int .u32 bp):=atZ _ _ _ _ _ _ P0.b;clear P0;apply share
  ·intro jO
   go_region_with (first
    |(go_at_call 137;refine(AT.out _).mono ?_;rintro e w2 ⟨K,rfl,hk,G2⟩;have HG2:Hid (Gr W w2):=Gr.trans (by repeat (first|exact Gr.refl _|refine Gr.drewN ?_ _|refine Gr.drew ?_)) G2;have x2:w2.cell? ⟨o,1,none⟩=some (.slice (some ⟨g,0,none⟩) n cp):=atZ _ _ _ _ _ _ (nk.out.of HG2.out).r;clear G2)
    |(go_at_call 136;refine(NG.out _ K _ _ g cp xs (nk.out.of HG2.out).own (nk.out.of HG2.out).bx hk).mono ?_;rintro e w3 ⟨rfl,G3⟩;have KS:Hid (Ps w w3 o room pu sl bp va vn vc g n cp bs xs):=nk.out.of (HG2.out.trans G3);clear G3))
   all_goals
    clear x2 hk HG2;clear w2
    revert KS
    revert w3
    revert K
    exact jO.out
  clear nk x1 q0 NG AT;clear W;intro K W nk;have x1:W.cell? ⟨o,1,none⟩=some (.slice (some ⟨g,0,none⟩) n cp):=atZ _ _ _ _ _ _ nk.out.r;go_wp2_with fail;have q0:W.cell? ⟨w.heap.size+1,0,none⟩=some (.int .u32 bp):=atZ _ _ _ _ _ _ nk.out.b;have q1:W.cell? ⟨w.heap.size+1,1,none⟩=some (.slice va vn vc):=atZ _ _ _ _ _ _ nk.out.b;apply share
  ·intro jO
   go_region_law (first
    |(refine aZ rfl (.tmp 35) (.tmp 38) 52 rfl (w.heap.size+1+1+1) 64 i0 _ 2 32 underlying52 hi hz0 hz1 hz2 rfl (by decide) (.slice (some ⟨g,0,none⟩) n cp) n xs (by simp[Act.eval,Act.put]) (aC ny.out.own (by repeat (first|exact Gr.refl w2|refine Gr.drewN ?_ _|refine Gr.drew ?_|refine Gr.alloc ?_ _))) ⟨w2.heap.size,0,none⟩ 1 1 [.int .u32 bp,.slice ia iq ic] (by simp[Act.eval,Act.put]) rfl (dP (by simp) (by simp)) (tQ rfl rfl) (by unfold maxLen;omega) (by omega) (by have:=ny.out.lo;have:=(apk.1 ny.out.r).1;simp;omega) ?_;intro v' w' hown hgrow;obtain⟨g',cp',rfl⟩:=dh hown (by omega);have Jw:Hid (Ch g w2 w'):=(Ch.Xd (by repeat (first|exact Gr.refl w2|refine Gr.drewN ?_ _|refine Gr.drew ?_|refine Gr.alloc ?_ _))).trans hgrow;have Zf:Hid (w'.ownsRow (w.heap.size+1+1+1) 64 2 (.slice (some ⟨g',0,none⟩) (n+1) cp') (n+1) (xs++[.int .u32 bp,.slice ia iq ic])):=hown;have y1:w'.cell? ⟨o,1,none⟩=some (.slice (some ⟨g,0,none⟩) n cp):=atZ _ _ _ _ _ _ (ny.out.row Jw.out);have yf:w'.frozen? ⟨o,1,none⟩=false:=aus _ _ _ _ _ (ny.out.row Jw.out);clear hown hgrow)
    |(go_simp;go_wp2_with (go_at_call 138;refine(CB.out _ (Gr.trans nk.out.gr (by repeat (first|exact Gr.refl W|refine Gr.drewN ?_ _|refine Gr.drew ?_)))).mono ?_;rintro e w2 ⟨v2,rfl,I2,G2⟩;have HG2:Hid (Gr W w2):=Gr.trans (by repeat (first|exact Gr.refl W|refine Gr.drewN ?_ _|refine Gr.drew ?_)) G2;have ny:Hid (Ps w w2 o room pu sl bp va vn vc g n cp bs xs):=nk.out.of HG2.out;have HI2:Hid (Io w2 w.heap.size v2 b0.is):=I2.low (by have:=nk.out.gr.size;simpa using this);obtain⟨ia,ic,rfl⟩:=I2.shape;have x2:w2.cell? ⟨o,1,none⟩=some (.slice (some ⟨g,0,none⟩) n cp):=atZ _ _ _ _ _ _ ny.out.r;have ho2:o<w2.heap.size:=(apk.1 ny.out.r).1;clear I2 G2;generalize b0.is.length=iq at *)))
   all_goals
    have Xe:Bx w' w.heap.size (bs++[b0]) (xs++[.int .u32 bp,.slice ia iq ic]):=HSn.out _ _ _ _ (ny.out.bx.to fun q c r hq=>(dL ny.out.own Jw.out hq (by decide)).trans hq.symm) (HI2.out.to fun q c r hq=>(dL ny.out.own Jw.out hq (by decide)).trans hq.symm);have qX:=ny.out.put Jw.out Zf.out Xe (by rw[apo,ny.out.len];rfl);refine Bj (fun W=>Ps w W o room pu sl bp va vn vc g' (n+1) cp' (bs++[b0]) (xs++[.int .u32 bp,.slice ia iq ic])) qX ?_;clear qX Xe y1 yf Jw Zf x2 ho2 HI2 ny HG2;clear w';generalize w2.heap.size=z9 at *
    clear w2
    revert cp'
    revert g'
    revert ic
    revert iq
    revert ia
    revert z9
    exact jO.out
  clear q0 q1 x1 CB nk;clear W;intro z9 ia iq ic g7 vP W P7;have qX:Hid (Ps w W o room pu sl bp va vn vc g7 (n+1) vP (bs++[b0]) (xs++[.int .u32 bp,.slice ia iq ic])):=P7;have x0:W.cell? ⟨o,0,none⟩=some (.int .i64 room):=atZ _ _ _ _ _ _ P7.r;have x1:W.cell? ⟨o,1,none⟩=some (.slice (some ⟨g7,0,none⟩) (n+1) vP):=atZ _ _ _ _ _ _ P7.r;have x2:W.cell? ⟨o,2,none⟩=some (.int .i64 pu):=atZ _ _ _ _ _ _ P7.r;have x3:W.cell? ⟨o,3,none⟩=some (.int .i64 sl):=atZ _ _ _ _ _ _ P7.r;have z0:W.cell? ⟨w.heap.size+1+1,0,none⟩=some (.int .i64 0):=atZ _ _ _ _ _ _ P7.z;have z1:W.cell? ⟨w.heap.size+1+1,1,none⟩=some (.slice none 0 0):=atZ _ _ _ _ _ _ P7.z;have z2:W.cell? ⟨w.heap.size+1+1,2,none⟩=some (.int .i64 0):=atZ _ _ _ _ _ _ P7.z;have z3:W.cell? ⟨w.heap.size+1+1,3,none⟩=some (.int .i64 0):=atZ _ _ _ _ _ _ P7.z;have zf:∀j,W.frozen? ⟨w.heap.size+1+1,j,none⟩=false:=fun j=>aus _ _ _ _ _ P7.z
  have hne:¬w.heap.size+1+1=o:=by have:=P7.lo;omega
  have hne2:¬o=w.heap.size+1+1:=by have:=P7.lo;omega
  clear P7;have HLm:Hid ((bs).length=n):=HL.out;by_cases hroom:room<(((bs).length+1:Nat):Int)
  ·obtain⟨e1,e2⟩:=(Ga.out _ HRm.out).1 hroom;have oK:Hid (PL=(bs++[b0]).drop 1/\PP=wrap64 (pu+1)):=⟨e1,e2⟩;have D9:room<(n:Int)+1:=by rw[HLm.out]at hroom;omega
   clear e1 e2 Ga hroom;go_wp2_with fail;refine(WO.out _ _ _ g7 (n+1) vP 0 _ _ qX.out.own qX.out.bx qX.out.len (by omega)).mono ?_;rintro e w8 ⟨rfl,ys,O8,X8,Q8⟩;rw[Nat.add_sub_cancel]at O8;have Zg:=qX.out.put Q8 O8 X8 (by have:=qX.out.len;simp only[aqF,apO,aqh];omega);rw[aqF,apO]at Zg;have HP9:Hid (Ps w ((w8.setCell ⟨o,1,none⟩ (.slice (some ⟨g7,0,none⟩) n vP)).setCell ⟨o,2,none⟩ (.int .i64 (wrap64 (pu+1)))) o room (wrap64 (pu+1)) sl bp va vn vc g7 n vP ((bs++[b0]).drop (0+1)) ys):=Zg.push _;have Jy:=qX.out.row Q8;have y0:w8.cell? ⟨o,0,none⟩=some (.int .i64 room):=atZ _ _ _ _ _ _ Jy;have y1:w8.cell? ⟨o,1,none⟩=some (.slice (some ⟨g7,0,none⟩) (n+1) vP):=atZ _ _ _ _ _ _ Jy;have y2:w8.cell? ⟨o,2,none⟩=some (.int .i64 pu):=atZ _ _ _ _ _ _ Jy;have y3:w8.cell? ⟨o,3,none⟩=some (.int .i64 sl):=atZ _ _ _ _ _ _ Jy;have yf:∀j,w8.frozen? ⟨o,j,none⟩=false:=fun j=>aus _ _ _ _ _ Jy
   have Jz:w8.heap[w.heap.size+1+1]?=some (.cells #[.int .i64 0,.slice none 0 0,.int .i64 0,.int .i64 0] 54 (0,0)):=dL qX.out.own Q8 qX.out.z (by decide);have v0:w8.cell? ⟨w.heap.size+1+1,0,none⟩=some (.int .i64 0):=atZ _ _ _ _ _ _ Jz;have v1:w8.cell? ⟨w.heap.size+1+1,1,none⟩=some (.slice none 0 0):=atZ _ _ _ _ _ _ Jz;have v2:w8.cell? ⟨w.heap.size+1+1,2,none⟩=some (.int .i64 0):=atZ _ _ _ _ _ _ Jz;have v3:w8.cell? ⟨w.heap.size+1+1,3,none⟩=some (.int .i64 0):=atZ _ _ _ _ _ _ Jz;have vf:∀j,w8.frozen? ⟨w.heap.size+1+1,j,none⟩=false:=fun j=>aus _ _ _ _ _ Jz
   clear O8 X8 Q8 Zg Jy Jz qX x0 x1 x2 x3 z0 z1 z2 z3 zf WO;go_wp2_with fail;obtain⟨f1,f2,f3⟩:=HP9.out.fin (by rw[apu,<-oK.out.1];exact TL.out);refine auc (v:=.tuple #[.agg #[.int .i64 room,.slice (some ⟨g7,0,none⟩) n vP,.int .i64 (wrap64 (pu+1)),.int .i64 sl],.int .i64 0]) (dB results141 _ _ _ _ _ (0,0) _ _ rfl rfl f1 underlying54 rfl wG) rfl ⟨_,n,vP,by rw[oK.out.2],?_,f3⟩;rw[oK.out.1];exact f2
  ·obtain⟨e1,e2⟩:=(Ga.out _ HRm.out).2 (Int.not_lt.1 hroom);have oK:Hid (PL=bs++[b0]/\PP=pu):=⟨e1,e2⟩;have D9:¬room<(n:Int)+1:=by rw[HLm.out]at hroom;omega
   clear e1 e2 Ga hroom WO;go_wp2_with fail;obtain⟨f1,f2,f3⟩:=qX.out.fin (by rw[<-oK.out.1];exact TL.out);refine auc (v:=.tuple #[.agg #[.int .i64 room,.slice (some ⟨g7,0,none⟩) (n+1) vP,.int .i64 pu,.int .i64 sl],.int .i64 0]) (dB results141 _ _ _ _ _ (0,0) _ _ rfl rfl f1 underlying54 rfl wG) rfl ⟨_,n+1,vP,by rw[oK.out.2],?_,f3⟩;rw[oK.out.1];exact f2
 ·have HRm:Hid (o6 (place bp bs 0) bs 0=bs.take j++bs.drop (j+1)):=by unfold Hid;rw[hp];have:=Xc bs j 0;rwa[apu]at this
  have HLb:Hid ((bs.take j++bs.drop (j+1)).length=n-1):=by unfold Hid;rw[apo,ap5,aqh,HL.out];omega
  rw[hp]at NG;clear HP hp;go_enter func141,ntmps141;go_wp2_with fail;refine(CP.out _ ((((Gr.refl w).alloc _).alloc _).alloc _)).mono ?_;rintro e w1 ⟨g,cp,xs,rfl,O1,X1,G1⟩;have T1:=jo G1;have hsz:(((w.alloc (.cells #[.int .i64 room,.slice ao n cap,.int .i64 pu,.int .i64 sl] 54)).alloc (.cells #[.int .u32 bp,.slice va vn vc] 64)).alloc (.cells #[.int .i64 0,.slice none 0 0,.int .i64 0,.int .i64 0] 54)).heap.size=w.heap.size+1+1+1:=by simp
  rw[hsz]at O1 X1;have QX:Hid (∀W,Gr w1 W->W.heap[w1.heap.size]?=some (.cells #[.int .i64 room,.slice (some ⟨g,0,none⟩) n cp,.int .i64 pu,.int .i64 sl] 54 (0,0))->Ps w W w1.heap.size room pu sl bp va vn vc g n cp bs xs):=fun W G hr=>
   ⟨(apk.1 T1.2.2).1,aX G T1.2.1,aX G T1.2.2,hr,aC O1 G,(X1.of G).low (by omega),HL.out,(((((Gr.refl w).alloc _).alloc _).alloc _).trans G1).trans G⟩
  clear O1 X1 T1 G1 CP hsz;go_wp2_with fail;refine Bj (fun W=>Ps w W w1.heap.size room pu sl bp va vn vc g n cp bs xs) (QX.out _ ((Gr.refl w1).alloc _) (at5 w1 _)) ?_;clear QX;generalize w1.heap.size=o at *
  clear w1;intro W P0;have nk:Hid (Ps w W o room pu sl bp va vn vc g n cp bs xs):=P0;have x1:W.cell? ⟨o,1,none⟩=some (.slice (some ⟨g,0,none⟩) n cp):=atZ _ _ _ _ _ _ P0.r;have q0:W.cell? ⟨w.heap.size+1,0,none⟩=some (.int .u32 bp):=atZ _ _ _ _ _ _ P0.b;clear P0;apply share
  ·intro jO
   go_region_with (first
    |(go_at_call 137;refine(AT.out _).mono ?_;rintro e w2 ⟨K,rfl,hk,G2⟩;have HG2:Hid (Gr W w2):=Gr.trans (by repeat (first|exact Gr.refl _|refine Gr.drewN ?_ _|refine Gr.drew ?_)) G2;have x2:w2.cell? ⟨o,1,none⟩=some (.slice (some ⟨g,0,none⟩) n cp):=atZ _ _ _ _ _ _ (nk.out.of HG2.out).r;clear G2)
    |(go_at_call 136;refine(NG.out _ K _ _ g cp xs (nk.out.of HG2.out).own (nk.out.of HG2.out).bx hk).mono ?_;rintro e w3 ⟨rfl,G3⟩;have KS:Hid (Ps w w3 o room pu sl bp va vn vc g n cp bs xs):=nk.out.of (HG2.out.trans G3);clear G3))
   all_goals
    clear x2 hk HG2;clear w2
    revert KS
    revert w3
    revert K
    exact jO.out
  clear nk x1 q0 NG AT;clear W;intro K W nk;have x1:W.cell? ⟨o,1,none⟩=some (.slice (some ⟨g,0,none⟩) n cp):=atZ _ _ _ _ _ _ nk.out.r;have hj0:(0:Int)<=(j:Int):=by omega
  go_wp2_with fail;refine(WO.out _ _ _ g n cp j bs xs nk.out.own nk.out.bx nk.out.len hj).mono ?_;rintro e w5 ⟨rfl,ys,O5,X5,Q5⟩;have QZ:Hid (Ps w (w5.setCell ⟨o,1,none⟩ (.slice (some ⟨g,0,none⟩) (n-1) cp)) o room pu sl bp va vn vc g (n-1) cp (bs.take j++bs.drop (j+1)) ys):=nk.out.put Q5 O5 X5 HLb.out;have hr5:=nk.out.row Q5;have y1:w5.cell? ⟨o,1,none⟩=some (.slice (some ⟨g,0,none⟩) n cp):=atZ _ _ _ _ _ _ hr5;have yf:w5.frozen? ⟨o,1,none⟩=false:=aus _ _ _ _ _ hr5;clear O5 X5 Q5 hr5 x1 nk;clear W;go_wp2_with fail;refine Bj (fun W=>Ps w W o room pu sl bp va vn vc g (n-1) cp (bs.take j++bs.drop (j+1)) ys) QZ.out ?_;clear QZ y1 yf;clear w5;generalize bs.take j++bs.drop (j+1)=L1 at *
  have lU:n-1<=n:=by omega
  generalize n-1=m at *
  intro W P0;have nk:Hid (Ps w W o room pu sl bp va vn vc g m cp L1 ys):=P0;have x1:W.cell? ⟨o,1,none⟩=some (.slice (some ⟨g,0,none⟩) m cp):=atZ _ _ _ _ _ _ P0.r;clear P0;have q0:W.cell? ⟨w.heap.size+1,0,none⟩=some (.int .u32 bp):=atZ _ _ _ _ _ _ nk.out.b;have q1:W.cell? ⟨w.heap.size+1,1,none⟩=some (.slice va vn vc):=atZ _ _ _ _ _ _ nk.out.b;apply share
  ·intro jO
   go_region_law (first
    |(refine aZ rfl (.tmp 35) (.tmp 38) 52 rfl (w.heap.size+1+1+1) 64 i0 _ 2 32 underlying52 hi hz0 hz1 hz2 rfl (by decide) (.slice (some ⟨g,0,none⟩) m cp) m ys (by simp[Act.eval,Act.put]) (aC ny.out.own (by repeat (first|exact Gr.refl w2|refine Gr.drewN ?_ _|refine Gr.drew ?_|refine Gr.alloc ?_ _))) ⟨w2.heap.size,0,none⟩ 1 1 [.int .u32 bp,.slice ia iq ic] (by simp[Act.eval,Act.put]) rfl (dP (by simp) (by simp)) (tQ rfl rfl) (by unfold maxLen;omega) (by omega) (by have:=ny.out.lo;have:=(apk.1 ny.out.r).1;simp;omega) ?_;intro v' w' hown hgrow;obtain⟨g',cp',rfl⟩:=dh hown (by omega);have Jw:Hid (Ch g w2 w'):=(Ch.Xd (by repeat (first|exact Gr.refl w2|refine Gr.drewN ?_ _|refine Gr.drew ?_|refine Gr.alloc ?_ _))).trans hgrow;have Zf:Hid (w'.ownsRow (w.heap.size+1+1+1) 64 2 (.slice (some ⟨g',0,none⟩) (m+1) cp') (m+1) (ys++[.int .u32 bp,.slice ia iq ic])):=hown;have y1:w'.cell? ⟨o,1,none⟩=some (.slice (some ⟨g,0,none⟩) m cp):=atZ _ _ _ _ _ _ (ny.out.row Jw.out);have yf:w'.frozen? ⟨o,1,none⟩=false:=aus _ _ _ _ _ (ny.out.row Jw.out);clear hown hgrow)
    |(go_simp;go_wp2_with (go_at_call 138;refine(CB.out _ (Gr.trans nk.out.gr (by repeat (first|exact Gr.refl W|refine Gr.drewN ?_ _|refine Gr.drew ?_)))).mono ?_;rintro e w2 ⟨v2,rfl,I2,G2⟩;have HG2:Hid (Gr W w2):=Gr.trans (by repeat (first|exact Gr.refl W|refine Gr.drewN ?_ _|refine Gr.drew ?_)) G2;have ny:Hid (Ps w w2 o room pu sl bp va vn vc g m cp L1 ys):=nk.out.of HG2.out;have HI2:Hid (Io w2 w.heap.size v2 b0.is):=I2.low (by have:=nk.out.gr.size;simpa using this);obtain⟨ia,ic,rfl⟩:=I2.shape;have x2:w2.cell? ⟨o,1,none⟩=some (.slice (some ⟨g,0,none⟩) m cp):=atZ _ _ _ _ _ _ ny.out.r;have ho2:o<w2.heap.size:=(apk.1 ny.out.r).1;clear I2 G2;generalize b0.is.length=iq at *)))
   all_goals
    have Xe:Bx w' w.heap.size (L1++[b0]) (ys++[.int .u32 bp,.slice ia iq ic]):=HSn.out _ _ _ _ (ny.out.bx.to fun q c r hq=>(dL ny.out.own Jw.out hq (by decide)).trans hq.symm) (HI2.out.to fun q c r hq=>(dL ny.out.own Jw.out hq (by decide)).trans hq.symm);have qX:=ny.out.put Jw.out Zf.out Xe (by rw[apo,ny.out.len];rfl);refine Bj (fun W=>Ps w W o room pu sl bp va vn vc g' (m+1) cp' (L1++[b0]) (ys++[.int .u32 bp,.slice ia iq ic])) qX ?_;clear qX Xe y1 yf Jw Zf x2 ho2 HI2 ny HG2;clear w';generalize w2.heap.size=z9 at *
    clear w2
    revert cp'
    revert g'
    revert ic
    revert iq
    revert ia
    revert z9
    exact jO.out
  clear q0 q1 x1 CB nk;clear W;intro z9 ia iq ic g7 vP W P7;have qX:Hid (Ps w W o room pu sl bp va vn vc g7 (m+1) vP (L1++[b0]) (ys++[.int .u32 bp,.slice ia iq ic])):=P7;have x0:W.cell? ⟨o,0,none⟩=some (.int .i64 room):=atZ _ _ _ _ _ _ P7.r;have x1:W.cell? ⟨o,1,none⟩=some (.slice (some ⟨g7,0,none⟩) (m+1) vP):=atZ _ _ _ _ _ _ P7.r;have x2:W.cell? ⟨o,2,none⟩=some (.int .i64 pu):=atZ _ _ _ _ _ _ P7.r;have x3:W.cell? ⟨o,3,none⟩=some (.int .i64 sl):=atZ _ _ _ _ _ _ P7.r;have z0:W.cell? ⟨w.heap.size+1+1,0,none⟩=some (.int .i64 0):=atZ _ _ _ _ _ _ P7.z;have z1:W.cell? ⟨w.heap.size+1+1,1,none⟩=some (.slice none 0 0):=atZ _ _ _ _ _ _ P7.z;have z2:W.cell? ⟨w.heap.size+1+1,2,none⟩=some (.int .i64 0):=atZ _ _ _ _ _ _ P7.z;have z3:W.cell? ⟨w.heap.size+1+1,3,none⟩=some (.int .i64 0):=atZ _ _ _ _ _ _ P7.z;have zf:∀j,W.frozen? ⟨w.heap.size+1+1,j,none⟩=false:=fun j=>aus _ _ _ _ _ P7.z
  have hne:¬w.heap.size+1+1=o:=by have:=P7.lo;omega
  have hne2:¬o=w.heap.size+1+1:=by have:=P7.lo;omega
  clear P7;have HLm:Hid ((L1).length=m):=HLb.out;by_cases hroom:room<(((L1).length+1:Nat):Int)
  ·obtain⟨e1,e2⟩:=(Ga.out _ HRm.out).1 hroom;have oK:Hid (PL=(L1++[b0]).drop 1/\PP=wrap64 (pu+1)):=⟨e1,e2⟩;have D9:room<(m:Int)+1:=by rw[HLm.out]at hroom;omega
   clear e1 e2 Ga hroom;go_wp2_with fail;refine(WO.out _ _ _ g7 (m+1) vP 0 _ _ qX.out.own qX.out.bx qX.out.len (by omega)).mono ?_;rintro e w8 ⟨rfl,ys,O8,X8,Q8⟩;rw[Nat.add_sub_cancel]at O8;have Zg:=qX.out.put Q8 O8 X8 (by have:=qX.out.len;simp only[aqF,apO,aqh];omega);rw[aqF,apO]at Zg;have HP9:Hid (Ps w ((w8.setCell ⟨o,1,none⟩ (.slice (some ⟨g7,0,none⟩) m vP)).setCell ⟨o,2,none⟩ (.int .i64 (wrap64 (pu+1)))) o room (wrap64 (pu+1)) sl bp va vn vc g7 m vP ((L1++[b0]).drop (0+1)) ys):=Zg.push _;have Jy:=qX.out.row Q8;have y0:w8.cell? ⟨o,0,none⟩=some (.int .i64 room):=atZ _ _ _ _ _ _ Jy;have y1:w8.cell? ⟨o,1,none⟩=some (.slice (some ⟨g7,0,none⟩) (m+1) vP):=atZ _ _ _ _ _ _ Jy;have y2:w8.cell? ⟨o,2,none⟩=some (.int .i64 pu):=atZ _ _ _ _ _ _ Jy;have y3:w8.cell? ⟨o,3,none⟩=some (.int .i64 sl):=atZ _ _ _ _ _ _ Jy;have yf:∀j,w8.frozen? ⟨o,j,none⟩=false:=fun j=>aus _ _ _ _ _ Jy
   have Jz:w8.heap[w.heap.size+1+1]?=some (.cells #[.int .i64 0,.slice none 0 0,.int .i64 0,.int .i64 0] 54 (0,0)):=dL qX.out.own Q8 qX.out.z (by decide);have v0:w8.cell? ⟨w.heap.size+1+1,0,none⟩=some (.int .i64 0):=atZ _ _ _ _ _ _ Jz;have v1:w8.cell? ⟨w.heap.size+1+1,1,none⟩=some (.slice none 0 0):=atZ _ _ _ _ _ _ Jz;have v2:w8.cell? ⟨w.heap.size+1+1,2,none⟩=some (.int .i64 0):=atZ _ _ _ _ _ _ Jz;have v3:w8.cell? ⟨w.heap.size+1+1,3,none⟩=some (.int .i64 0):=atZ _ _ _ _ _ _ Jz;have vf:∀j,w8.frozen? ⟨w.heap.size+1+1,j,none⟩=false:=fun j=>aus _ _ _ _ _ Jz
   clear O8 X8 Q8 Zg Jy Jz qX x0 x1 x2 x3 z0 z1 z2 z3 zf WO;go_wp2_with fail;obtain⟨f1,f2,f3⟩:=HP9.out.fin (by rw[apu,<-oK.out.1];exact TL.out);refine auc (v:=.tuple #[.agg #[.int .i64 room,.slice (some ⟨g7,0,none⟩) m vP,.int .i64 (wrap64 (pu+1)),.int .i64 sl],.int .i64 0]) (dB results141 _ _ _ _ _ (0,0) _ _ rfl rfl f1 underlying54 rfl wG) rfl ⟨_,m,vP,by rw[oK.out.2],?_,f3⟩;rw[oK.out.1];exact f2
  ·obtain⟨e1,e2⟩:=(Ga.out _ HRm.out).2 (Int.not_lt.1 hroom);have oK:Hid (PL=L1++[b0]/\PP=pu):=⟨e1,e2⟩;have D9:¬room<(m:Int)+1:=by rw[HLm.out]at hroom;omega
   clear e1 e2 Ga hroom WO;go_wp2_with fail;obtain⟨f1,f2,f3⟩:=qX.out.fin (by rw[<-oK.out.1];exact TL.out);refine auc (v:=.tuple #[.agg #[.int .i64 room,.slice (some ⟨g7,0,none⟩) (m+1) vP,.int .i64 pu,.int .i64 sl],.int .i64 0]) (dB results141 _ _ _ _ _ (0,0) _ _ rfl rfl f1 underlying54 rfl wG) rfl ⟨_,m+1,vP,by rw[oK.out.2],?_,f3⟩;rw[oK.out.1];exact f2
end Kc
namespace En
open Mm Hh Hc Mc

theorem Ea (r p l:Int)(a:Option Addr)(n c:Nat):(#[.int .i64 r,.slice a n c,.int .i64 p,.int .i64 l]:Array Value).all (·.oneCell')=true:=by refine auE ?_;intro v hv;simp only[apx,apB,auw]at hv;rcases hv with rfl|rfl|rfl|rfl<;>rfl
theorem uF {P:Program}{ops:Array Oper}{o:Oper}{a:Act}{w:World}{K:Act→World→Prop}{Q:Exit→Act→World→Prop}{E:Prop}(hg:o.guard=none)(m x v:Operand)(t:TypeId)(hop:o.op=Op.mapUpdate t m x v)(k e:TypeId)(Kk:Maps.Keyed P k)(ht:P.underlying t=some (.map k e))(R:Value->Option (DataW Value×List MemPlace))(b n:Nat)(D:DataW Value)(hm:a.eval m=.map (some b))(hown:w.ownsMap P k R b n D)(hn:n<maxLen)(key val:Value)(kl:Lit)(hx:a.eval x=key)(hv:a.eval v=val)(hkey:keyOf P k key=some kl)(d:DataW Value)(ps:List MemPlace)(hval:R val=some (d,ps))(hK:∀w',w'.ownsMap P k R b (n+1) (D.put kl d)->w.grownBy w' (some b)->K (a.put o.dst undef) w'):if Region.wanted o (yielded ops a.tmps)=true then Oper.wp P o a w K Q else E:=by rw[at7 (by simp[Region.wanted,hg])];obtain⟨w',hrun,r1,r2⟩:=hown.update Kk ht hn hkey hval;unfold Oper.wp;simp[execOp,hop,hm,hx,hv,hrun,Result.andThen];exact hK w' r1 r2
section
variable {lo :Nat} {w :World} {base g gh hc :Nat} {room :Int} {M O :Value} {a :Option Addr} {n cap mb mn :Nat} {D :DataW Value} {s :Sh} {L :List Kc.Bv} {pu sl :Int}
theorem Bz (E:Ew lo w base g room M gh hc O a n cap mb mn D s L pu sl)(hn:n≤140737488351232)(lU:mn≤1000000){bp:Int}(hb0:0≤bp)(hb1:bp<4294967296)(va:Option Addr)(vn vc:Nat)(ca:Option Addr)(cn cc:Nat)(r0 p1 l1 er:Int)(L1:List Kc.Bv)(hr:er=0→r0=room)(P:∀W:World,Gr w W->Calls prog 141 #[.agg #[.int .i64 room,.slice a n cap,.int .i64 pu,.int .i64 sl],.agg #[.int .u32 bp,.slice va vn vc]] W fun e w'=>∃a1 n1 c1,e=.returned (.tuple #[.agg #[.int .i64 r0,.slice a1 n1 c1,.int .i64 p1,.int .i64 l1],.int .i64 er])/\(Kc.Bt W.heap.size w' a1 n1 L1/\n1<=c1)/\Gr W w')(hcd:er=0->∀b∈L1,b∈L/\¬b.pc=bp\/b.pc=bp/\Ts.Ct w ca cn (Ts.aS bp b.is 0))(hl1:L1.length<=140737488351232):Calls prog 111 #[.pointer (some ⟨g,0,none⟩),.agg #[.int .u32 bp,.slice va vn vc],.slice ca cn cc] w fun e w'=>e=.returned (.tuple #[])/\(¬er=0->Gr w w')/\(er=0->Ev w.heap.size w' base g room s L1 p1 l1 (mn+1))/\Fm base w w':=by
 have HE:Hid (Ew lo w base g room M gh hc O a n cap mb mn D s L pu sl):=E;have HP:Hid (∀W:World,Gr w W->Calls prog 141 #[.agg #[.int .i64 room,.slice a n cap,.int .i64 pu,.int .i64 sl],.agg #[.int .u32 bp,.slice va vn vc]] W fun e w'=>∃a1 n1 c1,e=.returned (.tuple #[.agg #[.int .i64 r0,.slice a1 n1 c1,.int .i64 p1,.int .i64 l1],.int .i64 er])/\(Kc.Bt W.heap.size w' a1 n1 L1/\n1<=c1)/\Gr W w'):=P;have HCD:=kH hcd;have HHR:=kH hr;have CJ:=kH hl1;have HKY:=kH (acJ hb0 hb1);have hgl:=E.bw.lt;have HS:Hid (∀W:World,Gr (w.alloc (.cells #[.int .u32 bp,.slice va vn vc] 64)) W->(fun W=>W.cell? ⟨g,4,none⟩=some (.int .i64 room)/\W.cell? ⟨g,5,none⟩=some (.slice a n cap)/\W.cell? ⟨g,6,none⟩=some (.int .i64 pu)/\W.cell? ⟨g,7,none⟩=some (.int .i64 sl)/\W.cell? ⟨w.heap.size,0,none⟩=some (.int .u32 bp)/\W.cell? ⟨w.heap.size,1,none⟩=some (.slice va vn vc)) W):=fun W G=>by
  have EW:=E.of (((Gr.refl w).alloc _).trans G);have e:=Kc.aX G (at5 w _);exact⟨EW.c4,EW.c5,EW.c6,EW.c7,atZ _ _ _ _ _ _ e,atZ _ _ _ _ _ _ e⟩
 clear E P hcd hr hb0 hb1 hl1;go_enter func111,ntmps111;go_wp2_with fail;generalize hw0:w.alloc (.cells #[.int .u32 bp,.slice va vn vc] 64)=w0 at *
 have HW0:=kH hw0;have oJ:Hid (Gr w w0):=by rw[<-hw0];exact(Gr.refl w).alloc _
 clear hw0;apply Kc.share
 ·intro jO;refine aut (S:=fun W=>W.cell? ⟨g,4,none⟩=some (.int .i64 room)/\W.cell? ⟨g,5,none⟩=some (.slice a n cap)/\W.cell? ⟨g,6,none⟩=some (.int .i64 pu)/\W.cell? ⟨g,7,none⟩=some (.int .i64 sl)/\W.cell? ⟨w.heap.size,0,none⟩=some (.int .u32 bp)/\W.cell? ⟨w.heap.size,1,none⟩=some (.slice va vn vc)) (by kernel_rfl) ?_ (fun hHeld=>?_)
  ·exact HS.out _ (Gr.refl _).drew
  have aY:=kH hHeld;clear hHeld;refine tK 0 (.pointer (some ⟨g,0,none⟩)) aY.out ?_;refine tK 1 (.pointer (some ⟨g,0,none⟩)) aY.out ?_;refine tK 2 (.pointer (some ⟨g,4,none⟩)) aY.out ?_;refine tK 3 (.agg #[.int .i64 room,.slice a n cap,.int .i64 pu,.int .i64 sl]) aY.out ?_;refine tK 4 (.agg #[.int .u32 bp,.slice va vn vc]) aY.out ?_;refine aue (rs:=[5,9]) (by kernel_rfl) (by simp) ?_;refine aua rfl (fun K hK=>?cf) (aua rfl (fun K hK=>?af) aud)
  case cf=>
   go_simp;refine(HP.out _ (oJ.out.drew)).mono ?_;rintro e wd ⟨a1,n1,c1,rfl,⟨B1,hc1⟩,Gd⟩;have HB1:=kH (B1.low (by first|exact oJ.out.size|exact(oJ.out.alloc _).size));have gp:Hid (Gr w0 wd):=(Gr.refl _).drew.trans Gd;clear Gd B1;have fO:Hid _:=HS.out _ gp.out;refine hK.out _ _ fO.out (fun hx=>?_);clear hK K hx;refine tK 6 (.tuple #[.agg #[.int .i64 r0,.slice a1 n1 c1,.int .i64 p1,.int .i64 l1],.int .i64 er]) fO.out ?_;refine tK 7 (.agg #[.int .i64 r0,.slice a1 n1 c1,.int .i64 p1,.int .i64 l1]) fO.out ?_;refine tK 8 (.int .i64 er) fO.out ?_;refine aue (rs:=[9]) (by kernel_rfl) (by simp) ?_;refine aua rfl (fun K hK=>?_) aud;go_simp;refine hK.out _ _ (HS.out _ (gp.out.alloc _)) (fun hx=>?_);clear hK K hx;refine bu (i:=10) (by kernel_rfl) rfl rfl 54 (.tmp 6) (.tmp 15) rfl wd.heap.size #[.int .i64 r0,.slice a1 n1 c1,.int .i64 p1,.int .i64 l1] (by simp[Act.eval]) (by simp[Act.eval]) 54 _ (at5 wd _) Kc.wG rfl (Ea _ _ _ _ _ _) ?_ ?_
   ·exact HS.out _ (ag (gp.out.alloc _) gp.out.size _)
   refine tK 11 (.int .i64 er) (HS.out _ (ag (gp.out.alloc _) gp.out.size _)) ?_;refine auy (by kernel_rfl) ?_ _;refine aT (fun W=>W.heap[wd.heap.size]?=some (.cells #[.int .i64 r0,.slice a1 n1 c1,.int .i64 p1,.int .i64 l1] 54 (0,0))/\Kc.Bt w.heap.size W a1 n1 L1/\Gr w0 W) ⟨aup _ _ _ _ _ (0,0) (at5 wd _),HB1.out.of (ag ((Gr.refl _).alloc _) (apn _) _),ag (gp.out.alloc _) gp.out.size _⟩ ?_;obtain⟨o,ho⟩:∃o:Nat,o=wd.heap.size:=⟨_,rfl⟩;rw[<-ho];clear ho HB1 fO gp aY;clear wd
   revert o hc1
   revert a1 n1 c1
   exact jO.out
  case af=>
   go_simp;refine hK.out _ _ (HS.out _ ((Gr.refl _).alloc _).drew) (fun hx=>?_);clear hK K hx;refine aue (rs:=[5]) (by kernel_rfl) (by simp) ?_;refine aua rfl (fun K hK=>?_) aud;go_simp;refine(HP.out _ ((oJ.out.alloc _).drew)).mono ?_;rintro e wd ⟨a1,n1,c1,rfl,⟨B1,hc1⟩,Gd⟩;have HB1:=kH (B1.low (by first|exact oJ.out.size|exact(oJ.out.alloc _).size));have sM:=kH (Kc.aX Gd (Kc.aX (Gr.refl _).drew (at5 w0 _)));have gp:=kH (Gr.trans (Gr.drew ((Gr.refl w0).alloc _)) Gd);clear Gd B1;have fO:Hid _:=HS.out _ gp.out;refine hK.out _ _ fO.out (fun hx=>?_);clear hK K hx;refine tK 6 (.tuple #[.agg #[.int .i64 r0,.slice a1 n1 c1,.int .i64 p1,.int .i64 l1],.int .i64 er]) fO.out ?_;refine tK 7 (.agg #[.int .i64 r0,.slice a1 n1 c1,.int .i64 p1,.int .i64 l1]) fO.out ?_;refine tK 8 (.int .i64 er) fO.out ?_;refine bu (i:=10) (by kernel_rfl) rfl rfl 54 (.tmp 6) (.tmp 15) rfl w0.heap.size #[.int .i64 r0,.slice a1 n1 c1,.int .i64 p1,.int .i64 l1] (by simp[Act.eval]) (by simp[Act.eval]) 54 _ sM.out Kc.wG rfl (Ea _ _ _ _ _ _) ?_ ?_
   ·exact HS.out _ (ag gp.out (apn _) _)
   refine tK 11 (.int .i64 er) (HS.out _ (ag gp.out (apn _) _)) ?_;refine auy (by kernel_rfl) ?_ _;refine aT (fun W=>W.heap[w0.heap.size]?=some (.cells #[.int .i64 r0,.slice a1 n1 c1,.int .i64 p1,.int .i64 l1] 54 (0,0))/\Kc.Bt w.heap.size W a1 n1 L1/\Gr w0 W) ⟨aup _ _ _ _ _ (0,0) sM.out,HB1.out.to fun k q t f _ ht hk=>auo _ _ _ _ (aa hk sM.out (by rcases ht with rfl|rfl<;>decide)),ag gp.out (apn _) _⟩ ?_;obtain⟨o,ho⟩:∃o:Nat,o=w0.heap.size:=⟨_,rfl⟩;rw[<-ho];clear ho HB1 fO gp aY sM;clear wd
   revert o hc1
   revert a1 n1 c1
   exact jO.out
 ·intro a1 n1 c1 hc1 o W ⟨K0,B1,GW⟩;have HBt:=kH B1;have zT:=kH (oJ.out.trans GW);have HBl:=kH (Kc.aX GW (by rw[<-HW0.out];exact at5 w _));have k0:W.cell? ⟨o,0,none⟩=some (.int .i64 r0):=atZ _ _ _ _ _ _ K0;have k1:W.cell? ⟨o,1,none⟩=some (.slice a1 n1 c1):=atZ _ _ _ _ _ _ K0;have k2:W.cell? ⟨o,2,none⟩=some (.int .i64 p1):=atZ _ _ _ _ _ _ K0;have k3:W.cell? ⟨o,3,none⟩=some (.int .i64 l1):=atZ _ _ _ _ _ _ K0;clear B1 GW HS HP HW0 oJ K0;clear w0;by_cases her:er=0
  ·have hrr:=HHR.out her;subst her;subst hrr;have EW:Ew lo W base g r0 M gh hc O a n cap mb mn D s L pu sl:=HE.out.of zT.out;have HEW:Hid (Ew lo W base g r0 M gh hc O a n cap mb mn D s L pu sl):=EW;obtain⟨m1,m2,m3⟩:=EW.mid r0 a1 n1 c1 p1 l1;have HM1:Hid (Bw 94 (rsE r0 a1 n1 c1 p1 l1 mb) (si W g r0 a1 n1 c1 p1 l1) base g M gh hc O s):=m1;have Jq:Hid (Fm base W (si W g r0 a1 n1 c1 p1 l1)):=m2;have HM3:Hid ((si W g r0 a1 n1 c1 p1 l1).ownsMap prog 37 Rh mb mn D):=m3;have g4:=EW.c4;have g5:=EW.c5;have g6:=EW.c6;have g7:=EW.c7;have f4:W.frozen? ⟨g,4,none⟩=false:=EW.bw.fz 4;have f5:W.frozen? ⟨g,5,none⟩=false:=EW.bw.fz 5;have f6:W.frozen? ⟨g,6,none⟩=false:=EW.bw.fz 6;have f7:W.frozen? ⟨g,7,none⟩=false:=EW.bw.fz 7;clear EW m1 m2 m3 HE HHR;go_wp2_with fail;refine aT (fun V=>V=si W g r0 a1 n1 c1 p1 l1) rfl ?_;intro V hV;rw[<-hV]at HM1 Jq HM3;have HV:Hid (V=si W g r0 a1 n1 c1 p1 l1):=hV;have CK:Hid (V.cell? ⟨g,8,none⟩=some (.map (some mb))/\V.cell? ⟨w.heap.size,0,none⟩=some (.int .u32 bp)):=⟨HM1.out.rest 4,atZ _ _ _ _ _ _ (Jq.out.row HBl.out (by decide))⟩;clear hV g4 g5 g6 g7 f4 f5 f6 f7 k0 k1 k2 k3;refine aut (S:=fun W=>W.cell? ⟨g,8,none⟩=some (.map (some mb))/\W.cell? ⟨w.heap.size,0,none⟩=some (.int .u32 bp)) (by kernel_rfl) ?_ (fun hHeld=>?_)
   ·exact CK.out
   have aY:Hid _:=hHeld;clear hHeld;refine tK 0 (.pointer (some ⟨g,0,none⟩)) aY.out ?_;refine tK 1 (.pointer (some ⟨g,0,none⟩)) aY.out ?_;refine tK 2 (.pointer (some ⟨g,8,none⟩)) aY.out ?_;refine tK 3 (.map (some mb)) aY.out ?_;refine tK 4 (.pointer (some ⟨w.heap.size,0,none⟩)) aY.out ?_;refine tK 5 (.int .u32 bp) aY.out ?_;refine tK 6 (.slice ca cn cc) aY.out ?_;refine aue (rs:=[7]) (by kernel_rfl) (by simp) ?_;refine aua rfl (fun K hK=>uF rfl (.tmp 26) (.tmp 28) (.tmp 29) 92 rfl 37 177 kU underlying92 Rh mb mn D (by simp[Act.eval]) HM3.out.drew (by unfold maxLen;omega) (.int .u32 bp) (.slice ca cn cc) (.int .u32 bp) (by simp[Act.eval]) (by simp[Act.eval]) HKY.out (.held (.slice ca cn cc)) [] rfl (fun w5 h5 q5=>hK.out _ _ ?_ (fun hx=>?_))) aud
   ·have st:=yJ HM3.out.drew q5;exact⟨(aui (st _ _ _ _ HM1.out.blk)).trans CK.out.1,(aui (st _ _ _ _ (Jq.out.row HBl.out (by decide)))).trans CK.out.2⟩
   clear hK K hx;refine auy (by kernel_rfl) ?_ _;have HQ:=HEW.out.put HBt.out hc1 (W:=w5) (kZ:=p1) (sl':=l1) (by rw[<-HV.out];exact⟨q5.os,q5.tape,q5.output,q5.size,q5.block⟩) h5 (fun b hb=>by
    rcases HCD.out (by trivial) b hb with⟨hb1,hb2⟩|⟨hb1,hb2⟩
    ·obtain⟨xa,xn,xc,h1,h2⟩:=HEW.out.code b hb1;exact⟨xa,xn,xc,fun z=>(Maps.atKey_put_other (fun e=>hb2 (by injection e)) _ z).trans (h1 z),h2⟩
    ·refine⟨ca,cn,cc,fun z=>?_,?_⟩
     ·rw[hb1];exact Maps.atKey_put_same HM3.out.isMap (kU.key HKY.out) _ z
     ·rw[hb1];exact hb2.of zT.out)
   have KT:Hid (Fm base w w5):=(Fm.bD zT.out (apr HEW.out.bw.bg (by have:=hgl;omega))).trans HQ.2;have hn1:n1<=140737488351232:=by rw[<-HBt.out.bs.len];exact CJ.out
   have HFg:Hid (Calls prog 89 #[.pointer (some ⟨g,0,none⟩)] w5 fun e w'=>e=.returned (.tuple #[])/\(∃D',Ew w.heap.size w' base g r0 M gh hc O a1 n1 c1 mb (mn+1) D' s L1 p1 l1)/\Fm base w5 w'):=uE HQ.1 hn1;clear HQ h5 q5 HM1 Jq HM3 CK aY HV HEW HBt HBl zT HCD hn1 CJ;clear V W;go_wp2_with fail;refine au0 HFg.out ?_;rintro e w6 ⟨rfl,⟨D6,E6⟩,F6⟩;have HE6:Hid (Ev w.heap.size w6 base g r0 s L1 p1 l1 (mn+1)):=⟨M,gh,hc,O,a1,n1,c1,mb,D6,E6⟩;have HF6:Hid (Fm base w w6):=KT.out.trans F6;clear HFg E6 F6 KT;go_wp2_with fail;go_end0;exact⟨rfl,HE6.out,HF6.out⟩
  ·have alf:(er !=0)=true:=by simpa using her
   have HER:Hid (¬er=0):=her;clear her k0 k1 k2 k3 HBt HBl HCD HHR;go_wp2_with fail;refine auc (auV results111 _ _ _) rfl ?_;exact⟨rfl,fun _=>zT.out,fun h=>absurd h HER.out,Fm.bD zT.out HE.out.ay⟩
end
end En
end Go.Proofs.YtiadhbmnfjfioaaGreatDoor
