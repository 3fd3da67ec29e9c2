/- ours -/
import Derived.Test.YtiadhbmnfjfioaaGreatDoorX16
set_option linter.unusedVariables false
set_option linter.unusedSimpArgs false
set_option maxHeartbeats 8000000
set_option maxRecDepth 100000
set_option linter.unusedSectionVars false
namespace Go.Proofs.YtiadhbmnfjfioaaGreatDoor
open Go.Proofs.Tryz hiding t0 t1 t2
open Go.ChangeShapes Go.WideShapes Go.ChangeAt Go.RowKit
variable [Inhabited Hc.bN]
namespace Kc
open Mm Ts Hc

def Bt (lo:Nat) (w:World) (ao:Option Addr) (n:Nat) (bs:List Bv):Prop:=∀W:World,(∀(k:Nat) (o:Array Value) (t:Nat) (f:Nat×Nat),lo<=k->t=64\/t=59->w.heap[k]?=some (.cells o t f)->W.heap[k]?=w.heap[k]?)->Bs W ao n bs
theorem Bt.bs {lo:Nat}{w:World}{ao:Option Addr}{n:Nat}{bs:List Bv}(h:Bt lo w ao n bs):Bs w ao n bs:=h w fun _ _ _ _ _ _ _=>rfl
theorem Bt.to {lo:Nat}{w w':World}{ao:Option Addr}{n:Nat}{bs:List Bv}(h:Bt lo w ao n bs)(q:∀(k:Nat) (o:Array Value) (t:Nat) (f:Nat×Nat),lo<=k->t=64\/t=59->w.heap[k]?=some (.cells o t f)->w'.heap[k]?=w.heap[k]?):Bt lo w' ao n bs:=fun W hW=>h W fun k o t f hl ht hk=>(hW k o t f hl ht ((q k o t f hl ht hk).trans hk)).trans (q k o t f hl ht hk)
theorem Bt.of {lo:Nat}{w w':World}{ao:Option Addr}{n:Nat}{bs:List Bv}(h:Bt lo w ao n bs)(G:Gr w w'):Bt lo w' ao n bs:=h.to fun k o t f _ _ hk=>G.block k (apk.1 hk).1
theorem Bt.low {lo l0:Nat}{w:World}{ao:Option Addr}{n:Nat}{bs:List Bv}(h:Bt lo w ao n bs)(hl:l0<=lo):Bt l0 w ao n bs:=fun W q=>h W fun k o t f hk=>q k o t f (apr hl hk)
theorem NH (lo:Nat)(w:World)(ao:Option Addr):Bt lo w ao 0 []:=fun W _=>Yx W ao
theorem Bu {w w':World}{base e n sz:Nat}{v:Value}{xs:List Value}(h:w.ownsRow base e sz v n xs)(q:∀(k:Nat) (o:Array Value) (f:Nat×Nat),base<=k->w.heap[k]?=some (.cells o e f)->w'.heap[k]?=w.heap[k]?):w'.ownsRow base e sz v n xs:=by
 obtain⟨h1,h2⟩:=h;refine⟨h1,?_⟩;rcases h2 with h2|⟨g,cap,cur,hv,hb,hg,r⟩
 ·exact .inl h2
 ·exact .inr ⟨g,cap,cur,hv,hb,(q g _ _ hb hg).trans hg,r⟩
theorem NI {w:World}{lo base b1 g m cp:Nat}{xs:List Value}{bs:List Bv}(O:w.ownsRow base 64 2 (.slice (some ⟨g,0,none⟩) m cp) m xs)(B:Bx w b1 bs xs)(ok:∀b∈bs,b.Ok)(hl:bs.length=m)(l0:lo<=base)(l1:lo<=b1):Bt lo w (some ⟨g,0,none⟩) m bs/\m<=cp:=by
 refine⟨fun W q=>?_,(Rw.open O).1⟩;have B2:Bx W b1 bs xs:=⟨B.len,fun j b hb=>by
  obtain⟨v,h1,h2,h3⟩:=B.at_ j b hb;exact⟨v,h1,h2,Bu h3 fun k o f hk e=>q k o _ f (by omega) (.inr rfl) e⟩⟩
 have:=Yw (Bu O fun k o f hk e=>q k o _ f (by omega) (.inl rfl) e) (B2.bw ok) 0 m (by omega);rw[List.drop_zero,aqI]at this;exact this
theorem TJ {f t:Int}{bs:List Bv}(h:∀b∈bs,b.Ok):∀b∈bJ f t bs,b.Ok:=fun b hb=>h b (arz.1 hb).1
theorem D8 {w:World}{ao:Option Addr}{n:Nat}(cap:Nat){bs:List Bv}(B:Bs w ao n bs)(hn:n*32<=140737488351232)(room pu sl:Int){f t:Int}(hf:0<=f/\f<4294967296)(ht:0<=t/\t<4294967296):Calls prog 88 #[.agg #[.int .i64 room,.slice ao n cap,.int .i64 pu,.int .i64 sl],.agg #[.int .u32 f,.int .u32 t]] w fun e w'=>∃a m c,e=.returned (.agg #[.int .i64 room,.slice a m c,.int .i64 pu,.int .i64 (wrap64 (sl+((n:Int)-((bJ f t bs).length:Int))))])/\(Bt w.heap.size w' a m (bJ f t bs)/\m<=c)/\Gr w w':=by
 have CP:Hid (∀W:World,Gr w W->Calls prog 116 #[.agg #[.int .i64 room,.slice ao n cap,.int .i64 pu,.int .i64 sl]] W fun e w'=>∃g cp xs,e=.returned (.agg #[.int .i64 room,.slice (some ⟨g,0,none⟩) n cp,.int .i64 pu,.int .i64 sl])/\w'.ownsRow W.heap.size 64 2 (.slice (some ⟨g,0,none⟩) n cp) n xs/\Bx w' W.heap.size bs xs/\Gr W w'):=fun W G=>wW cap (B.of G) hn room pu sl
 have zS:Hid (∀b∈bs,b.Ok):=B.ok;have HL:Hid (bs.length=n):=B.len;have TO:Hid (∀W:World,_):=fun W=>Ac W f t
 obtain⟨CV,HC⟩:∃CV,Hid (CV=wrap64 (sl+((n:Int)-((bJ f t bs).length:Int)))):=⟨_,rfl⟩;rw[<-HC.out];have HKl:Hid ((bJ f t bs).length<=n):=by have:=LB f t bs bs.length;rw[ap9,B.len]at this;exact this
 have DF:Hid (∀(W:World) (base b1 g cp K:Nat) (xs:List Value),W.ownsRow base 64 2 (.slice (some ⟨g,0,none⟩) n cp) n xs->Bx W b1 bs xs->W.heap[K]?=some (.cells #[.int .u32 f,.int .u32 t] 175 (0,0))->_):=fun W base b1 g cp K xs O X hK=>NF O X HL.out (by omega) zS.out hK ht.2
 clear B hf ht;go_enter func88,ntmps88;go_wp2_with fail;refine(CP.out _ ((((Gr.refl w).alloc _).alloc _).alloc _)).mono ?_;rintro e w1 ⟨g,cp,xs,rfl,O1,X1,G1⟩;have T1:=jo G1;have aU:=kH (((((Gr.refl w).alloc _).alloc _).alloc _).trans G1);have hsz:(((w.alloc (.cells #[.int .i64 room,.slice ao n cap,.int .i64 pu,.int .i64 sl] 54)).alloc (.cells #[.int .u32 f,.int .u32 t] 175)).alloc (.cells #[.int .i64 0,.slice none 0 0,.int .i64 0,.int .i64 0] 54)).heap.size=w.heap.size+1+1+1:=by simp
 rw[hsz]at O1 X1;have TK:=kH O1;have kL:=kH X1;have HT1:=kH T1;clear O1 X1 T1 G1 CP hsz;go_wp2_with fail;refine Bj (fun W=>(W.heap[w.heap.size]?=some (.cells #[.int .i64 room,.slice ao n cap,.int .i64 pu,.int .i64 sl] 54 (0,0))/\W.heap[w.heap.size+1]?=some (.cells #[.int .u32 f,.int .u32 t] 175 (0,0))/\W.heap[w.heap.size+1+1]?=some (.cells #[.int .i64 0,.slice none 0 0,.int .i64 0,.int .i64 0] 54 (0,0)))/\(W.ownsRow (w.heap.size+1+1+1) 64 2 (.slice (some ⟨g,0,none⟩) n cp) n xs/\Bx W (w.heap.size+1+1+1) bs xs)/\W.heap[w1.heap.size]?=some (.cells #[.int .i64 room,.slice (some ⟨g,0,none⟩) n cp,.int .i64 pu,.int .i64 sl] 54 (0,0))/\Gr w W) ?_ ?_
 ·have G:=(Gr.refl w1).alloc (.cells #[.int .i64 room,.slice (some ⟨g,0,none⟩) n cp,.int .i64 pu,.int .i64 sl] 54);exact⟨⟨aX G HT1.out.1,aX G HT1.out.2.1,aX G HT1.out.2.2⟩,⟨aC TK.out G,kL.out.of G⟩,at5 w1 _,aU.out.alloc _⟩
 have ho:=(apk.1 HT1.out.2.2).1;clear HT1 TK kL aU;generalize w1.heap.size=o at *
 clear w1;rintro W ⟨T0,OX0,R0,G0⟩;have HT:=kH T0;have NJ:=kH OX0;have HR:=kH R0;have HG:=kH G0;have x1:W.cell? ⟨o,1,none⟩=some (.slice (some ⟨g,0,none⟩) n cp):=atZ _ _ _ _ _ _ R0;have q0:W.cell? ⟨w.heap.size+1,0,none⟩=some (.int .u32 f):=atZ _ _ _ _ _ _ T0.2.1;have q1:W.cell? ⟨w.heap.size+1,1,none⟩=some (.int .u32 t):=atZ _ _ _ _ _ _ T0.2.1;clear T0 OX0 R0 G0
 go_region_with (first
  |(go_at_call 118;refine(TO.out _).mono ?_;rintro e w2 ⟨K,rfl,hK,G2⟩;have HG2:Hid (Gr W w2):=Gr.trans (by repeat (first|exact Gr.refl _|refine Gr.drewN ?_ _|refine Gr.drew ?_)) G2;have HK:Hid (w2.heap[K]?=some (.cells #[.int .u32 f,.int .u32 t] 175 (0,0))):=hK;have x2:w2.cell? ⟨o,1,none⟩=some (.slice (some ⟨g,0,none⟩) n cp):=atZ _ _ _ _ _ _ (aX HG2.out HR.out);clear G2 hK)
  |(go_at_call 117;refine(DF.out _ _ _ g cp K xs (aC NJ.out.1 HG2.out) (NJ.out.2.of HG2.out) HK.out).mono ?_;rintro e w3 ⟨m,ys,rfl,hm,O3,X3,Q3⟩;have H3:Hid (((w3.heap[w.heap.size]?=some (.cells #[.int .i64 room,.slice ao n cap,.int .i64 pu,.int .i64 sl] 54 (0,0))/\w3.heap[w.heap.size+1]?=some (.cells #[.int .u32 f,.int .u32 t] 175 (0,0))/\w3.heap[w.heap.size+1+1]?=some (.cells #[.int .i64 0,.slice none 0 0,.int .i64 0,.int .i64 0] 54 (0,0)))/\(w3.ownsRow (w.heap.size+1+1+1) 64 2 (.slice (some ⟨g,0,none⟩) m cp) m ys/\Bx w3 (w.heap.size+1+1+1) (bJ f t bs) ys)/\w3.heap[o]?=some (.cells #[.int .i64 room,.slice (some ⟨g,0,none⟩) n cp,.int .i64 pu,.int .i64 sl] 54 (0,0)))/\Gr w w3/\(bJ f t bs).length=m):=(⟨⟨⟨dL (aC NJ.out.1 HG2.out) Q3 (aX HG2.out HT.out.1) (by decide),dL (aC NJ.out.1 HG2.out) Q3 (aX HG2.out HT.out.2.1) (by decide),dL (aC NJ.out.1 HG2.out) Q3 (aX HG2.out HT.out.2.2) (by decide)⟩,⟨O3,X3⟩,dL (aC NJ.out.1 HG2.out) Q3 (aX HG2.out HR.out) (by decide)⟩,WJ (HG.out.trans HG2.out) (by have:=(NJ.out.1.lt g rfl).1;omega) Q3,hm⟩);have y1:w3.cell? ⟨o,1,none⟩=some (.slice (some ⟨g,0,none⟩) n cp):=atZ _ _ _ _ _ _ H3.out.1.2.2;have yf:w3.frozen? ⟨o,1,none⟩=false:=aus _ _ _ _ _ H3.out.1.2.2;clear hm O3 X3 Q3))
 all_goals
  refine Bj (fun W=>(W.heap[w.heap.size]?=some (.cells #[.int .i64 room,.slice ao n cap,.int .i64 pu,.int .i64 sl] 54 (0,0))/\W.heap[w.heap.size+1]?=some (.cells #[.int .u32 f,.int .u32 t] 175 (0,0))/\W.heap[w.heap.size+1+1]?=some (.cells #[.int .i64 0,.slice none 0 0,.int .i64 0,.int .i64 0] 54 (0,0)))/\(W.ownsRow (w.heap.size+1+1+1) 64 2 (.slice (some ⟨g,0,none⟩) m cp) m ys/\Bx W (w.heap.size+1+1+1) (bJ f t bs) ys)/\W.heap[o]?=some (.cells #[.int .i64 room,.slice (some ⟨g,0,none⟩) m cp,.int .i64 pu,.int .i64 sl] 54 (0,0))/\Gr w W) ?_ ?_
  ·obtain⟨⟨⟨t0,t1,t2⟩,⟨O3,X3⟩,R3⟩,G3,_⟩:=H3.out;refine⟨⟨?_,?_,?_⟩,⟨?_,?_⟩,?_,?_⟩
   ·rw[auv _ _ _ _ (by show w.heap.size≠o;omega)];exact t0
   ·rw[auv _ _ _ _ (by show w.heap.size+1≠o;omega)];exact t1
   ·rw[auv _ _ _ _ (by show w.heap.size+1+1≠o;omega)];exact t2
   ·exact aj O3 fun q c r hq=>auv _ _ _ _ (by exact aa hq R3 (by decide))
   ·exact X3.to fun q c r hq=>auv _ _ _ _ (by exact aa hq R3 (by decide))
   ·rw[aul _ _ _ _ _ _ R3];rfl
   ·exact G3.setCell (by show w.heap.size<=o;omega) _
  have HM:=kH H3.out.2.2;clear y1 yf H3 HG2 HK HT NJ HR HG x2;clear w3 w2 x1 q0 q1;clear W;rintro W ⟨T0,OX0,R0,G0⟩;have HT:=kH T0;have NJ:=kH OX0;have HR:=kH R0;have HG:=kH G0;have c1:W.cell? ⟨w.heap.size,1,none⟩=some (.slice ao n cap):=atZ _ _ _ _ _ _ T0.1;have x0:W.cell? ⟨o,0,none⟩=some (.int .i64 room):=atZ _ _ _ _ _ _ R0;have x1:W.cell? ⟨o,1,none⟩=some (.slice (some ⟨g,0,none⟩) m cp):=atZ _ _ _ _ _ _ R0;have x2:W.cell? ⟨o,2,none⟩=some (.int .i64 pu):=atZ _ _ _ _ _ _ R0;have x3:W.cell? ⟨o,3,none⟩=some (.int .i64 sl):=atZ _ _ _ _ _ _ R0;have xf:W.frozen? ⟨o,3,none⟩=false:=aus _ _ _ _ _ R0;have z0:W.cell? ⟨w.heap.size+1+1,0,none⟩=some (.int .i64 0):=atZ _ _ _ _ _ _ T0.2.2;have z1:W.cell? ⟨w.heap.size+1+1,1,none⟩=some (.slice none 0 0):=atZ _ _ _ _ _ _ T0.2.2;have z2:W.cell? ⟨w.heap.size+1+1,2,none⟩=some (.int .i64 0):=atZ _ _ _ _ _ _ T0.2.2;have z3:W.cell? ⟨w.heap.size+1+1,3,none⟩=some (.int .i64 0):=atZ _ _ _ _ _ _ T0.2.2;have zf:∀j,W.frozen? ⟨w.heap.size+1+1,j,none⟩=false:=fun j=>aus _ _ _ _ _ T0.2.2
  have hne:¬w.heap.size+1+1=o:=by omega
  have hne2:¬o=w.heap.size+1+1:=by omega
  have lU:m<=n:=by have:=HKl.out;rw[HM.out]at this;exact this
  clear T0 OX0 R0 G0 TO DF;go_wp2_with fail;generalize hS:wrap64 (sl+((n:Int)-(m:Int)))=SV at *
  have HS:Hid (wrap64 (sl+((n:Int)-(m:Int)))=SV):=hS;clear hS;have e1:(W.setCell ⟨o,3,none⟩ (.int .i64 SV)).heap[w.heap.size+1+1]?=some (.cells #[.int .i64 0,.slice none 0 0,.int .i64 0,.int .i64 0] 54 (0,0)):=(auv _ _ _ _ (by exact hne)).trans HT.out.2.2;have hk:∀(k:Nat) (c:Array Value) (r:Nat) (z:Nat×Nat),W.heap[k]?=some (.cells c r z)->r≠54->(((((W.setCell ⟨o,3,none⟩ (.int .i64 SV)).setCell ⟨w.heap.size+1+1,0,none⟩ (.int .i64 room)).setCell ⟨w.heap.size+1+1,1,none⟩ (.slice (some ⟨g,0,none⟩) m cp)).setCell ⟨w.heap.size+1+1,2,none⟩ (.int .i64 pu)).setCell ⟨w.heap.size+1+1,3,none⟩ (.int .i64 SV)).heap[k]?=W.heap[k]?:=fun k c r z hq hr=>by
   rw[yI _ _ _ _ _ _ (aa hq HT.out.2.2 hr),auv _ _ _ _ (by exact aa hq HR.out hr)]
  refine auc (v:=.agg #[.int .i64 room,.slice (some ⟨g,0,none⟩) m cp,.int .i64 pu,.int .i64 SV]) (auD results88 _ _ _ _ _ (0,0) _ rfl (uC e1 _ _ _ _) underlying54 rfl wG) rfl ⟨some ⟨g,0,none⟩,m,cp,by rw[HC.out,HM.out,HS.out],?_,?_⟩
  ·exact NI (aj NJ.out.1 fun q c r hq=>hk q c _ r hq (by decide)) (NJ.out.2.to fun q c r hq=>hk q c _ r hq (by decide)) (TJ zS.out) HM.out (by omega) (by omega)
  ·have q1:w.heap.size<=w.heap.size+1+1:=by omega
   exact((((HG.out.setCell (by show w.heap.size<=o;omega) _).setCell (by exact q1) _).setCell (by exact q1) _).setCell (by exact q1) _).setCell (by exact q1) _
end Kc
namespace En
open Mm Hh Hc Mc

def rsE (room:Int) (a:Option Addr) (n cap:Nat) (pu sl:Int) (mb:Nat):List Value:=[.int .i64 room,.slice a n cap,.int .i64 pu,.int .i64 sl,.map (some mb)]
structure Ew (lo:Nat) (w:World) (base g:Nat) (room:Int) (M:Value) (gh hc:Nat) (O:Value) (a:Option Addr) (n cap mb mn:Nat) (D:DataW Value) (s:Sh) (L:List Kc.Bv) (pu sl:Int):Prop where
 bw:Bw 94 (rsE room a n cap pu sl mb) w base g M gh hc O s
 bt:Kc.Bt lo w a n L
 cap:n<=cap
 bm:base<=mb
 map:w.ownsMap prog 37 Rh mb mn D
 code:∀b∈L,∃ca cn cc,(∀z,D.atKey (.int .u32 b.pc) z=.held (.slice ca cn cc))/\Ts.Ct w ca cn (Ts.aS b.pc b.is 0)
def si (w:World) (g:Nat) (r:Int) (a':Option Addr) (n' cap':Nat) (kZ sl':Int):World:=(((w.setCell ⟨g,4,none⟩ (.int .i64 r)).setCell ⟨g,5,none⟩ (.slice a' n' cap')).setCell ⟨g,6,none⟩ (.int .i64 kZ)).setCell ⟨g,7,none⟩ (.int .i64 sl')
def Ev (lo:Nat) (w:World) (base g:Nat) (room:Int) (s:Sh) (L:List Kc.Bv) (pu sl:Int) (mn:Nat):Prop:=∃M gh hc O a n cap mb D,Ew lo w base g room M gh hc O a n cap mb mn D s L pu sl
structure Fm (base:Nat) (w w':World):Prop where
 below:Below base w w'
 keep:∀(k:Nat) (q:Array Value) (t:Nat) (f:Nat×Nat),w.heap[k]?=some (.cells q t f)->t≠94->w'.heap[k]?=w.heap[k]?
theorem Fm.refl (base:Nat)(w:World):Fm base w w:=⟨auC _ _,fun _ _ _ _ _ _=>rfl⟩
theorem Fm.trans {base:Nat}{a b c:World}(h:Fm base a b)(k:Fm base b c):Fm base a c:=⟨h.below.trans k.below,fun i q t f e t1=>(k.keep i q t f ((h.keep i q t f e t1).trans e) t1).trans (h.keep i q t f e t1)⟩
theorem Fm.bD {base:Nat}{w w':World}(G:Gr w w')(hb:base<=w.heap.size):Fm base w w':=⟨aun G hb,fun i q t f e _=>G.block i (gs e).1⟩
theorem Fm.row {base:Nat}{w w':World}(h:Fm base w w'){k:Nat}{q:Array Value}{t:Nat}{f:Nat×Nat}(e:w.heap[k]?=some (.cells q t f))(t1:t≠94):w'.heap[k]?=some (.cells q t f):=(h.keep k q t f e t1).trans e
theorem Fm.set {base:Nat}{a w:World}{g:Nat}{Y:Array Value}{f:Nat×Nat}(h:Fm base a w)(hy:w.heap[g]?=some (.cells Y 94 f))(hg:base<=g)(i:Nat)(v:Value):Fm base a (w.setCell ⟨g,i,none⟩ v):=⟨auS h.below (by exact hg) _,fun k q t f' e t1=>by
 have e2:=h.row e t1;rw[hso (by exact aa e2 hy t1)];exact h.keep k q t f' e t1⟩
theorem Fm.setRow {base k:Nat}{w w':World}(h:Fm base w w')(hb:base<=k)(hk:w.heap.size<=k)(cs:Array Value):Fm base w (w'.setRow k cs):=⟨below_setRow h.below hb cs,fun i q t f e t1=>by have:=(gs e).1;rw[sV (by omega)];exact h.keep i q t f e t1⟩
section
variable {lo :Nat} {w w' :World} {base g gh hc :Nat} {room :Int} {M O :Value} {a :Option Addr} {n cap mb mn :Nat} {D :DataW Value} {s :Sh} {L :List Kc.Bv} {pu sl :Int}
theorem Bw.to {ty:Nat}{rs:List Value}(B:Bw ty rs w base g M gh hc O s)(q:∀(k:Nat) (o:Array Value) (t:Nat) (f:Nat×Nat),w.heap[k]?=some (.cells o t f)->w'.heap[k]?=w.heap[k]?):Bw ty rs w' base g M gh hc O s:=⟨B.t1,B.t2,B.t3,B.bg,(q _ _ _ _ B.blk).trans B.blk,B.mem.to fun k o f e=>q k o _ f e,B.bh,B.row.to fun k o f e=>q k o _ f e,aj B.out fun k o f e=>q k o _ f e,⟨B.hz.1.to fun k o f e=>q k o _ f e,B.hz.2⟩⟩
theorem l8 (h:w.ownsMap prog 37 Rh mb mn D)(e:w'.heap[mb]?=w.heap[mb]?):w'.ownsMap prog 37 Rh mb mn D:=by obtain⟨es,clock,hb,r⟩:=h;exact⟨es,clock,e.trans hb,r⟩
theorem Ew.of (E:Ew lo w base g room M gh hc O a n cap mb mn D s L pu sl)(G:Gr w w'):Ew lo w' base g room M gh hc O a n cap mb mn D s L pu sl:=
 ⟨E.bw.of G,E.bt.of G,E.cap,E.bm,l8 E.map (G.block _ E.map.lt),fun b hb=>by
  obtain⟨ca,cn,cc,h1,h2⟩:=E.code b hb;exact⟨ca,cn,cc,h1,h2.of G⟩⟩
theorem Ev.of (E:Ev lo w base g room s L pu sl mn)(G:Gr w w'):Ev lo w' base g room s L pu sl mn:=by obtain⟨M,gh,hc,O,a,n,cap,mb,D,E⟩:=E;exact⟨M,gh,hc,O,a,n,cap,mb,D,E.of G⟩
theorem Ew.ay (E:Ew lo w base g room M gh hc O a n cap mb mn D s L pu sl):base<=w.heap.size:=E.bw.ay
theorem yJ (h:w.ownsMap prog 37 Rh mb mn D)(q:w.grownBy w' (some mb)):∀(k:Nat) (o:Array Value) (t:Nat) (f:Nat×Nat),w.heap[k]?=some (.cells o t f)->w'.heap[k]?=w.heap[k]?:=fun k o t f e=>by refine q.block k (gs e).1 (fun hk=>?_);injection hk with hk;subst hk;obtain⟨es,clock,hb,_⟩:=h;rw[hb]at e;cases e
theorem ads {W:World}(B:Kc.Bt lo w a n L)(F:Fe 94 base w W):Kc.Bt lo W a n L:=B.to fun k o t f _ ht e=>F.cells e (by rcases ht with rfl|rfl<;>decide) (by rcases ht with rfl|rfl<;>decide) (by rcases ht with rfl|rfl<;>decide)
theorem Xa {W:World}(B:Kc.Bt lo w a n L)(F:Fm base w W):Kc.Bt lo W a n L:=B.to fun k o t f _ ht e=>F.keep k o t f e (by rcases ht with rfl|rfl<;>decide)
theorem Xb {W:World}{ca:Option Addr}{cn:Nat}{cd:List Mi.Mv}(C:Ts.Ct w ca cn cd)(F:Fm base w W):Ts.Ct W ca cn cd:=C.to fun k o f e=>F.keep k o _ f e (by decide)
theorem adt {W:World}{ca:Option Addr}{cn:Nat}{cd:List Mi.Mv}(C:Ts.Ct w ca cn cd)(F:Fe 94 base w W):Ts.Ct W ca cn cd:=C.to fun k o f e=>F.cells e (by decide) (by decide) (by decide)
theorem Ew.turn (E:Ew lo w base g room M gh hc O a n cap mb mn D s L pu sl)(q:w.grownBy w' (some mb)){iK:Nat}{D':DataW Value}(h:w'.ownsMap prog 37 Rh mb iK D')(hc':∀b∈L,∀z,D'.atKey (.int .u32 b.pc) z=D.atKey (.int .u32 b.pc) z):Ew lo w' base g room M gh hc O a n cap mb iK D' s L pu sl/\Fm base w w':=by have st:=yJ E.map q;refine⟨⟨Bw.to E.bw st,E.bt.to fun k o t f _ _ e=>st k o t f e,E.cap,E.bm,h,fun b hb=>?_⟩,⟨(auC base w).grown q E.ay (fun k hk=>by injection hk with hk;subst hk;exact E.bm),fun k o t f e _=>st k o t f e⟩⟩;obtain⟨ca,cn,cc,h1,h2⟩:=E.code b hb;exact⟨ca,cn,cc,fun z=>(hc' b hb z).trans (h1 z),h2.to fun k o f e=>st k o _ f e⟩
theorem Ew.take (E:Ew lo w base g room M gh hc O a n cap mb mn D s L pu sl){s':Sh}(B:Bd 94 (rsE room a n cap pu sl mb) w' base g s')(F:Fe 94 base w w'):Ev lo w' base g room s' L pu sl mn:=by
 obtain⟨M',gh',hc',O',B⟩:=B;refine⟨M',gh',hc',O',a,n,cap,mb,D,B,ads E.bt F,E.cap,E.bm,?_,fun b hb=>?_⟩
 ·obtain⟨es,clock,hb,r⟩:=E.map;exact⟨es,clock,F.keep mb _ hb (fun _ _ h=>by cases h) (fun _ _ h=>by cases h) (fun _ _ h=>by cases h),r⟩
 ·obtain⟨ca,cn,cc,h1,h2⟩:=E.code b hb;exact⟨ca,cn,cc,h1,adt h2 F⟩
theorem Ew.mid (E:Ew lo w base g room M gh hc O a n cap mb mn D s L pu sl)(r:Int)(a':Option Addr)(n' cap':Nat)(kZ sl':Int):Bw 94 (rsE r a' n' cap' kZ sl' mb) (si w g r a' n' cap' kZ sl') base g M gh hc O s/\Fm base w (si w g r a' n' cap' kZ sl')/\(si w g r a' n' cap' kZ sl').ownsMap prog 37 Rh mb mn D:=by
 have B0:=E.bw.vM 0 (.int .i64 r);have B1:=B0.vM 1 (.slice a' n' cap');have B2:=B1.vM 2 (.int .i64 kZ);have B3:=B2.vM 3 (.int .i64 sl');have F:Fe 94 base w (si w g r a' n' cap' kZ sl'):=
  ((((Fe.refl base w).setCell E.bw.blk E.bw.bg _ _).setCell B0.blk E.bw.bg _ _).setCell B1.blk E.bw.bg _ _).setCell B2.blk E.bw.bg _ _
 refine⟨B3,((((Fm.refl base w).set E.bw.blk E.bw.bg _ _).set B0.blk E.bw.bg _ _).set B1.blk E.bw.bg _ _).set B2.blk E.bw.bg _ _,?_⟩;obtain⟨es,clock,hb,r⟩:=E.map;exact⟨es,clock,F.keep mb _ hb (fun _ _ h=>by cases h) (fun _ _ h=>by cases h) (fun _ _ h=>by cases h),r⟩
theorem Ew.set (E:Ew lo w base g room M gh hc O a n cap mb mn D s L pu sl){lo':Nat}{a':Option Addr}{n' cap':Nat}{L':List Kc.Bv}(kZ sl':Int)(B:Kc.Bt lo' w a' n' L')(hcap:n'<=cap')(hc':∀b∈L',b∈L):Ew lo' (si w g room a' n' cap' kZ sl') base g room M gh hc O a' n' cap' mb mn D s L' kZ sl'/\Fm base w (si w g room a' n' cap' kZ sl'):=by obtain⟨B3,F,m⟩:=E.mid room a' n' cap' kZ sl';refine⟨⟨B3,Xa B F,hcap,E.bm,m,fun b hb=>?_⟩,F⟩;obtain⟨ca,cn,cc,h1,h2⟩:=E.code b (hc' b hb);exact⟨ca,cn,cc,h1,Xb h2 F⟩
theorem Ew.put (E:Ew lo w base g room M gh hc O a n cap mb mn D s L pu sl){lo':Nat}{a':Option Addr}{n' cap':Nat}{L':List Kc.Bv}{kZ sl':Int}(B:Kc.Bt lo' w a' n' L')(hcap:n'≤cap'){W:World}(q:(si w g room a' n' cap' kZ sl').grownBy W (some mb)){iK:Nat}{D':DataW Value}(h:W.ownsMap prog 37 Rh mb iK D')(hc':∀b∈L',∃ca cn cc,(∀z,D'.atKey (.int .u32 b.pc) z=.held (.slice ca cn cc))/\Ts.Ct w ca cn (Ts.aS b.pc b.is 0)):Ew lo' W base g room M gh hc O a' n' cap' mb iK D' s L' kZ sl'/\Fm base w W:=by obtain⟨B3,F,m⟩:=E.mid room a' n' cap' kZ sl';have st:=yJ m q;refine⟨⟨Bw.to B3 st,(Xa B F).to fun k o t f _ _ e=>st k o t f e,hcap,E.bm,h,fun b hb=>?_⟩,F.trans ⟨(auC base _).grown q B3.ay (fun k hk=>by injection hk with hk;subst hk;exact E.bm),fun k o t f e _=>st k o t f e⟩⟩;obtain⟨ca,cn,cc,h1,h2⟩:=hc' b hb;exact⟨ca,cn,cc,h1,(Xb h2 F).to fun k o f e=>st k o _ f e⟩
theorem Ew.row (E:Ew lo w base g room M gh hc O a n cap mb mn D s L pu sl){z:Nat}{Z:Array Value}(hz:w.heap[z]?=some (.cells Z 64 (0,0)))(hl:z<lo)(cs:Array Value):Ew lo (w.setRow z cs) base g room M gh hc O a n cap mb mn D s L pu sl:=by
 have st:∀(k:Nat) (o:Array Value) (t:Nat) (f:Nat×Nat),t≠64->w.heap[k]?=some (.cells o t f)->(w.setRow z cs).heap[k]?=w.heap[k]?:=fun k o t f ht e=>sV (aa e hz ht)
 refine⟨⟨E.bw.t1,E.bw.t2,E.bw.t3,E.bw.bg,(st _ _ _ _ (by decide) E.bw.blk).trans E.bw.blk,E.bw.mem.to fun k o f e=>st k o _ f (by decide) e,E.bw.bh,E.bw.row.to fun k o f e=>st k o _ f (by decide) e,aj E.bw.out fun k o f e=>st k o _ f (by decide) e,⟨E.bw.hz.1.to fun k o f e=>st k o _ f (by decide) e,E.bw.hz.2⟩⟩,E.bt.to fun k o t f hk _ e=>sV (by omega),E.cap,E.bm,l8 E.map (sV (fun e=>?_)),fun b hb=>?_⟩
 ·obtain⟨es,clock,hb,_⟩:=E.map;rw[e,hz]at hb;cases hb
 ·obtain⟨ca,cn,cc,h1,h2⟩:=E.code b hb;exact⟨ca,cn,cc,h1,h2.to fun k o f e=>st k o _ f (by decide) e⟩
theorem Ev.row (E:Ev lo w base g room s L pu sl mn){z:Nat}{Z:Array Value}(hz:w.heap[z]?=some (.cells Z 64 (0,0)))(hl:z<lo)(cs:Array Value):Ev lo (w.setRow z cs) base g room s L pu sl mn:=by obtain⟨M,gh,hc,O,a,n,cap,mb,D,E⟩:=E;exact⟨M,gh,hc,O,a,n,cap,mb,D,E.row hz hl cs⟩
theorem Ew.low (E:Ew lo w base g room M gh hc O a n cap mb mn D s L pu sl):Ew 0 w base g room M gh hc O a n cap mb mn D s L pu sl:=⟨E.bw,E.bt.low (apF _),E.cap,E.bm,E.map,E.code⟩
theorem Ev.low (E:Ev lo w base g room s L pu sl mn):Ev 0 w base g room s L pu sl mn:=by obtain⟨M,gh,hc,O,a,n,cap,mb,D,E⟩:=E;exact⟨M,gh,hc,O,a,n,cap,mb,D,E.low⟩
theorem Ew.c4 (E:Ew lo w base g room M gh hc O a n cap mb mn D s L pu sl):w.cell? ⟨g,4,none⟩=some (.int .i64 room):=E.bw.rest 0
theorem Ew.c5 (E:Ew lo w base g room M gh hc O a n cap mb mn D s L pu sl):w.cell? ⟨g,5,none⟩=some (.slice a n cap):=E.bw.rest 1
theorem Ew.c6 (E:Ew lo w base g room M gh hc O a n cap mb mn D s L pu sl):w.cell? ⟨g,6,none⟩=some (.int .i64 pu):=E.bw.rest 2
theorem Ew.c7 (E:Ew lo w base g room M gh hc O a n cap mb mn D s L pu sl):w.cell? ⟨g,7,none⟩=some (.int .i64 sl):=E.bw.rest 3
theorem Ew.c8 (E:Ew lo w base g room M gh hc O a n cap mb mn D s L pu sl):w.cell? ⟨g,8,none⟩=some (.map (some mb)):=E.bw.rest 4
theorem Jv {pd:Lit->DataW Value->Bool}{D:DataW Value}{kl:Lit}(h:∀d,pd kl d=false)(z:DataW Value):(Lib.deleteFuncD pd D).atKey kl z=D.atKey kl z:=by
 cases D with
 |map es=>
  simp only[Lib.deleteFuncD,DataW.atKey];rw[Maps.find_filter_keep fun p hp=>by rw[WideAt.sameKey_eq hp,h];rfl]
 |_=>rfl
theorem uE (E:Ew lo w base g room M gh hc O a n cap mb mn D s L pu sl)(hn:n<=140737488351232):Calls prog 89 #[.pointer (some ⟨g,0,none⟩)] w fun e w'=>e=.returned (.tuple #[])/\(∃D',Ew lo w' base g room M gh hc O a n cap mb mn D' s L pu sl)/\Fm base w w':=by
 have HM:Hid (∀(W:World) (C:Nat),Gr w W->W.cell? ⟨C,0,none⟩=some (.pointer (some ⟨g,0,none⟩))->Calls prog 119 #[.map (some mb),.func (.func 120) #[] #[.pointer (some ⟨C,0,none⟩)]] W fun e w'=>e=.returned (.tuple #[])/\(∃D',Ew lo w' base g room M gh hc O a n cap mb mn D' s L pu sl)/\Fm base w w'):=fun W C G kc=>by
  have EW:=E.of G;refine(LH (fun kl _=>match kl with|.int _ x=>!decide (0<=Kc.place x L 0)|_=>true) C EW.map ?_).mono ?_
  ·intro V x v q h0 h1;have st:=yJ EW.map q;have ck:V.cell? ⟨C,0,none⟩=some (.pointer (some ⟨g,0,none⟩)):=by
    have hne:some C≠some mb:=fun hk=>by
     injection hk with hk;subst hk;obtain⟨es,clock,hb,_⟩:=EW.map;simp[World.cell?,hb]at kc
    exact(aui (q.block C (aug W _ kc) hne)).trans kc
   have c5:=(aui (st _ _ _ _ EW.bw.blk)).trans EW.c5;exact LK ck c5 (EW.bt.to fun k o t f _ _ e=>st k o t f e).bs hn x v
  ·rintro e w' ⟨rfl,hm,q⟩;have:=EW.turn q hm (fun b hb z=>Jv (fun d=>by
    have:0<=Kc.place b.pc L 0:=by
     obtain⟨i,hi⟩:=aqe.1 hb;exact WV hi
    simp[this]) z)
   exact⟨rfl,⟨_,this.1⟩,(Fm.bD G E.ay).trans this.2⟩
 have k8:=E.c8;have hg:=E.bw.lt;go_enter func89,ntmps89;go_wp2_with fail;refine(HM.out _ w.heap.size ((Gr.refl _).alloc _) (by simp)).mono ?_;rintro e w1 ⟨rfl,h1,h2⟩;have H1:=kH h1;have H2:=kH h2;go_wp2_with fail;go_end0;exact⟨rfl,H1.out,H2.out⟩
end
end En
end Go.Proofs.YtiadhbmnfjfioaaGreatDoor
