/- ours -/
import Derived.Test.YtiadhbmnfjfioaaGreatDoorU03
set_option linter.unusedVariables false
set_option linter.unusedSimpArgs false
set_option maxHeartbeats 8000000
set_option maxRecDepth 100000
set_option linter.unusedSectionVars false
namespace Go.Proofs.YtiadhbmnfjfioaaGreatDoor
open Go.Value (int slice pointer agg tuple)
open Go.IntKind (i64 i32)
open Go.Ending (returned)
open Go.Obj (cells)
open Go.Operand (tmp)
open Go.Proofs.Tryz hiding cs d0 d1 t0 t1 t2 t3 t4 t5 t6 t8
open Go.ChangeShapes Go.WideShapes Go.ChangeAt Go.RowKit
variable{K:Act->World->Prop}{ops:Array Oper}{Y o:Array Value}{a bp T op j6 u pc pu sl rd bQ cu:Int}{p:Int×Int}{ss:List (Int×Int)}{U:List (Nat×Int)}{l:List UInt8}{xs ys xs':List Value}{n base e sz g m cn jq lo' n' cap' k t b sc b' mn i gh hc c cap:Nat}{q:Nat×Int}{f:Nat×Nat}{x:Obj}{ao ca a' va sa:Option Addr}{P:Program}{E:Prop}{v O y M:Value}{w w':World}{S:World->Prop}
namespace Kc
variable[Inhabited Hc.bH]
open Mm Ts Hc
def Bt (lo:Nat) (w:World) (ao:Option Addr) (n:Nat) (bs:List Bv):Prop:=∀W:World,(∀(k:Nat) (o:Array Value) (t:Nat) (f:Nat×Nat),lo<=k->t=64\/t=59->w.heap[k]?=some (cells o t f)->W.heap[k]?=w.heap[k]?)->Bs W ao n bs
theorem Bt.bs {lo}{w}{ao}{n}{bs}(h:Bt lo w ao n bs):Bs w ao n bs:=h w fun _ _ _ _ _ _ _=>rfl
theorem Bt.to {lo}{w'}{bs}(h:Bt lo w ao n bs)(q:∀(k) (o) (t:Nat) (f),lo<=k->t=64\/t=59->w.heap[k]?=some (cells o t f)->w'.heap[k]?=w.heap[k]?):Bt lo w' ao n bs:=fun W hW=>h W fun k o t f hl ht hk=>(hW k o t f hl ht ((q k o t f hl ht hk).trans hk)).trans (q k o t f hl ht hk)
theorem Bt.of {lo}{bs}(h:Bt lo w ao n bs)(G:Gr w w'):Bt lo w' ao n bs:=h.to fun k o t f _ _ hk=>G.block k (arz.1 hk).1
theorem Bt.low {lo l0}{bs}(h:Bt lo w ao n bs)(hl:l0<=lo):Bt l0 w ao n bs:=fun W q=>h W fun k o t f hk=>q k o t f (arF hl hk)
theorem Qs (lo)(w)(ao):Bt lo w ao 0 []:=fun W _=>aaU W ao
theorem Dx (h:w.ownsRow base e sz v n xs)(q:∀(k) (o) (f),base<=k->w.heap[k]?=some (cells o e f)->w'.heap[k]?=w.heap[k]?):w'.ownsRow base e sz v n xs:=by
 obtain⟨h1,h2⟩:=h;refine⟨h1,?_⟩;rcases h2 with h2|⟨g,cap,cur,hv,hb,hg,r⟩
 ·exact .inl h2
 ·exact .inr ⟨g,cap,cur,hv,hb,(q g _ _ hb hg).trans hg,r⟩
theorem Qt {lo b1 cp}{bs}(O:w.ownsRow base 64 2 (slice (some ⟨g,0,none⟩) m cp) m xs)(B:Bx w b1 bs xs)(ok:∀b∈bs,b.Ok)(hl:bs.length=m)(l0:lo<=base)(l1:lo<=b1):Bt lo w (some ⟨g,0,none⟩) m bs/\m<=cp:=by
 refine⟨fun W q=>?_,(Rw.open O).1⟩;have B2:Bx W b1 bs xs:=⟨B.len,fun j b hb=>by
  obtain⟨v,h1,h2,h3⟩:=B.at_ j b hb;exact⟨v,h1,h2,Dx h3 fun k o f hk e=>q k o _ f ab (.inr rfl) e⟩⟩
 have:=aaT (Dx O fun k o f hk e=>q k o _ f ab (.inl rfl) e) (B2.bw ok) 0 m ab;rw[List.drop_zero,asY]at this;exact this
theorem WM {f t}{bs}(h:∀b∈bs,b.Ok):∀b∈bM f t bs,b.Ok:=fun b hb=>h b (atP.1 hb).1
theorem F8 (cap){bs}(B:Bs w ao n bs)(hn:n*32<=140737488351232)(room pu sl){f t}(hf:0<=f/\f<4294967296)(ht:0<=t/\t<4294967296):Calls prog 88 #[agg #[int i64 room,slice ao n cap,int i64 pu,int i64 sl],agg #[int .u32 f,int .u32 t]] w fun e w'=>∃a m c,e=returned (agg #[int i64 room,slice a m c,int i64 pu,int i64 (wrap64 (sl+((n:Int)-((bM f t bs).length:Int))))])/\(Bt w.heap.size w' a m (bM f t bs)/\m<=c)/\Gr w w':=by
 have CP:Hid (∀W:World,Gr w W->Calls prog 116 #[agg #[int i64 room,slice ao n cap,int i64 pu,int i64 sl]] W fun e w'=>∃g cp xs,e=returned (agg #[int i64 room,slice (some ⟨g,0,none⟩) n cp,int i64 pu,int i64 sl])/\w'.ownsRow W.heap.size 64 2 (slice (some ⟨g,0,none⟩) n cp) n xs/\Bx w' W.heap.size bs xs/\Gr W w'):=fun W G=>yB cap (B.of G) hn room pu sl
 have BQ:Hid (∀b∈bs,b.Ok):=B.ok;have HL:Hid (bs.length=n):=B.len;have TO:Hid (∀W:World,_):=fun W=>Co W f t
 obtain⟨CV,HC⟩:∃CV,Hid (CV=wrap64 (sl+((n:Int)-((bM f t bs).length:Int)))):=⟨_,rfl⟩;rw[<-HC.out];have HKl:Hid ((bM f t bs).length<=n):=by have:=Ow f t bs bs.length;rw[ash,B.len]at this;exact this
 have DF:Hid (∀(W:World) (base b1 g cp K:Nat) (xs:List Value),W.ownsRow base 64 2 (slice (some ⟨g,0,none⟩) n cp) n xs->Bx W b1 bs xs->W.heap[K]?=some (cells #[int .u32 f,int .u32 t] 175 (0,0))->_):=fun W base b1 g cp K xs O X hK=>Qq O X HL ab BQ hK ht.2
 clear B hf ht;go_enter func88,ntmps88;go_wp2_with fail;refine(CP _ ((((Gr.refl w).alloc _).alloc _).alloc _)).mono ?_;rintro e w1 ⟨g,cp,xs,rfl,O1,X1,G1⟩;have T1:=jV G1;have aU:=kH (((((Gr.refl w).alloc _).alloc _).alloc _).trans G1);have hsz:(((w.alloc (cells #[int i64 room,slice ao n cap,int i64 pu,int i64 sl] 54)).alloc (cells #[int .u32 f,int .u32 t] 175)).alloc (cells #[int i64 0,slice none 0 0,int i64 0,int i64 0] 54)).heap.size=w.heap.size+1+1+1:=aq;rw[hsz]at O1 X1;have WN:=kH O1;have jy:=kH X1;have HT1:=kH T1;clear O1 X1 T1 G1 CP hsz;go_wp2_with fail;refine Dn (fun W=>(W.heap[w.heap.size]?=some (cells #[int i64 room,slice ao n cap,int i64 pu,int i64 sl] 54 (0,0))/\W.heap[w.heap.size+1]?=some (cells #[int .u32 f,int .u32 t] 175 (0,0))/\W.heap[w.heap.size+1+1]?=some (cells #[int i64 0,slice none 0 0,int i64 0,int i64 0] 54 (0,0)))/\(W.ownsRow (w.heap.size+1+1+1) 64 2 (slice (some ⟨g,0,none⟩) n cp) n xs/\Bx W (w.heap.size+1+1+1) bs xs)/\W.heap[w1.heap.size]?=some (cells #[int i64 room,slice (some ⟨g,0,none⟩) n cp,int i64 pu,int i64 sl] 54 (0,0))/\Gr w W) ?_ ?_
 ·have G:=(Gr.refl w1).alloc (cells #[int i64 room,slice (some ⟨g,0,none⟩) n cp,int i64 pu,int i64 sl] 54);exact⟨⟨bB G HT1.1,bB G HT1.2.1,bB G HT1.2.2⟩,⟨aD WN G,jy.of G⟩,awk w1 _,aU.alloc _⟩
 have ho:=(arz.1 HT1.2.2).1;clear HT1 WN jy aU;generalize w1.heap.size=o at *
 clear w1;rintro W ⟨T0,OX0,R0,G0⟩;have HT:=kH T0;have Qu:=kH OX0;have HR:=kH R0;have HG:=kH G0;have x1:W.cell? ⟨o,1,none⟩=some (slice (some ⟨g,0,none⟩) n cp):=awl _ _ _ _ _ _ R0;have q0:W.cell? ⟨w.heap.size+1,0,none⟩=some (int .u32 f):=awl _ _ _ _ _ _ T0.2.1;have q1:W.cell? ⟨w.heap.size+1,1,none⟩=some (int .u32 t):=awl _ _ _ _ _ _ T0.2.1;clear T0 OX0 R0 G0
 go_region_with (first
  |(go_at_call 118;refine(TO _).mono ?_;rintro e w2 ⟨K,rfl,hK,G2⟩;have HG2:Hid (Gr W w2):=Gr.trans b9 G2;have HK:Hid (w2.heap[K]?=some (cells #[int .u32 f,int .u32 t] 175 (0,0))):=hK;have x2:w2.cell? ⟨o,1,none⟩=some (slice (some ⟨g,0,none⟩) n cp):=awl _ _ _ _ _ _ (bB HG2 HR);clear G2 hK)
  |(go_at_call 117;refine(DF _ _ _ g cp K xs (aD Qu.1 HG2) (Qu.2.of HG2) HK).mono ?_;rintro e w3 ⟨m,ys,rfl,hm,O3,X3,Q3⟩;have H3:Hid (((w3.heap[w.heap.size]?=some (cells #[int i64 room,slice ao n cap,int i64 pu,int i64 sl] 54 (0,0))/\w3.heap[w.heap.size+1]?=some (cells #[int .u32 f,int .u32 t] 175 (0,0))/\w3.heap[w.heap.size+1+1]?=some (cells #[int i64 0,slice none 0 0,int i64 0,int i64 0] 54 (0,0)))/\(w3.ownsRow (w.heap.size+1+1+1) 64 2 (slice (some ⟨g,0,none⟩) m cp) m ys/\Bx w3 (w.heap.size+1+1+1) (bM f t bs) ys)/\w3.heap[o]?=some (cells #[int i64 room,slice (some ⟨g,0,none⟩) n cp,int i64 pu,int i64 sl] 54 (0,0)))/\Gr w w3/\(bM f t bs).length=m):=(⟨⟨⟨dS (aD Qu.1 HG2) Q3 (bB HG2 HT.1) an,dS (aD Qu.1 HG2) Q3 (bB HG2 HT.2.1) an,dS (aD Qu.1 HG2) Q3 (bB HG2 HT.2.2) an⟩,⟨O3,X3⟩,dS (aD Qu.1 HG2) Q3 (bB HG2 HR) an⟩,Zc (HG.trans HG2) (by have:=(Qu.1.lt g rfl).1;omega) Q3,hm⟩);have y1:w3.cell? ⟨o,1,none⟩=some (slice (some ⟨g,0,none⟩) n cp):=awl _ _ _ _ _ _ H3.1.2.2;have yf:w3.frozen? ⟨o,1,none⟩=false:=awM _ _ _ _ _ H3.1.2.2;clear hm O3 X3 Q3))
 all_goals
  refine Dn (fun W=>(W.heap[w.heap.size]?=some (cells #[int i64 room,slice ao n cap,int i64 pu,int i64 sl] 54 (0,0))/\W.heap[w.heap.size+1]?=some (cells #[int .u32 f,int .u32 t] 175 (0,0))/\W.heap[w.heap.size+1+1]?=some (cells #[int i64 0,slice none 0 0,int i64 0,int i64 0] 54 (0,0)))/\(W.ownsRow (w.heap.size+1+1+1) 64 2 (slice (some ⟨g,0,none⟩) m cp) m ys/\Bx W (w.heap.size+1+1+1) (bM f t bs) ys)/\W.heap[o]?=some (cells #[int i64 room,slice (some ⟨g,0,none⟩) m cp,int i64 pu,int i64 sl] 54 (0,0))/\Gr w W) ?_ ?_
  ·obtain⟨⟨⟨t0,t1,t2⟩,⟨O3,X3⟩,R3⟩,G3,_⟩:=H3;refine⟨⟨?_,?_,?_⟩,⟨?_,?_⟩,?_,?_⟩
   ·rw[awR _ _ _ _ (by show w.heap.size≠o;omega)];exact t0
   ·rw[awR _ _ _ _ (by show w.heap.size+1≠o;omega)];exact t1
   ·rw[awR _ _ _ _ (by show w.heap.size+1+1≠o;omega)];exact t2
   ·exact aj O3 fun q c r hq=>awR _ _ _ _ (by exact aa hq R3 an)
   ·exact X3.to fun q c r hq=>awR _ _ _ _ (by exact aa hq R3 an)
   ·rw[awE _ _ _ _ _ _ R3];rfl
   ·exact G3.setCell (by show w.heap.size<=o;omega) _
  have HM:=kH H3.2.2;clear y1 yf H3 HG2 HK HT Qu HR HG x2;clear w3 w2 x1 q0 q1;clear W;rintro W ⟨T0,OX0,R0,G0⟩;have HT:=kH T0;have Qu:=kH OX0;have HR:=kH R0;have HG:=kH G0;have c1:W.cell? ⟨w.heap.size,1,none⟩=some (slice ao n cap):=awl _ _ _ _ _ _ T0.1;have x0:W.cell? ⟨o,0,none⟩=some (int i64 room):=awl _ _ _ _ _ _ R0;have x1:W.cell? ⟨o,1,none⟩=some (slice (some ⟨g,0,none⟩) m cp):=awl _ _ _ _ _ _ R0;have x2:W.cell? ⟨o,2,none⟩=some (int i64 pu):=awl _ _ _ _ _ _ R0;have x3:W.cell? ⟨o,3,none⟩=some (int i64 sl):=awl _ _ _ _ _ _ R0;have xf:W.frozen? ⟨o,3,none⟩=false:=awM _ _ _ _ _ R0;have z0:W.cell? ⟨w.heap.size+1+1,0,none⟩=some (int i64 0):=awl _ _ _ _ _ _ T0.2.2;have z1:W.cell? ⟨w.heap.size+1+1,1,none⟩=some (slice none 0 0):=awl _ _ _ _ _ _ T0.2.2;have z2:W.cell? ⟨w.heap.size+1+1,2,none⟩=some (int i64 0):=awl _ _ _ _ _ _ T0.2.2;have z3:W.cell? ⟨w.heap.size+1+1,3,none⟩=some (int i64 0):=awl _ _ _ _ _ _ T0.2.2;have zf:∀j,W.frozen? ⟨w.heap.size+1+1,j,none⟩=false:=fun j=>awM _ _ _ _ _ T0.2.2
  have hne:¬w.heap.size+1+1=o:=ab;have hne2:¬o=w.heap.size+1+1:=ab;have ni:m<=n:=by have:=HKl;rw[HM.out]at this;exact this
  clear T0 OX0 R0 G0 TO DF;go_wp2_with fail;generalize hS:wrap64 (sl+((n:Int)-(m:Int)))=SV at *
  have HS:Hid (wrap64 (sl+((n:Int)-(m:Int)))=SV):=hS;clear hS;have e1:(W.setCell ⟨o,3,none⟩ (int i64 SV)).heap[w.heap.size+1+1]?=some (cells #[int i64 0,slice none 0 0,int i64 0,int i64 0] 54 (0,0)):=(awR _ _ _ _ (by exact hne)).trans HT.2.2;have hk:∀(k:Nat) (c:Array Value) (r:Nat) (z:Nat×Nat),W.heap[k]?=some (cells c r z)->r≠54->(((((W.setCell ⟨o,3,none⟩ (int i64 SV)).setCell ⟨w.heap.size+1+1,0,none⟩ (int i64 room)).setCell ⟨w.heap.size+1+1,1,none⟩ (slice (some ⟨g,0,none⟩) m cp)).setCell ⟨w.heap.size+1+1,2,none⟩ (int i64 pu)).setCell ⟨w.heap.size+1+1,3,none⟩ (int i64 SV)).heap[k]?=W.heap[k]?:=fun k c r z hq hr=>by
   rw[zX _ _ _ _ _ _ (aa hq HT.out.2.2 hr),awR _ _ _ _ (by exact aa hq HR.out hr)]
  refine awt (v:=agg #[int i64 room,slice (some ⟨g,0,none⟩) m cp,int i64 pu,int i64 SV]) (awZ results88 _ _ _ _ _ (0,0) _ rfl (vX e1 _ _ _ _) underlying54 rfl xB) rfl ⟨some ⟨g,0,none⟩,m,cp,by rw[HC.out,HM.out,HS.out],?_,?_⟩
  ·exact Qt (aj Qu.1 fun q c r hq=>hk q c _ r hq an) (Qu.2.to fun q c r hq=>hk q c _ r hq an) (WM BQ) HM ab ab
  ·have q1:w.heap.size<=w.heap.size+1+1:=ab;exact((((HG.setCell (by show w.heap.size<=o;omega) _).setCell (by exact q1) _).setCell (by exact q1) _).setCell (by exact q1) _).setCell (by exact q1) _
end Kc
namespace En
variable[Inhabited Hc.bH]
open Mm Hh Hc Mc
def rsE (room:Int) (a:Option Addr) (n cap:Nat) (pu sl:Int) (mb:Nat):List Value:=[int i64 room,slice a n cap,int i64 pu,int i64 sl,.map (some mb)]
structure Ew (lo:Nat) (w:World) (base g:Nat) (room:Int) (M:Value) (gh hc:Nat) (O:Value) (a:Option Addr) (n cap mb mn:Nat) (D:DataW Value) (s:Sh) (L:List Kc.Bv) (pu sl:Int):Prop where
 bw:Bw 94 (rsE room a n cap pu sl mb) w base g M gh hc O s
 bt:Kc.Bt lo w a n L
 cap:n<=cap
 bm:base<=mb
 map:w.ownsMap prog 37 Rh mb mn D
 code:∀b∈L,∃ca cn cc,(∀z,D.atKey (.int .u32 b.pc) z=.held (.slice ca cn cc))/\Ts.Ct w ca cn (Ts.aY b.pc b.is 0)
def uB (w:World) (g:Nat) (r:Int) (a':Option Addr) (n' cap':Nat) (mK sl':Int):World:=(((w.setCell ⟨g,4,none⟩ (int i64 r)).setCell ⟨g,5,none⟩ (slice a' n' cap')).setCell ⟨g,6,none⟩ (int i64 mK)).setCell ⟨g,7,none⟩ (int i64 sl')
def Ev (lo:Nat) (w:World) (base g:Nat) (room:Int) (s:Sh) (L:List Kc.Bv) (pu sl:Int) (mn:Nat):Prop:=∃M gh hc O a n cap mb D,Ew lo w base g room M gh hc O a n cap mb mn D s L pu sl
structure Fm (base:Nat) (w w':World):Prop where
 below:Below base w w'
 keep:∀(k:Nat) (q:Array Value) (t:Nat) (f:Nat×Nat),w.heap[k]?=some (cells q t f)->t≠94->w'.heap[k]?=w.heap[k]?
theorem Fm.refl (base)(w):Fm base w w:=⟨awX _ _,fun _ _ _ _ _ _=>rfl⟩
theorem Fm.trans {base}{a b c}(h:Fm base a b)(k:Fm base b c):Fm base a c:=⟨h.below.trans k.below,fun i q t f e t1=>(k.keep i q t f ((h.keep i q t f e t1).trans e) t1).trans (h.keep i q t f e t1)⟩
theorem Fm.aJ (G:Gr w w')(hb:base<=w.heap.size):Fm base w w':=⟨awH G hb,fun i q t f e _=>G.block i (gs e).1⟩
theorem Fm.row {base}{w w'}(h:Fm base w w'){k:Nat}{q}{t:Nat}{f}(e:w.heap[k]?=some (cells q t f))(t1:t≠94):w'.heap[k]?=some (cells q t f):=(h.keep k q t f e t1).trans e
theorem Fm.set {a}(h:Fm base a w)(hy:w.heap[g]?=some (cells Y 94 f))(hg:base<=g)(i)(v):Fm base a (w.setCell ⟨g,i,none⟩ v):=⟨axc h.below (by exact hg) _,fun k q t f' e t1=>by
 have e2:=h.row e t1;rw[hso (by exact aa e2 hy t1)];exact h.keep k q t f' e t1⟩
theorem Fm.setRow {base k}{w w'}(h:Fm base w w')(hb:base<=k)(hk:w.heap.size<=k)(cs):Fm base w (w'.setRow k cs):=⟨below_setRow h.below hb cs,fun i q t f e t1=>by have:=(gs e).1;rw[uI ab];exact h.keep i q t f e t1⟩
section
variable{lo:Nat}{w w':World}{base g gh hc:Nat}{room:Int}{M O:Value}{a:Option Addr}{n cap mb mn:Nat}{D:DataW Value}{s:Sh}{L:List Kc.Bv}{pu sl:Int}
variable{D':DataW Value}{L':List Kc.Bv}{cd:List Mi.Mv}
theorem Bw.to {ty}{rs}(B:Bw ty rs w base g M gh hc O s)(q:∀(k:Nat) (o) (t:Nat) (f),w.heap[k]?=some (cells o t f)->w'.heap[k]?=w.heap[k]?):Bw ty rs w' base g M gh hc O s:=⟨B.t1,B.t2,B.t3,B.bg,(q _ _ _ _ B.blk).trans B.blk,B.mem.to fun k o f e=>q k o _ f e,B.bh,B.row.to fun k o f e=>q k o _ f e,aj B.out fun k o f e=>q k o _ f e,⟨B.hz.1.to fun k o f e=>q k o _ f e,B.hz.2⟩⟩
theorem nH (h:w.ownsMap prog 37 Rh mb mn D)(e:w'.heap[mb]?=w.heap[mb]?):w'.ownsMap prog 37 Rh mb mn D:=by obtain⟨es,clock,hb,r⟩:=h;exact⟨es,clock,e.trans hb,r⟩
theorem Ew.of (E:Ew lo w base g room M gh hc O a n cap mb mn D s L pu sl)(G:Gr w w'):Ew lo w' base g room M gh hc O a n cap mb mn D s L pu sl:=
 ⟨E.bw.of G,E.bt.of G,E.cap,E.bm,nH E.map (G.block _ E.map.lt),fun b hb=>by
  obtain⟨ca,cn,cc,h1,h2⟩:=E.code b hb;exact⟨ca,cn,cc,h1,h2.of G⟩⟩
theorem Ev.of (E:Ev lo w base g room s L pu sl mn)(G:Gr w w'):Ev lo w' base g room s L pu sl mn:=by obtain⟨M,gh,hc,O,a,n,cap,mb,D,E⟩:=E;exact⟨M,gh,hc,O,a,n,cap,mb,D,E.of G⟩
theorem Ew.az (E:Ew lo w base g room M gh hc O a n cap mb mn D s L pu sl):base<=w.heap.size:=E.bw.az
theorem zY (h:w.ownsMap prog 37 Rh mb mn D)(q:w.grownBy w' (some mb)):∀(k:Nat) (o) (t:Nat) (f),w.heap[k]?=some (.cells o t f)->w'.heap[k]?=w.heap[k]?:=fun k o t f e=>by refine q.block k (gs e).1 (fun hk=>?_);injection hk with hk;subst hk;obtain⟨es,clock,hb,_⟩:=h;rw[hb]at e;cases e
theorem afC {W}(B:Kc.Bt lo w a n L)(F:Fe 94 base w W):Kc.Bt lo W a n L:=B.to fun k o t f _ ht e=>F.cells e (by rcases ht with rfl|rfl<;>decide) (by rcases ht with rfl|rfl<;>decide) (by rcases ht with rfl|rfl<;>decide)
theorem Zq {W}(B:Kc.Bt lo w a n L)(F:Fm base w W):Kc.Bt lo W a n L:=B.to fun k o t f _ ht e=>F.keep k o t f e (by rcases ht with rfl|rfl<;>decide)
theorem Zr {W}(C:Ts.Ct w ca cn cd)(F:Fm base w W):Ts.Ct W ca cn cd:=C.to fun k o f e=>F.keep k o _ f e an
theorem afD {W}(C:Ts.Ct w ca cn cd)(F:Fe 94 base w W):Ts.Ct W ca cn cd:=C.to fun k o f e=>F.cells e an an an
theorem Ew.turn (E:Ew lo w base g room M gh hc O a n cap mb mn D s L pu sl)(q:w.grownBy w' (some mb))(h:w'.ownsMap prog 37 Rh mb jq D')(hc':∀b∈L,∀z,D'.atKey (.int .u32 b.pc) z=D.atKey (.int .u32 b.pc) z):Ew lo w' base g room M gh hc O a n cap mb jq D' s L pu sl/\Fm base w w':=by have st:=zY E.map q;refine⟨⟨Bw.to E.bw st,E.bt.to fun k o t f _ _ e=>st k o t f e,E.cap,E.bm,h,fun b hb=>?_⟩,⟨(awX base w).grown q E.az (fun k hk=>by injection hk with hk;subst hk;exact E.bm),fun k o t f e _=>st k o t f e⟩⟩;obtain⟨ca,cn,cc,h1,h2⟩:=E.code b hb;exact⟨ca,cn,cc,fun z=>(hc' b hb z).trans (h1 z),h2.to fun k o f e=>st k o _ f e⟩
theorem Ew.take (E:Ew lo w base g room M gh hc O a n cap mb mn D s L pu sl){s'}(B:Bd 94 (rsE room a n cap pu sl mb) w' base g s')(F:Fe 94 base w w'):Ev lo w' base g room s' L pu sl mn:=by
 obtain⟨M',gh',hc',O',B⟩:=B;refine⟨M',gh',hc',O',a,n,cap,mb,D,B,afC E.bt F,E.cap,E.bm,?_,fun b hb=>?_⟩
 ·obtain⟨es,clock,hb,r⟩:=E.map;exact⟨es,clock,F.keep mb _ hb (fun _ _ h=>by cases h) (fun _ _ h=>by cases h) (fun _ _ h=>by cases h),r⟩
 ·obtain⟨ca,cn,cc,h1,h2⟩:=E.code b hb;exact⟨ca,cn,cc,h1,afD h2 F⟩
theorem Ew.mid (E:Ew lo w base g room M gh hc O a n cap mb mn D s L pu sl)(r)(a')(n' cap')(mK sl'):Bw 94 (rsE r a' n' cap' mK sl' mb) (uB w g r a' n' cap' mK sl') base g M gh hc O s/\Fm base w (uB w g r a' n' cap' mK sl')/\(uB w g r a' n' cap' mK sl').ownsMap prog 37 Rh mb mn D:=by
 have B0:=E.bw.vW 0 (.int .i64 r);have B1:=B0.vW 1 (.slice a' n' cap');have B2:=B1.vW 2 (.int .i64 mK);have B3:=B2.vW 3 (.int .i64 sl');have F:Fe 94 base w (uB w g r a' n' cap' mK sl'):=
  ((((Fe.refl base w).setCell E.bw.blk E.bw.bg _ _).setCell B0.blk E.bw.bg _ _).setCell B1.blk E.bw.bg _ _).setCell B2.blk E.bw.bg _ _
 refine⟨B3,((((Fm.refl base w).set E.bw.blk E.bw.bg _ _).set B0.blk E.bw.bg _ _).set B1.blk E.bw.bg _ _).set B2.blk E.bw.bg _ _,?_⟩;obtain⟨es,clock,hb,r⟩:=E.map;exact⟨es,clock,F.keep mb _ hb (fun _ _ h=>by cases h) (fun _ _ h=>by cases h) (fun _ _ h=>by cases h),r⟩
theorem Ew.set (E:Ew lo w base g room M gh hc O a n cap mb mn D s L pu sl)(mK sl')(B:Kc.Bt lo' w a' n' L')(hcap:n'<=cap')(hc':∀b∈L',b∈L):Ew lo' (uB w g room a' n' cap' mK sl') base g room M gh hc O a' n' cap' mb mn D s L' mK sl'/\Fm base w (uB w g room a' n' cap' mK sl'):=by obtain⟨B3,F,m⟩:=E.mid room a' n' cap' mK sl';refine⟨⟨B3,Zq B F,hcap,E.bm,m,fun b hb=>?_⟩,F⟩;obtain⟨ca,cn,cc,h1,h2⟩:=E.code b (hc' b hb);exact⟨ca,cn,cc,h1,Zr h2 F⟩
theorem Ew.put (E:Ew lo w base g room M gh hc O a n cap mb mn D s L pu sl){mK sl'}(B:Kc.Bt lo' w a' n' L')(hcap:n'≤cap'){W}(q:(uB w g room a' n' cap' mK sl').grownBy W (some mb))(h:W.ownsMap prog 37 Rh mb jq D')(hc':∀b∈L',∃ca cn cc,(∀z,D'.atKey (.int .u32 b.pc) z=.held (.slice ca cn cc))/\Ts.Ct w ca cn (Ts.aY b.pc b.is 0)):Ew lo' W base g room M gh hc O a' n' cap' mb jq D' s L' mK sl'/\Fm base w W:=by obtain⟨B3,F,m⟩:=E.mid room a' n' cap' mK sl';have st:=zY m q;refine⟨⟨Bw.to B3 st,(Zq B F).to fun k o t f _ _ e=>st k o t f e,hcap,E.bm,h,fun b hb=>?_⟩,F.trans ⟨(awX base _).grown q B3.az (fun k hk=>by injection hk with hk;subst hk;exact E.bm),fun k o t f e _=>st k o t f e⟩⟩;obtain⟨ca,cn,cc,h1,h2⟩:=hc' b hb;exact⟨ca,cn,cc,h1,(Zr h2 F).to fun k o f e=>st k o _ f e⟩
theorem Ew.row (E:Ew lo w base g room M gh hc O a n cap mb mn D s L pu sl){z}{Z}(hz:w.heap[z]?=some (cells Z 64 (0,0)))(hl:z<lo)(cs):Ew lo (w.setRow z cs) base g room M gh hc O a n cap mb mn D s L pu sl:=by
 have st:∀(k:Nat) (o:Array Value) (t:Nat) (f:Nat×Nat),t≠64->w.heap[k]?=some (cells o t f)->(w.setRow z cs).heap[k]?=w.heap[k]?:=fun k o t f ht e=>uI (aa e hz ht)
 refine⟨⟨E.bw.t1,E.bw.t2,E.bw.t3,E.bw.bg,(st _ _ _ _ an E.bw.blk).trans E.bw.blk,E.bw.mem.to fun k o f e=>st k o _ f an e,E.bw.bh,E.bw.row.to fun k o f e=>st k o _ f an e,aj E.bw.out fun k o f e=>st k o _ f an e,⟨E.bw.hz.1.to fun k o f e=>st k o _ f an e,E.bw.hz.2⟩⟩,E.bt.to fun k o t f hk _ e=>uI ab,E.cap,E.bm,nH E.map (uI (fun e=>?_)),fun b hb=>?_⟩
 ·obtain⟨es,clock,hb,_⟩:=E.map;rw[e,hz]at hb;cases hb
 ·obtain⟨ca,cn,cc,h1,h2⟩:=E.code b hb;exact⟨ca,cn,cc,h1,h2.to fun k o f e=>st k o _ f an e⟩
theorem Ev.row (E:Ev lo w base g room s L pu sl mn){z}{Z}(hz:w.heap[z]?=some (cells Z 64 (0,0)))(hl:z<lo)(cs):Ev lo (w.setRow z cs) base g room s L pu sl mn:=by obtain⟨M,gh,hc,O,a,n,cap,mb,D,E⟩:=E;exact⟨M,gh,hc,O,a,n,cap,mb,D,E.row hz hl cs⟩
theorem Ew.low (E:Ew lo w base g room M gh hc O a n cap mb mn D s L pu sl):Ew 0 w base g room M gh hc O a n cap mb mn D s L pu sl:=⟨E.bw,E.bt.low (arQ _),E.cap,E.bm,E.map,E.code⟩
theorem Ev.low (E:Ev lo w base g room s L pu sl mn):Ev 0 w base g room s L pu sl mn:=by obtain⟨M,gh,hc,O,a,n,cap,mb,D,E⟩:=E;exact⟨M,gh,hc,O,a,n,cap,mb,D,E.low⟩
theorem Ew.c4 (E:Ew lo w base g room M gh hc O a n cap mb mn D s L pu sl):w.cell? ⟨g,4,none⟩=some (int i64 room):=E.bw.rest 0
theorem Ew.c5 (E:Ew lo w base g room M gh hc O a n cap mb mn D s L pu sl):w.cell? ⟨g,5,none⟩=some (slice a n cap):=E.bw.rest 1
theorem Ew.c6 (E:Ew lo w base g room M gh hc O a n cap mb mn D s L pu sl):w.cell? ⟨g,6,none⟩=some (int i64 pu):=E.bw.rest 2
theorem Ew.c7 (E:Ew lo w base g room M gh hc O a n cap mb mn D s L pu sl):w.cell? ⟨g,7,none⟩=some (int i64 sl):=E.bw.rest 3
theorem Ew.c8 (E:Ew lo w base g room M gh hc O a n cap mb mn D s L pu sl):w.cell? ⟨g,8,none⟩=some (.map (some mb)):=E.bw.rest 4
theorem LQ {pd}{kl}(h:∀d,pd kl d=false)(z):(Lib.deleteFuncD pd D).atKey kl z=D.atKey kl z:=by
 cases D with
 |map es=>
  simp only[Lib.deleteFuncD,DataW.atKey];rw[Maps.find_filter_keep fun p hp=>by rw[WideAt.sameKey_eq hp,h];rfl]
 |_=>rfl
theorem vZ (E:Ew lo w base g room M gh hc O a n cap mb mn D s L pu sl)(hn:n<=140737488351232):Calls prog 89 #[pointer (some ⟨g,0,none⟩)] w fun e w'=>e=returned (tuple #[])/\(∃D',Ew lo w' base g room M gh hc O a n cap mb mn D' s L pu sl)/\Fm base w w':=by
 have HM:Hid (∀(W:World) (C:Nat),Gr w W->W.cell? ⟨C,0,none⟩=some (pointer (some ⟨g,0,none⟩))->Calls prog 119 #[.map (some mb),.func (.func 120) #[] #[pointer (some ⟨C,0,none⟩)]] W fun e w'=>e=returned (tuple #[])/\(∃D',Ew lo w' base g room M gh hc O a n cap mb mn D' s L pu sl)/\Fm base w w'):=fun W C G kc=>by
  have EW:=E.of G;refine(OB (fun kl _=>match kl with|.int _ x=>!decide (0<=Kc.place x L 0)|_=>true) C EW.map ?_).mono ?_
  ·intro V x v q h0 h1;have st:=zY EW.map q;have ck:V.cell? ⟨C,0,none⟩=some (pointer (some ⟨g,0,none⟩)):=by
    have hne:some C≠some mb:=fun hk=>by
     injection hk with hk;subst hk;obtain⟨es,clock,hb,_⟩:=EW.map;simp[World.cell?,hb]at kc
    exact(awv (q.block C (awo W _ kc) hne)).trans kc
   have c5:=(awv (st _ _ _ _ EW.bw.blk)).trans EW.c5;exact OD ck c5 (EW.bt.to fun k o t f _ _ e=>st k o t f e).bs hn x v
  ·rintro e w' ⟨rfl,hm,q⟩;have:=EW.turn q hm (fun b hb z=>LQ (fun d=>by
    have:0<=Kc.place b.pc L 0:=by
     obtain⟨i,hi⟩:=asv.1 hb;exact Zm hi
    simp[this]) z)
   exact⟨rfl,⟨_,this.1⟩,(Fm.aJ G E.az).trans this.2⟩
 have k8:=E.c8;have hg:=E.bw.lt;go_enter func89,ntmps89;go_wp2_with fail;refine(HM _ w.heap.size br aq).mono ?_;rintro e w1 ⟨rfl,h1,h2⟩;have H1:=kH h1;have H2:=kH h2;go_wp2_with fail;go_end0;exact⟨rfl,H1,H2⟩
end
end En
namespace Kc
variable[Inhabited Hc.bH]
open Mm Ts Hc
structure Once (P:Prop):Prop where
 out:P
theorem share {P Q:Prop}(h:Once P->Q)(p:P):Q:=h ⟨p⟩
structure Ps (w W:World) (o:Nat) (room pu sl bp:Int) (va:Option Addr) (vn vc g m cp:Nat) (L:List Bv) (xs:List Value):Prop where
 lo:w.heap.size+1+1<o
 b:W.heap[w.heap.size+1]?=some (cells #[int .u32 bp,slice va vn vc] 64 (0,0))
 z:W.heap[w.heap.size+1+1]?=some (cells #[int i64 0,slice none 0 0,int i64 0,int i64 0] 54 (0,0))
 r:W.heap[o]?=some (cells #[int i64 room,slice (some ⟨g,0,none⟩) m cp,int i64 pu,int i64 sl] 54 (0,0))
 own:W.ownsRow (w.heap.size+1+1+1) 64 2 (slice (some ⟨g,0,none⟩) m cp) m xs
 bx:Bx W w.heap.size L xs
 len:L.length=m
 gr:Gr w W
section
variable{w W W':World}{o:Nat}{room pu sl bp:Int}{va:Option Addr}{vn vc g m cp:Nat}{L:List Bv}{xs:List Value}
theorem Ps.of (P:Ps w W o room pu sl bp va vn vc g m cp L xs)(G:Gr W W'):Ps w W' o room pu sl bp va vn vc g m cp L xs:=⟨P.lo,bB G P.b,bB G P.z,bB G P.r,aD P.own G,P.bx.of G,P.len,P.gr.trans G⟩
theorem Ps.row (P:Ps w W o room pu sl bp va vn vc g m cp L xs)(Q:Ch g W W'):W'.heap[o]?=some (cells #[int i64 room,slice (some ⟨g,0,none⟩) m cp,int i64 pu,int i64 sl] 54 (0,0)):=dS P.own Q P.r an
theorem Ps.put (P:Ps w W o room pu sl bp va vn vc g m cp L xs)(Q:Ch g W W'){g' m' cp'}{L'}(O:W'.ownsRow (w.heap.size+1+1+1) 64 2 (slice (some ⟨g',0,none⟩) m' cp') m' ys)(X:Bx W' w.heap.size L' ys)(hl:L'.length=m'):Ps w (W'.setCell ⟨o,1,none⟩ (slice (some ⟨g',0,none⟩) m' cp')) o room pu sl bp va vn vc g' m' cp' L' ys:=by
 have hg:=(P.own.lt g rfl).1;have hr:=P.row Q;have hlo:=P.lo;refine⟨P.lo,?_,?_,?_,?_,?_,hl,?_⟩
 ·rw[hso (by show w.heap.size+1≠o;omega),Q.block _ (gs P.b).1 (fun e=>by injection e with e;omega)];exact P.b
 ·rw[hso (by show w.heap.size+1+1≠o;omega),Q.block _ (gs P.z).1 (fun e=>by injection e with e;omega)];exact P.z
 ·rw[hss hr];rfl
 ·exact aj O fun q c r hq=>hso (by exact aa hq hr an)
 ·exact X.to fun q c r hq=>hso (by exact aa hq hr an)
 ·exact(Zc P.gr ab Q).setCell (by show w.heap.size<=o;omega) _
theorem Ps.push (P:Ps w W o room pu sl bp va vn vc g m cp L xs)(v):Ps w (W.setCell ⟨o,2,none⟩ (int i64 v)) o room v sl bp va vn vc g m cp L xs:=by
 have hlo:=P.lo;have hr:=P.r;refine⟨P.lo,?_,?_,?_,?_,?_,P.len,?_⟩
 ·rw[hso (by show w.heap.size+1≠o;omega)];exact P.b
 ·rw[hso (by show w.heap.size+1+1≠o;omega)];exact P.z
 ·rw[hss hr];rfl
 ·exact aj P.own fun q c r hq=>hso (by exact aa hq hr an)
 ·exact P.bx.to fun q c r hq=>hso (by exact aa hq hr an)
 ·exact P.gr.setCell (by show w.heap.size<=o;omega) _
theorem Ps.fin (P:Ps w W o room pu sl bp va vn vc g m cp L xs)(ok:∀b∈L,b.Ok):((((W.setCell ⟨w.heap.size+1+1,0,none⟩ (int i64 room)).setCell ⟨w.heap.size+1+1,1,none⟩ (slice (some ⟨g,0,none⟩) m cp)).setCell ⟨w.heap.size+1+1,2,none⟩ (int i64 pu)).setCell ⟨w.heap.size+1+1,3,none⟩ (int i64 sl)).heap[w.heap.size+1+1]?=some (cells #[int i64 room,slice (some ⟨g,0,none⟩) m cp,int i64 pu,int i64 sl] 54 (0,0))/\(Bt w.heap.size ((((W.setCell ⟨w.heap.size+1+1,0,none⟩ (int i64 room)).setCell ⟨w.heap.size+1+1,1,none⟩ (slice (some ⟨g,0,none⟩) m cp)).setCell ⟨w.heap.size+1+1,2,none⟩ (int i64 pu)).setCell ⟨w.heap.size+1+1,3,none⟩ (int i64 sl)) (some ⟨g,0,none⟩) m L/\m<=cp)/\Gr w ((((W.setCell ⟨w.heap.size+1+1,0,none⟩ (int i64 room)).setCell ⟨w.heap.size+1+1,1,none⟩ (slice (some ⟨g,0,none⟩) m cp)).setCell ⟨w.heap.size+1+1,2,none⟩ (int i64 pu)).setCell ⟨w.heap.size+1+1,3,none⟩ (int i64 sl)):=by
 refine⟨vX P.z _ _ _ _,Qt (aj P.own fun q c r hq=>zX _ _ _ _ _ _ (aa hq P.z an)) (P.bx.to fun q c r hq=>zX _ _ _ _ _ _ (aa hq P.z an)) ok P.len ab (arA _),?_⟩;have q1:w.heap.size<=w.heap.size+1+1:=ab;exact(((P.gr.setCell (by exact q1) _).setCell (by exact q1) _).setCell (by exact q1) _).setCell (by exact q1) _
end
theorem Zt:∀(bs:List Bv) (j i:Nat),qD ((i+j:Nat):Int) bs i=bs.take j++bs.drop (j+1)
 | [],j,i=>by simp[qD]
 |b::r,0,i=>by
  unfold qD;rw[awn aq,qW ab];rfl
 |b::r,j+1,i=>by
  unfold qD;rw[ak,show i+(j+1)=i+1+j by omega,Zt r j (i+1)];rfl
theorem abD (bs):qD (-1) bs 0=bs:=qW ab
theorem abE (w)(room pu sl bp)(ao va)(n cap vn vc)(hv:vn<1\/16<vn)(hvb:vn<=140737488351232):Calls prog 141 #[agg #[int i64 room,slice ao n cap,int i64 pu,int i64 sl],agg #[int .u32 bp,slice va vn vc]] w fun e w'=>e=returned (tuple #[agg #[int i64 0,slice none 0 0,int i64 0,int i64 0],int i64 2])/\Gr w w':=by
 have hv2:vn=0\/¬(vn:Int)<1/\(16:Int)<(vn:Int):=ab;rcases hv2 with rfl|⟨h0,h1⟩
 all_goals
  go_enter func141,ntmps141;go_wp2_with fail;refine awt (v:=tuple #[agg #[int i64 0,slice none 0 0,int i64 0,int i64 0],int i64 2]) (Hf.gU results141 _ _ _ _ _ (0,0) _ _ rfl rfl (jV (Gr.refl _)).2.2 underlying54 rfl xB) rfl ⟨rfl,(br.alloc _).alloc _⟩
theorem Ch.Zu (G:Gr w w'):Ch g w w':=(Ch.refl g w).gr G
theorem aiZ (cap){bs}(B:Bs w ao n bs)(hn:n*32<=140737488351232)(room pu sl){b0}{vn vc}(hb:Bc w b0 (.int .u32 b0.pc) (.slice va vn vc))(hv1:1<=vn)(hv2:vn<=16):Calls prog 141 #[.agg #[.int .i64 room,.slice ao n cap,.int .i64 pu,.int .i64 sl],.agg #[.int .u32 b0.pc,.slice va vn vc]] w fun e w'=>∃a m c,e=.returned (.tuple #[.agg #[.int .i64 room,.slice a m c,.int .i64 (uy room pu bs b0),.int .i64 sl],.int .i64 0])/\(Bt w.heap.size w' a m (ku room bs b0)/\m<=c)/\Gr w w':=by
 have CP:Hid (∀W:World,Gr w W->_):=fun W G=>yB cap (B.of G) hn room pu sl
 have BQ:=kH B.ok;have HOb:=kH hb.ok;have HL:=kH B.len;have AT:Hid (∀W:World,_):=fun W=>Oz W b0.pc
 have Qr:Hid (∀(W:World) (K base b1 g cp:Nat) (xs:List Value),W.ownsRow base 64 2 (.slice (some ⟨g,0,none⟩) n cp) n xs->Bx W b1 bs xs->W.cell? ⟨K,0,none⟩=some (.int .u32 b0.pc)->Calls prog 136 #[.slice (some ⟨g,0,none⟩) n cp,.func (.func 163) #[] #[.pointer (some ⟨K,0,none⟩)]] W fun e w'=>e=.returned (.int .i64 (place b0.pc bs 0))/\Gr W w'):=fun W K base b1 g cp xs O X hk=>by
  obtain⟨hnc,cs,R,rfl⟩:=Rw.open O;rw[<-mq];exact OA cp (R.bq X HL) ab K (fun b=>decide (b.pc=b0.pc)) fun W' b sa sc G' _=>IB ((G'.cell _ (by exact awo W _ hk)).trans hk) b.pc sa b.is.length sc
 have WO:Hid (∀(W:World) (base b1 g m cp k:Nat) (L:List Bv) (xs:List Value),W.ownsRow base 64 2 (.slice (some ⟨g,0,none⟩) m cp) m xs->Bx W b1 L xs->L.length=m->k<m->_):=fun W base b1 g m cp k L xs O X hl hk=>F7 O X hl hk
 have CB:Hid (∀W:World,Gr w W->_):=fun W G=>sO (hb.of G)
 have HP:Hid (place b0.pc bs 0 = -1\/∃j:Nat,place b0.pc bs 0=(j:Int)/\j<n):=by
  rcases gQ b0.pc bs 0 with h|⟨j,x,h,hx⟩
  ·exact .inl h
  ·rw[arH]at h;exact .inr ⟨j,h,by rw[<-HL.out];exact(arw.1 hx).1⟩
 have HSn:Hid (∀(W:World) (v:Value) (L:List Bv) (xs:List Value),Bx W w.heap.size L xs->Io W w.heap.size v b0.is->_):=fun W v L xs h1 h2=>h1.snoc h2
 have zZ:Hid (∀L1:List Bv,qD (place b0.pc bs 0) bs 0=L1->(room<((L1.length+1:Nat):Int)->ku room bs b0=(L1++[b0]).drop 1/\uy room pu bs b0=wrap64 (pu+1))/\(¬room<((L1.length+1:Nat):Int)->ku room bs b0=L1++[b0]/\uy room pu bs b0=pu)):=fun L1 e=>by
  unfold ku uy;rw[e,ary,ar4];exact⟨fun h=>⟨awn h,awn h⟩,fun h=>⟨awm h,awm h⟩⟩
 have afE:∀b∈ku room bs b0,b.Ok:=fun b hb2=>by
  have hsub:=zO bs (place b0.pc bs 0) 0;have h1:∀b∈qD (place b0.pc bs 0) bs 0++[b0],b.Ok:=fun b h=>by
   rcases ar7.1 h with h|h
   ·exact BQ b (hsub.subset h)
   ·rw[arL]at h;rw[h];exact HOb
  unfold ku at hb2;split at hb2
  ·exact h1 b (as7 hb2)
  ·exact h1 b hb2
 have WQ:=kH afE;obtain⟨i0,hi,hz0,hz1,hz2⟩:=awS Ox;clear B hb afE;generalize ku room bs b0=PL at *
 generalize uy room pu bs b0=PP at *
 generalize b0.pc=bp at *
 rcases HP.out with hp|⟨j,hp,hj⟩
 ·have HRm:Hid (qD (place bp bs 0) bs 0=bs):=by unfold Hid;rw[hp];exact abD bs
  rw[hp]at Qr;clear HP hp;go_enter func141,ntmps141;go_wp2_with fail;refine(CP _ ((((Gr.refl w).alloc _).alloc _).alloc _)).mono ?_;rintro e w1 ⟨g,cp,xs,rfl,O1,X1,G1⟩;have T1:=jV G1;have hsz:(((w.alloc (.cells #[.int .i64 room,.slice ao n cap,.int .i64 pu,.int .i64 sl] 54)).alloc (.cells #[.int .u32 bp,.slice va vn vc] 64)).alloc (.cells #[.int .i64 0,.slice none 0 0,.int .i64 0,.int .i64 0] 54)).heap.size=w.heap.size+1+1+1:=aq;rw[hsz]at O1 X1;have Uz:Hid (∀W,Gr w1 W->W.heap[w1.heap.size]?=some (.cells #[.int .i64 room,.slice (some ⟨g,0,none⟩) n cp,.int .i64 pu,.int .i64 sl] 54 (0,0))->Ps w W w1.heap.size room pu sl bp va vn vc g n cp bs xs):=fun W G hr=>
   ⟨(arz.1 T1.2.2).1,bB G T1.2.1,bB G T1.2.2,hr,aD O1 G,(X1.of G).low ab,HL,(((((Gr.refl w).alloc _).alloc _).alloc _).trans G1).trans G⟩
  clear O1 X1 T1 G1 CP hsz;go_wp2_with fail;refine Dn (fun W=>Ps w W w1.heap.size room pu sl bp va vn vc g n cp bs xs) (Uz _ ((Gr.refl w1).alloc _) (awk w1 _)) ?_;clear Uz;generalize w1.heap.size=o at *
  clear w1;intro W P0;have oI:=kH P0;have x1:W.cell? ⟨o,1,none⟩=some (.slice (some ⟨g,0,none⟩) n cp):=awl _ _ _ _ _ _ P0.r;have q0:W.cell? ⟨w.heap.size+1,0,none⟩=some (.int .u32 bp):=awl _ _ _ _ _ _ P0.b;clear P0;apply share
  ·intro jW
   go_region_with (first
    |(go_at_call 137;refine(AT _).mono ?_;rintro e w2 ⟨K,rfl,hk,G2⟩;have HG2:Hid (Gr W w2):=Gr.trans b9 G2;have x2:w2.cell? ⟨o,1,none⟩=some (.slice (some ⟨g,0,none⟩) n cp):=awl _ _ _ _ _ _ (oI.of HG2).r;clear G2)
    |(go_at_call 136;refine(Qr _ K _ _ g cp xs (oI.of HG2).own (oI.of HG2).bx hk).mono ?_;rintro e w3 ⟨rfl,G3⟩;have NH:Hid (Ps w w3 o room pu sl bp va vn vc g n cp bs xs):=oI.of (HG2.trans G3);clear G3))
   all_goals
    clear x2 hk HG2;clear w2
    revert NH
    revert w3
    revert K
    exact jW.out
  clear oI x1 q0 Qr AT;clear W;intro K W oI;have x1:W.cell? ⟨o,1,none⟩=some (.slice (some ⟨g,0,none⟩) n cp):=awl _ _ _ _ _ _ oI.r;go_wp2_with fail;have q0:W.cell? ⟨w.heap.size+1,0,none⟩=some (.int .u32 bp):=awl _ _ _ _ _ _ oI.b;have q1:W.cell? ⟨w.heap.size+1,1,none⟩=some (.slice va vn vc):=awl _ _ _ _ _ _ oI.b;apply share
  ·intro jW
   go_region_law (first
    |(refine bC rfl (.tmp 35) (.tmp 38) 52 rfl (w.heap.size+1+1+1) 64 i0 _ 2 32 underlying52 hi hz0 hz1 hz2 rfl an (.slice (some ⟨g,0,none⟩) n cp) n xs ar (aD oJ.own (by repeat (first|exact Gr.refl w2|refine Gr.drewN ?_ _|refine Gr.drew ?_|refine Gr.alloc ?_ _))) ⟨w2.heap.size,0,none⟩ 1 1 [.int .u32 bp,.slice ia iq ic] ar rfl (dX aq aq) (vB rfl rfl) bj ab (by have:=oJ.lo;have:=(arz.1 oJ.r).1;simp;omega) ?_;intro v' w' hown hgrow;obtain⟨g',cp',rfl⟩:=dA hown ab;have LU:Hid (Ch g w2 w'):=(Ch.Zu (by repeat (first|exact Gr.refl w2|refine Gr.drewN ?_ _|refine Gr.drew ?_|refine Gr.alloc ?_ _))).trans hgrow;have HO7:Hid (w'.ownsRow (w.heap.size+1+1+1) 64 2 (.slice (some ⟨g',0,none⟩) (n+1) cp') (n+1) (xs++[.int .u32 bp,.slice ia iq ic])):=hown;have y1:w'.cell? ⟨o,1,none⟩=some (.slice (some ⟨g,0,none⟩) n cp):=awl _ _ _ _ _ _ (oJ.row LU);have yf:w'.frozen? ⟨o,1,none⟩=false:=awM _ _ _ _ _ (oJ.row LU);clear hown hgrow)
    |(go_simp;go_wp2_with (go_at_call 138;refine(CB _ (Gr.trans oI.gr (by repeat (first|exact Gr.refl W|refine Gr.drewN ?_ _|refine Gr.drew ?_)))).mono ?_;rintro e w2 ⟨v2,rfl,I2,G2⟩;have HG2:Hid (Gr W w2):=Gr.trans (by repeat (first|exact Gr.refl W|refine Gr.drewN ?_ _|refine Gr.drew ?_)) G2;have oJ:Hid (Ps w w2 o room pu sl bp va vn vc g n cp bs xs):=oI.of HG2;have HI2:Hid (Io w2 w.heap.size v2 b0.is):=I2.low (by have:=oI.gr.size;simpa using this);obtain⟨ia,ic,rfl⟩:=I2.shape;have x2:w2.cell? ⟨o,1,none⟩=some (.slice (some ⟨g,0,none⟩) n cp):=awl _ _ _ _ _ _ oJ.r;have ho2:o<w2.heap.size:=(arz.1 oJ.r).1;clear I2 G2;generalize b0.is.length=iq at *)))
   all_goals
    have Zv:=HSn _ _ _ _ (oJ.bx.to fun q c r hq=>(dS oJ.own LU hq an).trans hq.symm) (HI2.to fun q c r hq=>(dS oJ.own LU hq an).trans hq.symm);have sP:=oJ.put LU HO7 Zv (by rw[ary,oJ.out.len];rfl);refine Dn (fun W=>Ps w W o room pu sl bp va vn vc g' (n+1) cp' (bs++[b0]) (xs++[.int .u32 bp,.slice ia iq ic])) sP ?_;clear sP Zv y1 yf LU HO7 x2 ho2 HI2 oJ HG2;clear w';generalize w2.heap.size=z9 at *
    clear w2
    revert cp'
    revert g'
    revert ic
    revert iq
    revert ia
    revert z9
    exact jW.out
  clear q0 q1 x1 CB oI;clear W;intro z9 ia iq ic g7 yD W P7;have sP:=kH P7;have x0:W.cell? ⟨o,0,none⟩=some (.int .i64 room):=awl _ _ _ _ _ _ P7.r;have x1:W.cell? ⟨o,1,none⟩=some (.slice (some ⟨g7,0,none⟩) (n+1) yD):=awl _ _ _ _ _ _ P7.r;have x2:W.cell? ⟨o,2,none⟩=some (.int .i64 pu):=awl _ _ _ _ _ _ P7.r;have x3:W.cell? ⟨o,3,none⟩=some (.int .i64 sl):=awl _ _ _ _ _ _ P7.r;have z0:W.cell? ⟨w.heap.size+1+1,0,none⟩=some (.int .i64 0):=awl _ _ _ _ _ _ P7.z;have z1:W.cell? ⟨w.heap.size+1+1,1,none⟩=some (.slice none 0 0):=awl _ _ _ _ _ _ P7.z;have z2:W.cell? ⟨w.heap.size+1+1,2,none⟩=some (.int .i64 0):=awl _ _ _ _ _ _ P7.z;have z3:W.cell? ⟨w.heap.size+1+1,3,none⟩=some (.int .i64 0):=awl _ _ _ _ _ _ P7.z;have zf:∀j,W.frozen? ⟨w.heap.size+1+1,j,none⟩=false:=fun j=>awM _ _ _ _ _ P7.z
  have hne:¬w.heap.size+1+1=o:=by have:=P7.lo;omega
  have hne2:¬o=w.heap.size+1+1:=by have:=P7.lo;omega
  clear P7;have HLm:Hid ((bs).length=n):=HL;by_cases hroom:room<(((bs).length+1:Nat):Int)
  ·obtain⟨e1,e2⟩:=(zZ _ HRm).1 hroom;have qg:Hid (PL=(bs++[b0]).drop 1/\PP=wrap64 (pu+1)):=⟨e1,e2⟩;have F9:room<(n:Int)+1:=by rw[HLm.out]at hroom;omega
   clear e1 e2 zZ hroom;go_wp2_with fail;refine(WO _ _ _ g7 (n+1) yD 0 _ _ sP.own sP.bx sP.len ab).mono ?_;rintro e w8 ⟨rfl,ys,O8,X8,Q8⟩;rw[Nat.add_sub_cancel]at O8;have HP8:=sP.put Q8 O8 X8 (by have:=sP.len;simp only[asX,arT,asz];omega);rw[asX,arT]at HP8;have HP9:Hid (Ps w ((w8.setCell ⟨o,1,none⟩ (.slice (some ⟨g7,0,none⟩) n yD)).setCell ⟨o,2,none⟩ (.int .i64 (wrap64 (pu+1)))) o room (wrap64 (pu+1)) sl bp va vn vc g7 n yD ((bs++[b0]).drop (0+1)) ys):=HP8.push _;have LV:=sP.row Q8;have y0:w8.cell? ⟨o,0,none⟩=some (.int .i64 room):=awl _ _ _ _ _ _ LV;have y1:w8.cell? ⟨o,1,none⟩=some (.slice (some ⟨g7,0,none⟩) (n+1) yD):=awl _ _ _ _ _ _ LV;have y2:w8.cell? ⟨o,2,none⟩=some (.int .i64 pu):=awl _ _ _ _ _ _ LV;have y3:w8.cell? ⟨o,3,none⟩=some (.int .i64 sl):=awl _ _ _ _ _ _ LV;have yf:∀j,w8.frozen? ⟨o,j,none⟩=false:=fun j=>awM _ _ _ _ _ LV
   have LW:w8.heap[w.heap.size+1+1]?=some (.cells #[.int .i64 0,.slice none 0 0,.int .i64 0,.int .i64 0] 54 (0,0)):=dS sP.own Q8 sP.z an;have v0:w8.cell? ⟨w.heap.size+1+1,0,none⟩=some (.int .i64 0):=awl _ _ _ _ _ _ LW;have v1:w8.cell? ⟨w.heap.size+1+1,1,none⟩=some (.slice none 0 0):=awl _ _ _ _ _ _ LW;have v2:w8.cell? ⟨w.heap.size+1+1,2,none⟩=some (.int .i64 0):=awl _ _ _ _ _ _ LW;have v3:w8.cell? ⟨w.heap.size+1+1,3,none⟩=some (.int .i64 0):=awl _ _ _ _ _ _ LW;have vf:∀j,w8.frozen? ⟨w.heap.size+1+1,j,none⟩=false:=fun j=>awM _ _ _ _ _ LW
   clear O8 X8 Q8 HP8 LV LW sP x0 x1 x2 x3 z0 z1 z2 z3 zf WO;go_wp2_with fail;obtain⟨f1,f2,f3⟩:=HP9.fin (by rw[arH,<-qg.out.1];exact WQ);refine awt (v:=.tuple #[.agg #[.int .i64 room,.slice (some ⟨g7,0,none⟩) n yD,.int .i64 (wrap64 (pu+1)),.int .i64 sl],.int .i64 0]) (Hf.gU results141 _ _ _ _ _ (0,0) _ _ rfl rfl f1 underlying54 rfl xB) rfl ⟨_,n,yD,by rw[qg.out.2],?_,f3⟩;rw[qg.out.1];exact f2
  ·obtain⟨e1,e2⟩:=(zZ _ HRm).2 (Int.not_lt.1 hroom);have qg:Hid (PL=bs++[b0]/\PP=pu):=⟨e1,e2⟩;have F9:¬room<(n:Int)+1:=by rw[HLm.out]at hroom;omega
   clear e1 e2 zZ hroom WO;go_wp2_with fail;obtain⟨f1,f2,f3⟩:=sP.out.fin (by rw[<-qg.out.1];exact WQ.out);refine awt (v:=.tuple #[.agg #[.int .i64 room,.slice (some ⟨g7,0,none⟩) (n+1) yD,.int .i64 pu,.int .i64 sl],.int .i64 0]) (Hf.gU results141 _ _ _ _ _ (0,0) _ _ rfl rfl f1 underlying54 rfl xB) rfl ⟨_,n+1,yD,by rw[qg.out.2],?_,f3⟩;rw[qg.out.1];exact f2
 ·have HRm:Hid (qD (place bp bs 0) bs 0=bs.take j++bs.drop (j+1)):=by unfold Hid;rw[hp];have:=Zt bs j 0;rwa[arH]at this
  have HLb:Hid ((bs.take j++bs.drop (j+1)).length=n-1):=by unfold Hid;rw[ary,ase,asz,HL.out];omega
  rw[hp]at Qr;clear HP hp;go_enter func141,ntmps141;go_wp2_with fail;refine(CP _ ((((Gr.refl w).alloc _).alloc _).alloc _)).mono ?_;rintro e w1 ⟨g,cp,xs,rfl,O1,X1,G1⟩;have T1:=jV G1;have hsz:(((w.alloc (.cells #[.int .i64 room,.slice ao n cap,.int .i64 pu,.int .i64 sl] 54)).alloc (.cells #[.int .u32 bp,.slice va vn vc] 64)).alloc (.cells #[.int .i64 0,.slice none 0 0,.int .i64 0,.int .i64 0] 54)).heap.size=w.heap.size+1+1+1:=aq;rw[hsz]at O1 X1;have Uz:Hid (∀W,Gr w1 W->W.heap[w1.heap.size]?=some (.cells #[.int .i64 room,.slice (some ⟨g,0,none⟩) n cp,.int .i64 pu,.int .i64 sl] 54 (0,0))->Ps w W w1.heap.size room pu sl bp va vn vc g n cp bs xs):=fun W G hr=>
   ⟨(arz.1 T1.2.2).1,bB G T1.2.1,bB G T1.2.2,hr,aD O1 G,(X1.of G).low ab,HL,(((((Gr.refl w).alloc _).alloc _).alloc _).trans G1).trans G⟩
  clear O1 X1 T1 G1 CP hsz;go_wp2_with fail;refine Dn (fun W=>Ps w W w1.heap.size room pu sl bp va vn vc g n cp bs xs) (Uz _ ((Gr.refl w1).alloc _) (awk w1 _)) ?_;clear Uz;generalize w1.heap.size=o at *
  clear w1;intro W P0;have oI:Hid (Ps w W o room pu sl bp va vn vc g n cp bs xs):=P0;have x1:W.cell? ⟨o,1,none⟩=some (.slice (some ⟨g,0,none⟩) n cp):=awl _ _ _ _ _ _ P0.r;have q0:W.cell? ⟨w.heap.size+1,0,none⟩=some (.int .u32 bp):=awl _ _ _ _ _ _ P0.b;clear P0;apply share
  ·intro jW
   go_region_with (first
    |(go_at_call 137;refine(AT _).mono ?_;rintro e w2 ⟨K,rfl,hk,G2⟩;have HG2:Hid (Gr W w2):=Gr.trans b9 G2;have x2:w2.cell? ⟨o,1,none⟩=some (.slice (some ⟨g,0,none⟩) n cp):=awl _ _ _ _ _ _ (oI.of HG2).r;clear G2)
    |(go_at_call 136;refine(Qr _ K _ _ g cp xs (oI.of HG2).own (oI.of HG2).bx hk).mono ?_;rintro e w3 ⟨rfl,G3⟩;have NH:Hid (Ps w w3 o room pu sl bp va vn vc g n cp bs xs):=oI.of (HG2.trans G3);clear G3))
   all_goals
    clear x2 hk HG2;clear w2
    revert NH
    revert w3
    revert K
    exact jW.out
  clear oI x1 q0 Qr AT;clear W;intro K W oI;have x1:W.cell? ⟨o,1,none⟩=some (.slice (some ⟨g,0,none⟩) n cp):=awl _ _ _ _ _ _ oI.r;have hj0:(0:Int)<=(j:Int):=ab;go_wp2_with fail;refine(WO _ _ _ g n cp j bs xs oI.own oI.bx oI.len hj).mono ?_;rintro e w5 ⟨rfl,ys,O5,X5,Q5⟩;have UB:Hid (Ps w (w5.setCell ⟨o,1,none⟩ (.slice (some ⟨g,0,none⟩) (n-1) cp)) o room pu sl bp va vn vc g (n-1) cp (bs.take j++bs.drop (j+1)) ys):=oI.put Q5 O5 X5 HLb;have hr5:=oI.row Q5;have y1:w5.cell? ⟨o,1,none⟩=some (.slice (some ⟨g,0,none⟩) n cp):=awl _ _ _ _ _ _ hr5;have yf:w5.frozen? ⟨o,1,none⟩=false:=awM _ _ _ _ _ hr5;clear O5 X5 Q5 hr5 x1 oI;clear W;go_wp2_with fail;refine Dn (fun W=>Ps w W o room pu sl bp va vn vc g (n-1) cp (bs.take j++bs.drop (j+1)) ys) UB ?_;clear UB y1 yf;clear w5;generalize bs.take j++bs.drop (j+1)=L1 at *
  have ni:n-1<=n:=ab;generalize n-1=m at *
  intro W P0;have oI:Hid (Ps w W o room pu sl bp va vn vc g m cp L1 ys):=P0;have x1:W.cell? ⟨o,1,none⟩=some (.slice (some ⟨g,0,none⟩) m cp):=awl _ _ _ _ _ _ P0.r;clear P0;have q0:W.cell? ⟨w.heap.size+1,0,none⟩=some (.int .u32 bp):=awl _ _ _ _ _ _ oI.b;have q1:W.cell? ⟨w.heap.size+1,1,none⟩=some (.slice va vn vc):=awl _ _ _ _ _ _ oI.b;apply share
  ·intro jW
   go_region_law (first
    |(refine bC rfl (.tmp 35) (.tmp 38) 52 rfl (w.heap.size+1+1+1) 64 i0 _ 2 32 underlying52 hi hz0 hz1 hz2 rfl an (.slice (some ⟨g,0,none⟩) m cp) m ys ar (aD oJ.own (by repeat (first|exact Gr.refl w2|refine Gr.drewN ?_ _|refine Gr.drew ?_|refine Gr.alloc ?_ _))) ⟨w2.heap.size,0,none⟩ 1 1 [.int .u32 bp,.slice ia iq ic] ar rfl (dX aq aq) (vB rfl rfl) bj ab (by have:=oJ.lo;have:=(arz.1 oJ.r).1;simp;omega) ?_;intro v' w' hown hgrow;obtain⟨g',cp',rfl⟩:=dA hown ab;have LU:Hid (Ch g w2 w'):=(Ch.Zu (by repeat (first|exact Gr.refl w2|refine Gr.drewN ?_ _|refine Gr.drew ?_|refine Gr.alloc ?_ _))).trans hgrow;have HO7:Hid (w'.ownsRow (w.heap.size+1+1+1) 64 2 (.slice (some ⟨g',0,none⟩) (m+1) cp') (m+1) (ys++[.int .u32 bp,.slice ia iq ic])):=hown;have y1:w'.cell? ⟨o,1,none⟩=some (.slice (some ⟨g,0,none⟩) m cp):=awl _ _ _ _ _ _ (oJ.row LU);have yf:w'.frozen? ⟨o,1,none⟩=false:=awM _ _ _ _ _ (oJ.row LU);clear hown hgrow)
    |(go_simp;go_wp2_with (go_at_call 138;refine(CB _ (Gr.trans oI.gr (by repeat (first|exact Gr.refl W|refine Gr.drewN ?_ _|refine Gr.drew ?_)))).mono ?_;rintro e w2 ⟨v2,rfl,I2,G2⟩;have HG2:Hid (Gr W w2):=Gr.trans (by repeat (first|exact Gr.refl W|refine Gr.drewN ?_ _|refine Gr.drew ?_)) G2;have oJ:Hid (Ps w w2 o room pu sl bp va vn vc g m cp L1 ys):=oI.of HG2;have HI2:Hid (Io w2 w.heap.size v2 b0.is):=I2.low (by have:=oI.gr.size;simpa using this);obtain⟨ia,ic,rfl⟩:=I2.shape;have x2:w2.cell? ⟨o,1,none⟩=some (.slice (some ⟨g,0,none⟩) m cp):=awl _ _ _ _ _ _ oJ.r;have ho2:o<w2.heap.size:=(arz.1 oJ.r).1;clear I2 G2;generalize b0.is.length=iq at *)))
   all_goals
    have Zv:Bx w' w.heap.size (L1++[b0]) (ys++[.int .u32 bp,.slice ia iq ic]):=HSn _ _ _ _ (oJ.bx.to fun q c r hq=>(dS oJ.own LU hq an).trans hq.symm) (HI2.to fun q c r hq=>(dS oJ.own LU hq an).trans hq.symm);have sP:=oJ.put LU HO7 Zv (by rw[ary,oJ.out.len];rfl);refine Dn (fun W=>Ps w W o room pu sl bp va vn vc g' (m+1) cp' (L1++[b0]) (ys++[.int .u32 bp,.slice ia iq ic])) sP ?_;clear sP Zv y1 yf LU HO7 x2 ho2 HI2 oJ HG2;clear w';generalize w2.heap.size=z9 at *
    clear w2
    revert cp'
    revert g'
    revert ic
    revert iq
    revert ia
    revert z9
    exact jW.out
  clear q0 q1 x1 CB oI;clear W;intro z9 ia iq ic g7 yD W P7;have sP:Hid (Ps w W o room pu sl bp va vn vc g7 (m+1) yD (L1++[b0]) (ys++[.int .u32 bp,.slice ia iq ic])):=P7;have x0:W.cell? ⟨o,0,none⟩=some (.int .i64 room):=awl _ _ _ _ _ _ P7.r;have x1:W.cell? ⟨o,1,none⟩=some (.slice (some ⟨g7,0,none⟩) (m+1) yD):=awl _ _ _ _ _ _ P7.r;have x2:W.cell? ⟨o,2,none⟩=some (.int .i64 pu):=awl _ _ _ _ _ _ P7.r;have x3:W.cell? ⟨o,3,none⟩=some (.int .i64 sl):=awl _ _ _ _ _ _ P7.r;have z0:W.cell? ⟨w.heap.size+1+1,0,none⟩=some (.int .i64 0):=awl _ _ _ _ _ _ P7.z;have z1:W.cell? ⟨w.heap.size+1+1,1,none⟩=some (.slice none 0 0):=awl _ _ _ _ _ _ P7.z;have z2:W.cell? ⟨w.heap.size+1+1,2,none⟩=some (.int .i64 0):=awl _ _ _ _ _ _ P7.z;have z3:W.cell? ⟨w.heap.size+1+1,3,none⟩=some (.int .i64 0):=awl _ _ _ _ _ _ P7.z;have zf:∀j,W.frozen? ⟨w.heap.size+1+1,j,none⟩=false:=fun j=>awM _ _ _ _ _ P7.z
  have hne:¬w.heap.size+1+1=o:=by have:=P7.lo;omega
  have hne2:¬o=w.heap.size+1+1:=by have:=P7.lo;omega
  clear P7;have HLm:Hid ((L1).length=m):=HLb;by_cases hroom:room<(((L1).length+1:Nat):Int)
  ·obtain⟨e1,e2⟩:=(zZ _ HRm).1 hroom;have qg:Hid (PL=(L1++[b0]).drop 1/\PP=wrap64 (pu+1)):=⟨e1,e2⟩;have F9:room<(m:Int)+1:=by rw[HLm.out]at hroom;omega
   clear e1 e2 zZ hroom;go_wp2_with fail;refine(WO _ _ _ g7 (m+1) yD 0 _ _ sP.own sP.bx sP.len ab).mono ?_;rintro e w8 ⟨rfl,ys,O8,X8,Q8⟩;rw[Nat.add_sub_cancel]at O8;have HP8:=sP.put Q8 O8 X8 (by have:=sP.len;simp only[asX,arT,asz];omega);rw[asX,arT]at HP8;have HP9:Hid (Ps w ((w8.setCell ⟨o,1,none⟩ (.slice (some ⟨g7,0,none⟩) m yD)).setCell ⟨o,2,none⟩ (.int .i64 (wrap64 (pu+1)))) o room (wrap64 (pu+1)) sl bp va vn vc g7 m yD ((L1++[b0]).drop (0+1)) ys):=HP8.push _;have LV:=sP.row Q8;have y0:w8.cell? ⟨o,0,none⟩=some (.int .i64 room):=awl _ _ _ _ _ _ LV;have y1:w8.cell? ⟨o,1,none⟩=some (.slice (some ⟨g7,0,none⟩) (m+1) yD):=awl _ _ _ _ _ _ LV;have y2:w8.cell? ⟨o,2,none⟩=some (.int .i64 pu):=awl _ _ _ _ _ _ LV;have y3:w8.cell? ⟨o,3,none⟩=some (.int .i64 sl):=awl _ _ _ _ _ _ LV;have yf:∀j,w8.frozen? ⟨o,j,none⟩=false:=fun j=>awM _ _ _ _ _ LV
   have LW:w8.heap[w.heap.size+1+1]?=some (.cells #[.int .i64 0,.slice none 0 0,.int .i64 0,.int .i64 0] 54 (0,0)):=dS sP.own Q8 sP.z an;have v0:w8.cell? ⟨w.heap.size+1+1,0,none⟩=some (.int .i64 0):=awl _ _ _ _ _ _ LW;have v1:w8.cell? ⟨w.heap.size+1+1,1,none⟩=some (.slice none 0 0):=awl _ _ _ _ _ _ LW;have v2:w8.cell? ⟨w.heap.size+1+1,2,none⟩=some (.int .i64 0):=awl _ _ _ _ _ _ LW;have v3:w8.cell? ⟨w.heap.size+1+1,3,none⟩=some (.int .i64 0):=awl _ _ _ _ _ _ LW;have vf:∀j,w8.frozen? ⟨w.heap.size+1+1,j,none⟩=false:=fun j=>awM _ _ _ _ _ LW
   clear O8 X8 Q8 HP8 LV LW sP x0 x1 x2 x3 z0 z1 z2 z3 zf WO;go_wp2_with fail;obtain⟨f1,f2,f3⟩:=HP9.fin (by rw[arH,<-qg.out.1];exact WQ);refine awt (v:=.tuple #[.agg #[.int .i64 room,.slice (some ⟨g7,0,none⟩) m yD,.int .i64 (wrap64 (pu+1)),.int .i64 sl],.int .i64 0]) (Hf.gU results141 _ _ _ _ _ (0,0) _ _ rfl rfl f1 underlying54 rfl xB) rfl ⟨_,m,yD,by rw[qg.out.2],?_,f3⟩;rw[qg.out.1];exact f2
  ·obtain⟨e1,e2⟩:=(zZ _ HRm).2 (Int.not_lt.1 hroom);have qg:Hid (PL=L1++[b0]/\PP=pu):=⟨e1,e2⟩;have F9:¬room<(m:Int)+1:=by rw[HLm.out]at hroom;omega
   clear e1 e2 zZ hroom WO;go_wp2_with fail;obtain⟨f1,f2,f3⟩:=sP.fin (by rw[<-qg.out.1];exact WQ);refine awt (v:=.tuple #[.agg #[.int .i64 room,.slice (some ⟨g7,0,none⟩) (m+1) yD,.int .i64 pu,.int .i64 sl],.int .i64 0]) (Hf.gU results141 _ _ _ _ _ (0,0) _ _ rfl rfl f1 underlying54 rfl xB) rfl ⟨_,m+1,yD,by rw[qg.out.2],?_,f3⟩;rw[qg.out.1];exact f2
end Kc
namespace En
variable[Inhabited Hc.bH]
open Mm Hh Hc Mc
theorem Ga (r p l)(a)(n c):(#[int i64 r,slice a n c,int i64 p,int i64 l]:Array Value).all (·.oneCell')=true:=by refine aw0 ?_;intro v hv;simp only[arG,arN,awQ]at hv;rcases hv with rfl|rfl|rfl|rfl<;>rfl
theorem wh {o}{a}{Q}(hg:o.guard=none)(m x v)(t)(hop:o.op=Op.mapUpdate t m x v)(k e)(Kk:Maps.Keyed P k)(ht:P.underlying t=some (.map k e))(R)(b n)(D)(hm:a.eval m=.map (some b))(hown:w.ownsMap P k R b n D)(hn:n<maxLen)(key val)(kl)(hx:a.eval x=key)(hv:a.eval v=val)(hkey:keyOf P k key=some kl)(d:DataW Value)(ps:List MemPlace)(hval:R val=some (d,ps))(hK:∀w',w'.ownsMap P k R b (n+1) (D.put kl d)->w.grownBy w' (some b)->K (a.put o.dst undef) w'):if Region.wanted o (yielded ops a.tmps)=true then Oper.wp P o a w K Q else E:=by rw[awn (by simp[Region.wanted,hg])];obtain⟨w',hrun,r1,r2⟩:=hown.update Kk ht hn hkey hval;unfold Oper.wp;simp[execOp,hop,hm,hx,hv,hrun,Result.andThen];exact hK w' r1 r2
section
variable{lo:Nat}{room:Int}{a:Option Addr}{mb:Nat}{D:DataW Value}{s:Sh}{L:List Kc.Bv}
theorem Dy (E:Ew lo w base g room M gh hc O a n cap mb mn D s L pu sl)(hn:n≤140737488351232)(ni:mn≤1000000)(hb0:0≤bp)(hb1:bp<4294967296)(va)(vn vc)(ca)(cn cc)(r0 p1 l1 er)(L1)(hr:er=0→r0=room)(P:∀W,Gr w W->Calls prog 141 #[.agg #[.int .i64 room,.slice a n cap,.int .i64 pu,.int .i64 sl],.agg #[.int .u32 bp,.slice va vn vc]] W fun e w'=>∃a1 n1 c1,e=.returned (.tuple #[.agg #[.int .i64 r0,.slice a1 n1 c1,.int .i64 p1,.int .i64 l1],.int .i64 er])/\(Kc.Bt W.heap.size w' a1 n1 L1/\n1<=c1)/\Gr W w')(hcd:er=0->∀b∈L1,b∈L/\¬b.pc=bp\/b.pc=bp/\Ts.Ct w ca cn (Ts.aY bp b.is 0))(hl1:L1.length<=140737488351232):Calls prog 111 #[.pointer (some ⟨g,0,none⟩),.agg #[.int .u32 bp,.slice va vn vc],.slice ca cn cc] w fun e w'=>e=.returned (.tuple #[])/\(¬er=0->Gr w w')/\(er=0->Ev w.heap.size w' base g room s L1 p1 l1 (mn+1))/\Fm base w w':=by
 have HE:Hid (Ew lo w base g room M gh hc O a n cap mb mn D s L pu sl):=E;have HP:Hid (∀W:World,Gr w W->Calls prog 141 #[.agg #[.int .i64 room,.slice a n cap,.int .i64 pu,.int .i64 sl],.agg #[.int .u32 bp,.slice va vn vc]] W fun e w'=>∃a1 n1 c1,e=.returned (.tuple #[.agg #[.int .i64 r0,.slice a1 n1 c1,.int .i64 p1,.int .i64 l1],.int .i64 er])/\(Kc.Bt W.heap.size w' a1 n1 L1/\n1<=c1)/\Gr W w'):=P;have HCD:=kH hcd;have HHR:=kH hr;have EK:=kH hl1;have HKY:=kH (aeU hb0 hb1);have hgl:=E.bw.lt;have HS:Hid (∀W:World,Gr (w.alloc (.cells #[.int .u32 bp,.slice va vn vc] 64)) W->(fun W=>W.cell? ⟨g,4,none⟩=some (.int .i64 room)/\W.cell? ⟨g,5,none⟩=some (.slice a n cap)/\W.cell? ⟨g,6,none⟩=some (.int .i64 pu)/\W.cell? ⟨g,7,none⟩=some (.int .i64 sl)/\W.cell? ⟨w.heap.size,0,none⟩=some (.int .u32 bp)/\W.cell? ⟨w.heap.size,1,none⟩=some (.slice va vn vc)) W):=fun W G=>by
  have EW:=E.of (((Gr.refl w).alloc _).trans G);have e:=Kc.bB G (awk w _);exact⟨EW.c4,EW.c5,EW.c6,EW.c7,awl _ _ _ _ _ _ e,awl _ _ _ _ _ _ e⟩
 clear E P hcd hr hb0 hb1 hl1;go_enter func111,ntmps111;go_wp2_with fail;generalize hw0:w.alloc (.cells #[.int .u32 bp,.slice va vn vc] 64)=w0 at *
 have HW0:=kH hw0;have qf:Hid (Gr w w0):=by rw[<-hw0];exact(Gr.refl w).alloc _
 clear hw0;apply Kc.share
 ·intro jW;refine awN (S:=fun W=>W.cell? ⟨g,4,none⟩=some (.int .i64 room)/\W.cell? ⟨g,5,none⟩=some (.slice a n cap)/\W.cell? ⟨g,6,none⟩=some (.int .i64 pu)/\W.cell? ⟨g,7,none⟩=some (.int .i64 sl)/\W.cell? ⟨w.heap.size,0,none⟩=some (.int .u32 bp)/\W.cell? ⟨w.heap.size,1,none⟩=some (.slice va vn vc)) al ?_ (fun hHeld=>?_)
  ·exact HS _ (Gr.refl _).drew
  have bA:=kH hHeld;clear hHeld;refine tK 0 (.pointer (some ⟨g,0,none⟩)) bA ?_;refine tK 1 (.pointer (some ⟨g,0,none⟩)) bA ?_;refine tK 2 (.pointer (some ⟨g,4,none⟩)) bA ?_;refine tK 3 (.agg #[.int .i64 room,.slice a n cap,.int .i64 pu,.int .i64 sl]) bA ?_;refine tK 4 (.agg #[.int .u32 bp,.slice va vn vc]) bA ?_;refine aww (rs:=[5,9]) al aq ?_;refine awp rfl (fun K hK=>?cf) (awp rfl (fun K hK=>?af) awu)
  case cf=>
   go_simp;refine(HP _ (qf.drew)).mono ?_;rintro e wd ⟨a1,n1,c1,rfl,⟨B1,hc1⟩,Gd⟩;have HB1:=kH (B1.low (by first|exact qf.size|exact(qf.alloc _).size));have gV:Hid (Gr w0 wd):=(Gr.refl _).drew.trans Gd;clear Gd B1;have gH:Hid _:=HS _ gV;refine hK.out _ _ gH (fun hx=>?_);clear hK K hx;refine tK 6 (.tuple #[.agg #[.int .i64 r0,.slice a1 n1 c1,.int .i64 p1,.int .i64 l1],.int .i64 er]) gH ?_;refine tK 7 (.agg #[.int .i64 r0,.slice a1 n1 c1,.int .i64 p1,.int .i64 l1]) gH ?_;refine tK 8 (.int .i64 er) gH ?_;refine aww (rs:=[9]) al aq ?_;refine awp rfl (fun K hK=>?_) awu;go_simp;refine hK.out _ _ (HS _ (gV.alloc _)) (fun hx=>?_);clear hK K hx;refine bD (i:=10) al rfl rfl 54 (.tmp 6) (.tmp 15) rfl wd.heap.size #[.int .i64 r0,.slice a1 n1 c1,.int .i64 p1,.int .i64 l1] aw aw 54 _ (awk wd _) Kc.xB rfl (Ga _ _ _ _ _ _) ?_ ?_
   ·exact HS _ (ag (gV.alloc _) gV.size _)
   refine tK 11 (.int .i64 er) (HS _ (ag (gV.alloc _) gV.size _)) ?_;refine awT al ?_ _;refine aK (fun W=>W.heap[wd.heap.size]?=some (.cells #[.int .i64 r0,.slice a1 n1 c1,.int .i64 p1,.int .i64 l1] 54 (0,0))/\Kc.Bt w.heap.size W a1 n1 L1/\Gr w0 W) ⟨awJ _ _ _ _ _ (0,0) (awk wd _),HB1.of (ag br (arA _) _),ag (gV.alloc _) gV.size _⟩ ?_;obtain⟨o,ho⟩:∃o:Nat,o=wd.heap.size:=⟨_,rfl⟩;rw[<-ho];clear ho HB1 gH gV bA;clear wd
   revert o hc1
   revert a1 n1 c1
   exact jW.out
  case af=>
   go_simp;refine hK.out _ _ (HS _ br.drew) (fun hx=>?_);clear hK K hx;refine aww (rs:=[5]) al aq ?_;refine awp rfl (fun K hK=>?_) awu;go_simp;refine(HP _ ((qf.alloc _).drew)).mono ?_;rintro e wd ⟨a1,n1,c1,rfl,⟨B1,hc1⟩,Gd⟩;have HB1:=kH (B1.low (by first|exact qf.size|exact(qf.alloc _).size));have uR:=kH (Kc.bB Gd (Kc.bB (Gr.refl _).drew (awk w0 _)));have gV:=kH (Gr.trans (Gr.drew ((Gr.refl w0).alloc _)) Gd);clear Gd B1;have gH:Hid _:=HS _ gV;refine hK.out _ _ gH (fun hx=>?_);clear hK K hx;refine tK 6 (.tuple #[.agg #[.int .i64 r0,.slice a1 n1 c1,.int .i64 p1,.int .i64 l1],.int .i64 er]) gH ?_;refine tK 7 (.agg #[.int .i64 r0,.slice a1 n1 c1,.int .i64 p1,.int .i64 l1]) gH ?_;refine tK 8 (.int .i64 er) gH ?_;refine bD (i:=10) al rfl rfl 54 (.tmp 6) (.tmp 15) rfl w0.heap.size #[.int .i64 r0,.slice a1 n1 c1,.int .i64 p1,.int .i64 l1] aw aw 54 _ uR Kc.xB rfl (Ga _ _ _ _ _ _) ?_ ?_
   ·exact HS _ (ag gV (arA _) _)
   refine tK 11 (.int .i64 er) (HS _ (ag gV (arA _) _)) ?_;refine awT al ?_ _;refine aK (fun W=>W.heap[w0.heap.size]?=some (.cells #[.int .i64 r0,.slice a1 n1 c1,.int .i64 p1,.int .i64 l1] 54 (0,0))/\Kc.Bt w.heap.size W a1 n1 L1/\Gr w0 W) ⟨awJ _ _ _ _ _ (0,0) uR,HB1.to fun k q t f _ ht hk=>awI _ _ _ _ (aa hk uR (by rcases ht with rfl|rfl<;>decide)),ag gV (arA _) _⟩ ?_;obtain⟨o,ho⟩:∃o:Nat,o=w0.heap.size:=⟨_,rfl⟩;rw[<-ho];clear ho HB1 gH gV bA uR;clear wd
   revert o hc1
   revert a1 n1 c1
   exact jW.out
 ·intro a1 n1 c1 hc1 o W ⟨K0,B1,GW⟩;have HBt:=kH B1;have BU:=kH (qf.trans GW);have HBl:=kH (Kc.bB GW (by rw[<-HW0.out];exact awk w _));have k0:W.cell? ⟨o,0,none⟩=some (.int .i64 r0):=awl _ _ _ _ _ _ K0;have k1:W.cell? ⟨o,1,none⟩=some (.slice a1 n1 c1):=awl _ _ _ _ _ _ K0;have k2:W.cell? ⟨o,2,none⟩=some (.int .i64 p1):=awl _ _ _ _ _ _ K0;have k3:W.cell? ⟨o,3,none⟩=some (.int .i64 l1):=awl _ _ _ _ _ _ K0;clear B1 GW HS HP HW0 qf K0;clear w0;by_cases her:er=0
  ·have hrr:=HHR her;subst her;subst hrr;have EW:Ew lo W base g r0 M gh hc O a n cap mb mn D s L pu sl:=HE.of BU;have HEW:Hid (Ew lo W base g r0 M gh hc O a n cap mb mn D s L pu sl):=EW;obtain⟨m1,m2,m3⟩:=EW.mid r0 a1 n1 c1 p1 l1;have UC:Hid (Bw 94 (rsE r0 a1 n1 c1 p1 l1 mb) (uB W g r0 a1 n1 c1 p1 l1) base g M gh hc O s):=m1;have LG:Hid (Fm base W (uB W g r0 a1 n1 c1 p1 l1)):=m2;have HM3:Hid ((uB W g r0 a1 n1 c1 p1 l1).ownsMap prog 37 Rh mb mn D):=m3;have g4:=EW.c4;have g5:=EW.c5;have g6:=EW.c6;have g7:=EW.c7;have f4:W.frozen? ⟨g,4,none⟩=false:=EW.bw.fz 4;have f5:W.frozen? ⟨g,5,none⟩=false:=EW.bw.fz 5;have f6:W.frozen? ⟨g,6,none⟩=false:=EW.bw.fz 6;have f7:W.frozen? ⟨g,7,none⟩=false:=EW.bw.fz 7;clear EW m1 m2 m3 HE HHR;go_wp2_with fail;refine aK (fun V=>V=uB W g r0 a1 n1 c1 p1 l1) rfl ?_;intro V hV;rw[<-hV]at UC LG HM3;have HV:Hid (V=uB W g r0 a1 n1 c1 p1 l1):=hV;have EL:Hid (V.cell? ⟨g,8,none⟩=some (.map (some mb))/\V.cell? ⟨w.heap.size,0,none⟩=some (.int .u32 bp)):=⟨UC.rest 4,awl _ _ _ _ _ _ (LG.row HBl an)⟩;clear hV g4 g5 g6 g7 f4 f5 f6 f7 k0 k1 k2 k3;refine awN (S:=fun W=>W.cell? ⟨g,8,none⟩=some (.map (some mb))/\W.cell? ⟨w.heap.size,0,none⟩=some (.int .u32 bp)) al ?_ (fun hHeld=>?_)
   ·exact EL
   have bA:Hid _:=hHeld;clear hHeld;refine tK 0 (.pointer (some ⟨g,0,none⟩)) bA ?_;refine tK 1 (.pointer (some ⟨g,0,none⟩)) bA ?_;refine tK 2 (.pointer (some ⟨g,8,none⟩)) bA ?_;refine tK 3 (.map (some mb)) bA ?_;refine tK 4 (.pointer (some ⟨w.heap.size,0,none⟩)) bA ?_;refine tK 5 (.int .u32 bp) bA ?_;refine tK 6 (.slice ca cn cc) bA ?_;refine aww (rs:=[7]) al aq ?_;refine awp rfl (fun K hK=>wh rfl (.tmp 26) (.tmp 28) (.tmp 29) 92 rfl 37 177 kU underlying92 Rh mb mn D aw HM3.drew bj (.int .u32 bp) (.slice ca cn cc) (.int .u32 bp) aw aw HKY (.held (.slice ca cn cc)) [] rfl (fun w5 h5 q5=>hK.out _ _ ?_ (fun hx=>?_))) awu
   ·have st:=zY HM3.drew q5;exact⟨(awv (st _ _ _ _ UC.out.blk)).trans EL.out.1,(awv (st _ _ _ _ (LG.out.row HBl.out an))).trans EL.out.2⟩
   clear hK K hx;refine awT al ?_ _;have HQ:=HEW.put HBt hc1 (W:=w5) (mK:=p1) (sl':=l1) (by rw[<-HV.out];exact⟨q5.os,q5.tape,q5.output,q5.size,q5.block⟩) h5 (fun b hb=>by
    rcases HCD (by trivial) b hb with⟨hb1,hb2⟩|⟨hb1,hb2⟩
    ·obtain⟨xa,xn,xc,h1,h2⟩:=HEW.code b hb1;exact⟨xa,xn,xc,fun z=>(Maps.atKey_put_other (fun e=>hb2 (by injection e)) _ z).trans (h1 z),h2⟩
    ·refine⟨ca,cn,cc,fun z=>?_,?_⟩
     ·rw[hb1];exact Maps.atKey_put_same HM3.isMap (kU.key HKY) _ z
     ·rw[hb1];exact hb2.of BU)
   have Jb:Hid (Fm base w w5):=(Fm.aJ BU (arF HEW.bw.bg (by have:=hgl;omega))).trans HQ.2;have hn1:n1<=140737488351232:=by rw[<-HBt.out.bs.len];exact EK
   have HFg:Hid (Calls prog 89 #[.pointer (some ⟨g,0,none⟩)] w5 fun e w'=>e=.returned (.tuple #[])/\(∃D',Ew w.heap.size w' base g r0 M gh hc O a1 n1 c1 mb (mn+1) D' s L1 p1 l1)/\Fm base w5 w'):=vZ HQ.1 hn1;clear HQ h5 q5 UC LG HM3 EL bA HV HEW HBt HBl BU HCD hn1 EK;clear V W;go_wp2_with fail;refine axj HFg ?_;rintro e w6 ⟨rfl,⟨D6,E6⟩,F6⟩;have HE6:Hid (Ev w.heap.size w6 base g r0 s L1 p1 l1 (mn+1)):=⟨M,gh,hc,O,a1,n1,c1,mb,D6,E6⟩;have HF6:Hid (Fm base w w6):=Jb.trans F6;clear HFg E6 F6 Jb;go_wp2_with fail;go_end0;exact⟨rfl,HE6,HF6⟩
  ·have anx:(er !=0)=true:=by simpa using her
   have HER:Hid (¬er=0):=her;clear her k0 k1 k2 k3 HBt HBl HCD HHR;go_wp2_with fail;refine awt (axf results111 _ _ _) rfl ?_;exact⟨rfl,fun _=>BU,fun h=>absurd h HER,Fm.aJ BU HE.az⟩
end
end En
namespace Ts
variable[Inhabited Hc.bH]
open Mm Hc Mi Bk
open Hh hiding Rn
variable{n b:Int}
theorem Sr.at_ (hg:g=w.heap.size)(cs)(t n c:Nat)(h:cs.size=n*5):Sr (w.alloc (cells cs t)) (slice (some ⟨g,0,none⟩) n c) n 5 cs.toList:=by subst hg;exact Sr.new w cs t n c h
theorem Sr.drew {vx}{m sz}{news}(h:Sr w vx m sz news):Sr w.drew vx m sz news:=h.gr ((Gr.refl _).drewN 1)
theorem ai4:(prog.info? 235).map (·.size)=some 5:=al
theorem ug (n a b ) (w ) :Calls prog 167 #[int i64 n, int i64 a, int i64 b] w fun e w' => e = returned (.bool (decide (a <= n /\ n <= b))) /\ w' =w :=by
  go_enter func167, ntmps167;go_wp2
  all_goals
    go_ret;refine⟨Dw.aR ?_, rfl⟩
    first
      | (rename_i h; have h2 : ¬ a ≤ n := by omega
         simp[h2]; done)
      |(rename_i h; simp[h]; done)
theorem eZ (h:a<=n/\n<=b)(w):Calls prog 167 #[int i64 n,int i64 a,int i64 b] w fun e w'=>e=returned (.bool true)/\w'=w:=by have:=ug n a b w;rwa[awC h]at this
theorem aA (h:¬(a<=n/\n<=b))(w):Calls prog 167 #[int i64 n,int i64 a,int i64 b] w fun e w'=>e=returned (.bool false)/\w'=w:=by have:=ug n a b w;rwa[awq h]at this
theorem dC (v)(w):Calls prog 164 #[v] w fun e w'=>e=returned v/\w'=w:=by go_enter func164,ntmps164;go_wp2;go_ret;exact⟨rfl,rfl⟩
theorem Jc (r x)(w):Calls prog 165 #[int i64 r,int .u32 x] w fun e w'=>e=returned (agg #[int i64 2,int i64 r,int i64 0,int i64 0,int .u32 x])/\w'=w.alloc (cells #[int i64 2,int i64 r,int i64 0,int i64 0,int .u32 x] 235):=by go_enter func165,ntmps165;go_wp2;exact awt (v:=agg #[int i64 2,int i64 r,int i64 0,int i64 0,int .u32 x]) (awZ results165 _ _ _ _ _ (0,0) _ rfl (awk w _) underlying235 rfl ai4) rfl ⟨rfl,rfl⟩
theorem nI (r x)(w):Calls prog 165 #[int i64 r,int .u32 x] w fun e w'=>e=returned (agg #[int i64 2,int i64 r,int i64 0,int i64 0,int .u32 x])/\Gr w w':=(Jc r x w).mono fun e w' ⟨h1,h2⟩=>⟨h1,by rw[h2];exact(Gr.refl _).alloc _⟩
end Ts
namespace Ts
variable[Inhabited Hc.bH]
open Mm Hc Mi Bk
open Hh hiding Rn
theorem Qw (op rd r1 r2 im a)(w):Calls prog 166 #[agg #[int i64 op,int i64 rd,int i64 r1,int i64 r2,int i32 im],int .u32 a] w fun e w'=>∃v,e=returned v/\Sr w' v 3 5 [int i64 528,int i64 32,int i64 r1,int i64 0,int .u32 (Wd.lo im),int i64 2,int i64 rd,int i64 0,int i64 0,int .u32 (Wd.lo (a+4)),int i64 4,int i64 0,int i64 32,int i64 0,int .u32 0]/\Gr w w':=by
 go_enter func166,ntmps166;go_wp2_with fail
 go_region_with (first
  |(go_at_call 165;refine(Jc _ _ _).mono ?_;rintro e w1 ⟨rfl,rfl⟩)
  |(go_at_call 164;refine(dC _ _).mono ?_;rintro e w1 ⟨rfl,rfl⟩))
 all_goals
  go_wp2_with fail;go_ret;refine⟨_,rfl,?_,?_⟩
  ·repeat (refine Sr.drew ?_)
   exact Sr.at_ aq #[int i64 528,int i64 32,int i64 r1,int i64 0,int .u32 (IntKind.u32.wrap im),int i64 2,int i64 rd,int i64 0,int i64 0,int .u32 (IntKind.u32.wrap (a+4)),int i64 4,int i64 0,int i64 32,int i64 0,int .u32 0] 235 3 3 rfl
  ·repeat (first|exact Gr.refl _|refine Gr.drewN ?_ _|refine Gr.drew ?_|refine Gr.alloc ?_ _)
end Ts
namespace Ts
variable[Inhabited Hc.bH]
open Mm Hc Mi Bk
open Hh hiding Rn
def mF:List Int:=[0,0,0,0,0,0,0,0,0,0,0,0,0,0,0,0,0,0,0,528,531,532,533,536,537,530,534,535]
def Tq (w:World):Prop:=∀k n,mF[k]?=some n->w.cell? ⟨6,k,none⟩=some (int i64 n)
theorem Tq.of (h:Tq w)(g:Gr w w'):Tq w':=fun k n e=>(g.cell _ (by exact Dw.lt_of_cell (h k n e))).trans (h k n e)
def jh (op rd r1 r2 im a:Int) (n:Nat) (cs:List Value):Prop:=∀w:World,Tq w->Calls prog 140 #[agg #[int i64 op,int i64 rd,int i64 r1,int i64 r2,int i32 im],int .u32 a] w fun e w'=>∃v,e=returned v/\Sr w' v n 5 cs/\Gr w w'
theorem Gf (a im):Wd.lo (a+Wd.lo im)=(a+im)%4294967296:=by unfold Wd.lo;omega
section
variable{r1 r2 im:Int}
theorem abH:jh 1 rd r1 r2 im a 1 [int i64 2,int i64 rd,int i64 0,int i64 0,int .u32 (Wd.lo im)]:=fun w T=>by
 go_enter func140,ntmps140;go_wp2_with fail;refine(nI _ _ _).mono ?_;rintro e w8 ⟨rfl,G1⟩;go_wp2_with fail;refine(dC _ _).mono ?_;rintro e w9 ⟨rfl,rfl⟩;go_wp2_with fail;go_ret;refine⟨_,rfl,?_,?_⟩
 ·exact Sr.at_ aq _ _ _ _ rfl
 ·exact Gr.alloc (br.trans G1) _
theorem abI:jh 2 rd r1 r2 im a 1 [int i64 2,int i64 rd,int i64 0,int i64 0,int .u32 (Wd.lo (a+Wd.lo im))]:=fun w T=>by
 go_enter func140,ntmps140;go_wp2_with fail;refine(nI _ _ _).mono ?_;rintro e w8 ⟨rfl,G1⟩;go_wp2_with fail;refine(dC _ _).mono ?_;rintro e w9 ⟨rfl,rfl⟩;go_wp2_with fail;go_ret;refine⟨_,rfl,?_,?_⟩
 ·rw[Gf];exact Sr.at_ aq _ _ _ _ rfl
 ·exact Gr.alloc (br.trans G1) _
theorem abJ:jh 3 rd r1 r2 im a 2 [int i64 2,int i64 rd,int i64 0,int i64 0,int .u32 (Wd.lo (a+4)),int i64 3,int i64 0,int i64 0,int i64 0,int .u32 (Wd.lo (a+Wd.lo im))]:=fun w T=>by
 go_enter func140,ntmps140;go_wp2_with fail;refine(nI _ _ _).mono ?_;rintro e w8 ⟨rfl,G1⟩;go_wp2_with fail;refine(dC _ _).mono ?_;rintro e w9 ⟨rfl,rfl⟩;go_wp2_with fail;go_ret;refine⟨_,rfl,?_,?_⟩
 ·rw[Gf];exact Sr.at_ aq _ _ _ _ rfl
 ·exact Gr.alloc (br.trans G1) _
theorem abK:jh 4 rd r1 r2 im a 3 [int i64 528,int i64 32,int i64 r1,int i64 0,int .u32 (Wd.lo im),int i64 2,int i64 rd,int i64 0,int i64 0,int .u32 (Wd.lo (a+4)),int i64 4,int i64 0,int i64 32,int i64 0,int .u32 0]:=fun w T=>by go_enter func140,ntmps140;go_wp2_with fail;refine(Qw _ _ _ _ _ _ _).mono ?_;rintro e w8 ⟨v,rfl,S1,G1⟩;go_wp2_with fail;go_ret;exact⟨_,rfl,S1,br.trans G1⟩
theorem abL (ho:5<=op/\op<=10):jh op rd r1 r2 im a 1 [int i64 (100+op),int i64 0,int i64 r1,int i64 r2,int .u32 (Wd.lo (a+Wd.lo im))]:=fun w T=>by
 have b1:(op ==1)=false:=by simp;omega
 have b2:(op ==2)=false:=by simp;omega
 have b3:(op ==3)=false:=by simp;omega
 have b4:(op ==4)=false:=by simp;omega
 have b19:(op ==19)=false:=by simp;omega
 go_enter func140,ntmps140;go_wp2_with fail;refine(eZ ab _).mono ?_;rintro e w0 ⟨rfl,rfl⟩;go_wp2_with fail;refine(dC _ _).mono ?_;rintro e w9 ⟨rfl,rfl⟩;go_wp2_with fail;go_ret;refine⟨_,rfl,?_,?_⟩
 ·rw[Gf];exact Sr.at_ aq _ _ _ _ rfl
 ·exact Gr.alloc br _
theorem WR (ho:11<=op/\op<=15):jh op rd r1 r2 im a 1 [int i64 (200+op),int i64 rd,int i64 r1,int i64 0,int .u32 (Wd.lo im)]:=fun w T=>by
 have b1:(op ==1)=false:=by simp;omega
 have b2:(op ==2)=false:=by simp;omega
 have b3:(op ==3)=false:=by simp;omega
 have b4:(op ==4)=false:=by simp;omega
 have b19:(op ==19)=false:=by simp;omega
 go_enter func140,ntmps140;go_wp2_with fail;refine(aA ab _).mono ?_;rintro e w0 ⟨rfl,rfl⟩;go_wp2_with fail;refine(eZ ab _).mono ?_;rintro e w1 ⟨rfl,rfl⟩;go_wp2_with fail;refine(dC _ _).mono ?_;rintro e w9 ⟨rfl,rfl⟩;go_wp2_with fail;go_ret;refine⟨_,rfl,?_,?_⟩
 ·exact Sr.at_ aq _ _ _ _ rfl
 ·exact Gr.alloc br _
theorem WT (ho:16<=op/\op<=18):jh op rd r1 r2 im a 1 [int i64 (300+op),int i64 0,int i64 r1,int i64 r2,int .u32 (Wd.lo im)]:=fun w T=>by
 have b1:(op ==1)=false:=by simp;omega
 have b2:(op ==2)=false:=by simp;omega
 have b3:(op ==3)=false:=by simp;omega
 have b4:(op ==4)=false:=by simp;omega
 have b19:(op ==19)=false:=by simp;omega
 go_enter func140,ntmps140;go_wp2_with fail;refine(aA ab _).mono ?_;rintro e w0 ⟨rfl,rfl⟩;go_wp2_with fail;refine(aA ab _).mono ?_;rintro e w1 ⟨rfl,rfl⟩;go_wp2_with fail;refine(eZ ab _).mono ?_;rintro e w2 ⟨rfl,rfl⟩;go_wp2_with fail;refine(dC _ _).mono ?_;rintro e w9 ⟨rfl,rfl⟩;go_wp2_with fail;go_ret;refine⟨_,rfl,?_,?_⟩
 ·exact Sr.at_ aq _ _ _ _ rfl
 ·exact Gr.alloc br _
theorem WU (ho:28<=op/\op<=45):jh op rd r1 r2 im a 1 [int i64 (400+op),int i64 rd,int i64 r1,int i64 r2,int .u32 0]:=fun w T=>by
 have b1:(op ==1)=false:=by simp;omega
 have b2:(op ==2)=false:=by simp;omega
 have b3:(op ==3)=false:=by simp;omega
 have b4:(op ==4)=false:=by simp;omega
 have b19:(op ==19)=false:=by simp;omega
 go_enter func140,ntmps140;go_wp2_with fail;refine(aA ab _).mono ?_;rintro e w0 ⟨rfl,rfl⟩;go_wp2_with fail;refine(aA ab _).mono ?_;rintro e w1 ⟨rfl,rfl⟩;go_wp2_with fail;refine(aA ab _).mono ?_;rintro e w2 ⟨rfl,rfl⟩;go_wp2_with fail;refine(aA ab _).mono ?_;rintro e w3 ⟨rfl,rfl⟩;go_wp2_with fail;refine(eZ ab _).mono ?_;rintro e w4 ⟨rfl,rfl⟩;go_wp2_with fail;refine(dC _ _).mono ?_;rintro e w9 ⟨rfl,rfl⟩;go_wp2_with fail;go_ret;refine⟨_,rfl,?_,?_⟩
 ·exact Sr.at_ aq _ _ _ _ rfl
 ·exact Gr.alloc br _
theorem WV (ho:46<=op/\op<=56):jh op rd r1 r2 im a 1 [int i64 (600+op),int i64 rd,int i64 r1,int i64 r2,int .u32 0]:=fun w T=>by
 have b1:(op ==1)=false:=by simp;omega
 have b2:(op ==2)=false:=by simp;omega
 have b3:(op ==3)=false:=by simp;omega
 have b4:(op ==4)=false:=by simp;omega
 have b19:(op ==19)=false:=by simp;omega
 go_enter func140,ntmps140;go_wp2_with fail;refine(aA ab _).mono ?_;rintro e w0 ⟨rfl,rfl⟩;go_wp2_with fail;refine(aA ab _).mono ?_;rintro e w1 ⟨rfl,rfl⟩;go_wp2_with fail;refine(aA ab _).mono ?_;rintro e w2 ⟨rfl,rfl⟩;go_wp2_with fail;refine(aA ab _).mono ?_;rintro e w3 ⟨rfl,rfl⟩;go_wp2_with fail;refine(aA ab _).mono ?_;rintro e w4 ⟨rfl,rfl⟩;go_wp2_with fail;refine(eZ ab _).mono ?_;rintro e w5 ⟨rfl,rfl⟩;go_wp2_with fail;refine(dC _ _).mono ?_;rintro e w9 ⟨rfl,rfl⟩;go_wp2_with fail;go_ret;refine⟨_,rfl,?_,?_⟩
 ·exact Sr.at_ aq _ _ _ _ rfl
 ·exact Gr.alloc br _
theorem Qx:jh 19 rd 0 r2 im a 1 [int i64 2,int i64 rd,int i64 0,int i64 0,int .u32 (Wd.lo im)]:=fun w T=>by
 go_enter func140,ntmps140;go_wp2_with fail;refine(aA ab _).mono ?_;rintro e w0 ⟨rfl,rfl⟩;go_wp2_with fail;refine(aA ab _).mono ?_;rintro e w1 ⟨rfl,rfl⟩;go_wp2_with fail;refine(aA ab _).mono ?_;rintro e w2 ⟨rfl,rfl⟩;go_wp2_with fail;refine(nI _ _ _).mono ?_;rintro e w8 ⟨rfl,G1⟩;go_wp2_with fail;refine(dC _ _).mono ?_;rintro e w9 ⟨rfl,rfl⟩;go_wp2_with fail;go_ret;refine⟨_,rfl,?_,?_⟩
 ·exact Sr.at_ aq _ _ _ _ rfl
 ·exact Gr.alloc (br.trans G1) _
theorem Qy (hz:(r1 ==0)=false):jh 19 0 r1 r2 im a 1 [int i64 2,int i64 0,int i64 0,int i64 0,int .u32 (Wd.lo im)]:=fun w T=>by
 go_enter func140,ntmps140;go_wp2_with fail;refine(aA ab _).mono ?_;rintro e w0 ⟨rfl,rfl⟩;go_wp2_with fail;refine(aA ab _).mono ?_;rintro e w1 ⟨rfl,rfl⟩;go_wp2_with fail;refine(aA ab _).mono ?_;rintro e w2 ⟨rfl,rfl⟩;go_wp2_with fail;refine(nI _ _ _).mono ?_;rintro e w8 ⟨rfl,G1⟩;go_wp2_with fail;refine(dC _ _).mono ?_;rintro e w9 ⟨rfl,rfl⟩;go_wp2_with fail;go_ret;refine⟨_,rfl,?_,?_⟩
 ·exact Sr.at_ aq _ _ _ _ rfl
 ·exact Gr.alloc (br.trans G1) _
theorem Qz (hz:(r1 ==0)=false)(hy:(rd ==0)=false):jh 19 rd r1 r2 im a 1 [int i64 528,int i64 rd,int i64 r1,int i64 0,int .u32 (Wd.lo im)]:=fun w T=>by
 have HT:Hid (∀W:World,Gr w W->W.cell? ⟨6,19,none⟩=some (int i64 528)):=fun W G=>(T.of G) 19 _ rfl
 have hq:(w.alloc (cells #[int i64 19,int i64 rd,int i64 r1,int i64 r2,int i32 im] 59)).cell? ⟨6,19,none⟩=some (int i64 528):=HT _ br;go_enter func140,ntmps140;go_wp2_with fail;refine(aA ab _).mono ?_;rintro e w0 ⟨rfl,rfl⟩;go_wp2_with fail;refine(aA ab _).mono ?_;rintro e w1 ⟨rfl,rfl⟩;go_wp2_with fail;refine(aA ab _).mono ?_;rintro e w2 ⟨rfl,rfl⟩;go_wp2_with fail;refine(eZ ab _).mono ?_;rintro e w3 ⟨rfl,rfl⟩;go_wp2_with fail;go_region_held3 (fun W=>W.cell? ⟨w.heap.size,0,none⟩=some (int i64 19)/\W.cell? ⟨w.heap.size,1,none⟩=some (int i64 rd)/\W.cell? ⟨w.heap.size,2,none⟩=some (int i64 r1)/\W.cell? ⟨6,19,none⟩=some (int i64 528)) (first|(go_keep;done)|(refine⟨?_,?_,?_,?_⟩<;>first|assumption|(simp;done))) ((go_at_call 164;refine(dC _ _).mono ?_;rintro e w9 ⟨rfl,rfl⟩));go_wp2_with fail;go_ret;refine⟨_,rfl,?_,?_⟩
 ·repeat (refine Sr.drew ?_)
  exact Sr.at_ aq _ _ _ _ rfl
 ·repeat (first|exact Gr.refl _|refine Gr.drewN ?_ _|refine Gr.drew ?_|refine Gr.alloc ?_ _)
theorem nJ {k:Nat}{v}(h1:20<=k)(h2:k<=27)(hv:mF[k]?=some v):jh (k:Int) rd r1 r2 im a 1 [int i64 v,int i64 rd,int i64 r1,int i64 0,int .u32 (Wd.lo im)]:=fun w T=>by
 have c0:(0:Int)<=(k:Int):=ab;have c1:(k:Int)<28:=ab;have b1:((k:Int) ==1)=false:=by simp;omega
 have b2:((k:Int) ==2)=false:=by simp;omega
 have b3:((k:Int) ==3)=false:=by simp;omega
 have b4:((k:Int) ==4)=false:=by simp;omega
 have b19:((k:Int) ==19)=false:=by simp;omega
 have HT:Hid (∀W:World,Gr w W->W.cell? ⟨6,k,none⟩=some (int i64 v)):=fun W G=>(T.of G) k _ hv
 have hq:(w.alloc (cells #[int i64 (k:Int),int i64 rd,int i64 r1,int i64 r2,int i32 im] 59)).cell? ⟨6,k,none⟩=some (int i64 v):=HT _ br;go_enter func140,ntmps140;go_wp2_with fail;refine(aA ab _).mono ?_;rintro e w0 ⟨rfl,rfl⟩;go_wp2_with fail;refine(aA ab _).mono ?_;rintro e w1 ⟨rfl,rfl⟩;go_wp2_with fail;refine(aA ab _).mono ?_;rintro e w2 ⟨rfl,rfl⟩;go_wp2_with fail;refine(eZ ab _).mono ?_;rintro e w3 ⟨rfl,rfl⟩;go_wp2_with fail;go_region_held3 (fun W=>W.cell? ⟨w.heap.size,0,none⟩=some (int i64 (k:Int))/\W.cell? ⟨w.heap.size,1,none⟩=some (int i64 rd)/\W.cell? ⟨w.heap.size,2,none⟩=some (int i64 r1)/\W.cell? ⟨6,k,none⟩=some (int i64 v)) (first|(go_keep;done)|(refine⟨?_,?_,?_,?_⟩<;>first|assumption|(simp;done))) ((go_at_call 164;refine(dC _ _).mono ?_;rintro e w9 ⟨rfl,rfl⟩));go_wp2_with fail;go_ret;refine⟨_,rfl,?_,?_⟩
 ·repeat (refine Sr.drew ?_)
  exact Sr.at_ aq _ _ _ _ rfl
 ·repeat (first|exact Gr.refl _|refine Gr.drewN ?_ _|refine Gr.drew ?_|refine Gr.alloc ?_ _)
theorem WW:jh 58 rd r1 r2 im a 1 [int i64 5,int i64 0,int i64 0,int i64 0,int .u32 0]:=fun w T=>by
 go_enter func140,ntmps140;go_wp2_with fail;refine(aA ab _).mono ?_;rintro e w0 ⟨rfl,rfl⟩;go_wp2_with fail;refine(aA ab _).mono ?_;rintro e w1 ⟨rfl,rfl⟩;go_wp2_with fail;refine(aA ab _).mono ?_;rintro e w2 ⟨rfl,rfl⟩;go_wp2_with fail;refine(aA ab _).mono ?_;rintro e w3 ⟨rfl,rfl⟩;go_wp2_with fail;refine(aA ab _).mono ?_;rintro e w4 ⟨rfl,rfl⟩;go_wp2_with fail;refine(aA ab _).mono ?_;rintro e w5 ⟨rfl,rfl⟩;go_wp2_with fail;refine(dC _ _).mono ?_;rintro e w9 ⟨rfl,rfl⟩;go_wp2_with fail;go_ret;refine⟨_,rfl,?_,?_⟩
 ·exact Sr.at_ aq _ _ _ _ rfl
 ·exact Gr.alloc br _
theorem WX:jh 59 rd r1 r2 im a 1 [int i64 6,int i64 0,int i64 0,int i64 0,int .u32 0]:=fun w T=>by
 go_enter func140,ntmps140;go_wp2_with fail;refine(aA ab _).mono ?_;rintro e w0 ⟨rfl,rfl⟩;go_wp2_with fail;refine(aA ab _).mono ?_;rintro e w1 ⟨rfl,rfl⟩;go_wp2_with fail;refine(aA ab _).mono ?_;rintro e w2 ⟨rfl,rfl⟩;go_wp2_with fail;refine(aA ab _).mono ?_;rintro e w3 ⟨rfl,rfl⟩;go_wp2_with fail;refine(aA ab _).mono ?_;rintro e w4 ⟨rfl,rfl⟩;go_wp2_with fail;refine(aA ab _).mono ?_;rintro e w5 ⟨rfl,rfl⟩;go_wp2_with fail;refine(dC _ _).mono ?_;rintro e w9 ⟨rfl,rfl⟩;go_wp2_with fail;go_ret;refine⟨_,rfl,?_,?_⟩
 ·exact Sr.at_ aq _ _ _ _ rfl
 ·exact Gr.alloc br _
theorem WY:jh 57 rd r1 r2 im a 0 []:=fun w T=>by go_enter func140,ntmps140;go_wp2_with fail;refine(aA ab _).mono ?_;rintro e w0 ⟨rfl,rfl⟩;go_wp2_with fail;refine(aA ab _).mono ?_;rintro e w1 ⟨rfl,rfl⟩;go_wp2_with fail;refine(aA ab _).mono ?_;rintro e w2 ⟨rfl,rfl⟩;go_wp2_with fail;refine(aA ab _).mono ?_;rintro e w3 ⟨rfl,rfl⟩;go_wp2_with fail;refine(aA ab _).mono ?_;rintro e w4 ⟨rfl,rfl⟩;go_wp2_with fail;refine(aA ab _).mono ?_;rintro e w5 ⟨rfl,rfl⟩;go_wp2_with fail;go_ret;exact⟨_,rfl,.inl ⟨rfl,rfl,rfl⟩,(Gr.refl _).alloc _⟩
end
theorem QB {a}{i}(h:i.In):jh i.op i.rd i.r1 i.r2 i.im a (EJ a i).length (uA (EJ a i)):=by
 obtain⟨op,rd,r1,r2,im⟩:=i;obtain⟨o1,o2,d0,d1,a0,a1,b0,b1⟩:=h;simp only at o1 o2 d0 d1 a0 a1 b0 b1;unfold EJ;simp only;by_cases h0:op=1
 ·rw[awn h0];subst h0;exact abH
 rw[awm h0];by_cases h1:op=2
 ·rw[awn h1];subst h1;exact abI
 rw[awm h1];by_cases h2:op=3
 ·rw[awn h2];subst h2;exact abJ
 rw[awm h2];by_cases h3:op=4
 ·rw[awn h3];subst h3;exact abK
 rw[awm h3];by_cases h4:5<=op/\op<=10
 ·rw[awn h4];exact abL h4
 rw[awm h4];by_cases h5:11<=op/\op<=15
 ·rw[awn h5];exact WR h5
 rw[awm h5];by_cases h6:16<=op/\op<=18
 ·rw[awn h6];exact WT h6
 rw[awm h6];by_cases h7:op=19/\(r1=0\/rd=0)
 ·rw[awn h7];obtain⟨rfl,hh⟩:=h7;by_cases hr:r1=0
  ·subst hr;exact Qx
  ·have:rd=0:=by rcases hh with hh|hh;exact absurd hh hr;exact hh
   subst this;exact Qy (by simpa using hr)
 rw[awm h7];by_cases h8:19<=op/\op<=27
 ·rw[awn h8];have hc:op=19\/op=20\/op=21\/op=22\/op=23\/op=24\/op=25\/op=26\/op=27:=ab;rcases hc with rfl|rfl|rfl|rfl|rfl|rfl|rfl|rfl|rfl
  ·have hz:¬(r1=0\/rd=0):=fun hq=>h7 ⟨rfl,hq⟩
   exact Qz (by simp;exact fun q=>hz (.inl q)) (by simp;exact fun q=>hz (.inr q))
  ·exact nJ (k:=20) an an rfl
  ·exact nJ (k:=21) an an rfl
  ·exact nJ (k:=22) an an rfl
  ·exact nJ (k:=23) an an rfl
  ·exact nJ (k:=24) an an rfl
  ·exact nJ (k:=25) an an rfl
  ·exact nJ (k:=26) an an rfl
  ·exact nJ (k:=27) an an rfl
 rw[awm h8];by_cases h9:28<=op/\op<=45
 ·rw[awn h9];exact WU h9
 rw[awm h9];by_cases h10:46<=op/\op<=56
 ·rw[awn h10];exact WV h10
 rw[awm h10];by_cases h11:op=58
 ·rw[awn h11];subst h11;exact WW
 rw[awm h11];by_cases h12:op=59
 ·rw[awn h12];subst h12;exact WX
 rw[awm h12];obtain rfl:op=57:=ab;exact WY
end Ts
namespace Dw
def wI (f u:Int):Int:=if f=1 then u/4096%1048576*4096 else if f=2 then u/1048576%2*2147483648+u/4096%256*4096+u/2048%2*1048576+u/2%1024*2097152 else if f=3 then u%4096*1048576 else if f=4 then u%32*1048576 else if f=5 then u/4096%2*2147483648+u/2048%2*128+u/32%64*33554432+u/2%16*256 else if f=6 then u/32%128*33554432+u%32*128 else if f=8 then u%4*33554432 else 0
def dD (f:Int):Prop:=∀(n:Int) (w:World),oV w -> -2147483648<=n->n<2147483648->Calls prog 93 #[int i64 f,int i32 n] w fun e w'=>e=returned (int .u32 (wI f (n%4294967296)))/\Gr w w'
def pW (k j:Nat):Int×Int×Int:=(pV k (3*j+1),pV k (3*j+2),pV k (3*j))
theorem kW {k:Nat}(hk:k<10)(n)(w)(T:oV w)(h0 : -2147483648<=n)(h1:n<2147483648):Calls prog 93 #[int i64 k,int i32 n] w fun e w'=>e=returned (int .u32 (mJ (n%4294967296) (pW k) 4))/\Gr w w':=by
 have u0:0<=n%4294967296:=ab;have u1:n%4294967296<4294967296:=ab;have HX:Hid (∀j,j<4->∀w:World,_):=fun j h w=>Zj (pV k) w j h
 have HR:=IQ hk T;have hsz:(prog.info? 101).map (·.size)=some (twelve (pV k)).toList.length:=al;have hb:=Pz k hk;have HP:Hid (∀j,mJ (n%4294967296) (pW k) (j+1)=bits .or .u32 (mJ (n%4294967296) (pW k) j) ((n%4294967296)/2 ^ (pV k (3*j+1)).toNat%2 ^ (pV k (3*j+2)).toNat*2 ^ (pV k (3*j)).toNat%4294967296)):=fun j=>rfl
 go_enter func93,ntmps93;go_wp2_with (refine awU rfl 101 _ rfl 0 (k*17+4) rfl (twelve (pV k)).toList _ HR underlying101 rfl hsz ?_);go_loopw [5,12] (fun s i wr=>Gr w wr/\∃j:Nat,j<=4/\i=int i64 j/\s=int .u32 (mJ (n%4294967296) (pW k) j)) (fun _ i _=>4-(intOf i).toNat)
 case atStart=>exact⟨Gr.refl _,0,arQ _,rfl,rfl⟩
 case round=>
  obtain⟨g,j,hj,rfl,rfl⟩:=hrel;by_cases hlt:j<4
  ·have x:=HX j hlt;obtain⟨b0,b1⟩:=hb (3*j);obtain⟨d0,d1⟩:=hb (3*j+1);obtain⟨e0,e1⟩:=hb (3*j+2);have HO:=kH (HP j);generalize mJ (n%4294967296) (pW k) j=s at *
   generalize pV k (3*j)=qa at *
   generalize pV k (3*j+1)=qb at *
   generalize pV k (3*j+2)=qc at *
   obtain⟨y,hy⟩:∃y,(n%4294967296)/2^qb.toNat%2^qc.toNat=y:=⟨_,rfl⟩;rw[hy]at HO;have HY:=kH hy;go_wp2;refine awV al al ?_;iterate 7 go_big_quiet_step (fail)
   go_big_quiet_step (exact Calls.quiet_of (mX (n%4294967296) qb qc y _ u0 u1 d0 d1 e0 e1 HY));iterate 5 go_big_quiet_step (fail)
   refine axa ?_;intro _ h;obtain⟨nq,h2⟩:=h;subst h2;go_wp2;go_roundw
   case rel=>exact⟨(g.alloc _ _).drewN _,j+1,ab,by go_num,by rw[HO.out]⟩
   case measure=>simp[intOf];omega
  ·have ej:j=4:=ab;subst ej;go_wp2;go_ret;exact⟨rfl,g⟩
theorem z8:dD 0:=by
 intro n w T h0 h1;refine(kW (k:=0) ab n w T h0 h1).mono fun e w' ⟨he,hg⟩=>⟨he.trans (av ?_),hg⟩
 have u0:0<=n%4294967296:=ab;have u1:n%4294967296<4294967296:=ab;generalize n%4294967296=u at *
 have e0:mJ u (pW 0) 0=0:=rfl;have e1:=aC e0 ⟨ab,ab⟩ rfl;have e2:=aC e1 ⟨ab,ab⟩ rfl;have e3:=aC e2 ⟨ab,ab⟩ rfl;have e4:=aC e3 ⟨ab,ab⟩ rfl;rw[e4];show _=0
 omega
theorem Aa:dD 1:=by
 intro n w T h0 h1;refine(kW (k:=1) ab n w T h0 h1).mono fun e w' ⟨he,hg⟩=>⟨he.trans (av ?_),hg⟩
 have u0:0<=n%4294967296:=ab;have u1:n%4294967296<4294967296:=ab;generalize n%4294967296=u at *
 have e0:mJ u (pW 1) 0=0:=rfl;have e1:=bG e0 12 20 12 rfl ⟨ab,ab⟩ ab an an an;have e2:=aC e1 ⟨ab,ab⟩ rfl;have e3:=aC e2 ⟨ab,ab⟩ rfl;have e4:=aC e3 ⟨ab,ab⟩ rfl;rw[e4];show _=u/4096%1048576*4096
 omega
theorem Ab:dD 2:=by
 intro n w T h0 h1;refine(kW (k:=2) ab n w T h0 h1).mono fun e w' ⟨he,hg⟩=>⟨he.trans (av ?_),hg⟩
 have u0:0<=n%4294967296:=ab;have u1:n%4294967296<4294967296:=ab;generalize n%4294967296=u at *
 have e0:mJ u (pW 2) 0=0:=rfl;have e1:=bG e0 20 1 31 rfl ⟨ab,ab⟩ ab an an an;have e2:=bG e1 12 8 12 rfl ⟨ab,ab⟩ ab an an an;have e3:=bG e2 11 1 20 rfl ⟨ab,ab⟩ ab an an an;have e4:=bG e3 1 10 21 rfl ⟨ab,ab⟩ (by have:=z_2 (u/2^20%2^1) (u/2^12%2^8) (u/2^11%2^1) ab ab ab ab ab ab;refine axd ?_ this;congr 2;omega) an an an;rw[e4];show _=u/1048576%2*2147483648+u/4096%256*4096+u/2048%2*1048576+u/2%1024*2097152
 omega
theorem Ac:dD 3:=by
 intro n w T h0 h1;refine(kW (k:=3) ab n w T h0 h1).mono fun e w' ⟨he,hg⟩=>⟨he.trans (av ?_),hg⟩
 have u0:0<=n%4294967296:=ab;have u1:n%4294967296<4294967296:=ab;generalize n%4294967296=u at *
 have e0:mJ u (pW 3) 0=0:=rfl;have e1:=bG e0 0 12 20 rfl ⟨ab,ab⟩ ab an an an;have e2:=aC e1 ⟨ab,ab⟩ rfl;have e3:=aC e2 ⟨ab,ab⟩ rfl;have e4:=aC e3 ⟨ab,ab⟩ rfl;rw[e4];show _=u%4096*1048576
 omega
theorem Ad:dD 4:=by
 intro n w T h0 h1;refine(kW (k:=4) ab n w T h0 h1).mono fun e w' ⟨he,hg⟩=>⟨he.trans (av ?_),hg⟩
 have u0:0<=n%4294967296:=ab;have u1:n%4294967296<4294967296:=ab;generalize n%4294967296=u at *
 have e0:mJ u (pW 4) 0=0:=rfl;have e1:=bG e0 0 5 20 rfl ⟨ab,ab⟩ ab an an an;have e2:=aC e1 ⟨ab,ab⟩ rfl;have e3:=aC e2 ⟨ab,ab⟩ rfl;have e4:=aC e3 ⟨ab,ab⟩ rfl;rw[e4];show _=u%32*1048576
 omega
theorem Ae:dD 5:=by
 intro n w T h0 h1;refine(kW (k:=5) ab n w T h0 h1).mono fun e w' ⟨he,hg⟩=>⟨he.trans (av ?_),hg⟩
 have u0:0<=n%4294967296:=ab;have u1:n%4294967296<4294967296:=ab;generalize n%4294967296=u at *
 have e0:mJ u (pW 5) 0=0:=rfl;have e1:=bG e0 12 1 31 rfl ⟨ab,ab⟩ ab an an an;have e2:=bG e1 11 1 7 rfl ⟨ab,ab⟩ ab an an an;have e3:=bG e2 5 6 25 rfl ⟨ab,ab⟩ ab an an an;have e4:=bG e3 1 4 8 rfl ⟨ab,ab⟩ (by have:=z_5 (u/2^12%2^1) (u/2^11%2^1) (u/2^5%2^6) ab ab ab ab ab ab;refine axd ?_ this;congr 2;omega) an an an;rw[e4];show _=u/4096%2*2147483648+u/2048%2*128+u/32%64*33554432+u/2%16*256
 omega
theorem Af:dD 6:=by
 intro n w T h0 h1;refine(kW (k:=6) ab n w T h0 h1).mono fun e w' ⟨he,hg⟩=>⟨he.trans (av ?_),hg⟩
 have u0:0<=n%4294967296:=ab;have u1:n%4294967296<4294967296:=ab;generalize n%4294967296=u at *
 have e0:mJ u (pW 6) 0=0:=rfl;have e1:=bG e0 5 7 25 rfl ⟨ab,ab⟩ ab an an an;have e2:=bG e1 0 5 7 rfl ⟨ab,ab⟩ ab an an an;have e3:=aC e2 ⟨ab,ab⟩ rfl;have e4:=aC e3 ⟨ab,ab⟩ rfl;rw[e4];show _=u/32%128*33554432+u%32*128
 omega
theorem Ag:dD 7:=by
 intro n w T h0 h1;refine(kW (k:=7) ab n w T h0 h1).mono fun e w' ⟨he,hg⟩=>⟨he.trans (av ?_),hg⟩
 have u0:0<=n%4294967296:=ab;have u1:n%4294967296<4294967296:=ab;generalize n%4294967296=u at *
 have e0:mJ u (pW 7) 0=0:=rfl;have e1:=aC e0 ⟨ab,ab⟩ rfl;have e2:=aC e1 ⟨ab,ab⟩ rfl;have e3:=aC e2 ⟨ab,ab⟩ rfl;have e4:=aC e3 ⟨ab,ab⟩ rfl;rw[e4];show _=0
 omega
theorem Ah:dD 8:=by
 intro n w T h0 h1;refine(kW (k:=8) ab n w T h0 h1).mono fun e w' ⟨he,hg⟩=>⟨he.trans (av ?_),hg⟩
 have u0:0<=n%4294967296:=ab;have u1:n%4294967296<4294967296:=ab;generalize n%4294967296=u at *
 have e0:mJ u (pW 8) 0=0:=rfl;have e1:=bG e0 0 2 25 rfl ⟨ab,ab⟩ ab an an an;have e2:=aC e1 ⟨ab,ab⟩ rfl;have e3:=aC e2 ⟨ab,ab⟩ rfl;have e4:=aC e3 ⟨ab,ab⟩ rfl;rw[e4];show _=u%4*33554432
 omega
theorem Ai:dD 9:=by
 intro n w T h0 h1;refine(kW (k:=9) ab n w T h0 h1).mono fun e w' ⟨he,hg⟩=>⟨he.trans (av ?_),hg⟩
 have u0:0<=n%4294967296:=ab;have u1:n%4294967296<4294967296:=ab;generalize n%4294967296=u at *
 have e0:mJ u (pW 9) 0=0:=rfl;have e1:=aC e0 ⟨ab,ab⟩ rfl;have e2:=aC e1 ⟨ab,ab⟩ rfl;have e3:=aC e2 ⟨ab,ab⟩ rfl;have e4:=aC e3 ⟨ab,ab⟩ rfl;rw[e4];show _=0
 omega
theorem wm (f)(h0:0<=f)(h1:f<=9):dD f:=by
 have h:f=0\/f=1\/f=2\/f=3\/f=4\/f=5\/f=6\/f=7\/f=8\/f=9:=ab;rcases h with rfl|rfl|rfl|rfl|rfl|rfl|rfl|rfl|rfl|rfl
 ·exact z8
 ·exact Aa
 ·exact Ab
 ·exact Ac
 ·exact Ad
 ·exact Ae
 ·exact Af
 ·exact Ag
 ·exact Ah
 ·exact Ai
end Dw
namespace Dw
def Wv (op rd bQ cu j6:Int):Int:=bits .or .u32 (bits .or .u32 (Dc.bP op) (bits .or .u32 (bits .or .u32 (rd%4294967296*128%4294967296) (bQ%4294967296*32768%4294967296)) (cu%4294967296*1048576%4294967296))) (wI (Dc.aM op) (j6%4294967296))
theorem o9 (op rd bQ cu j6):0<=Wv op rd bQ cu j6/\Wv op rd bQ cu j6<4294967296:=by
 have h:(Lit.int .u32 (Wv op rd bQ cu j6)).wf=true:=wf_bits _ _ _ _;have h':0<=Wv op rd bQ cu j6/\Wv op rd bQ cu j6<=4294967295:=by simpa[Lit.wf,IntKind.min,IntKind.max,IntKind.signed,IntKind.bits]using h
 omega
theorem kL (op rd bQ cu j6)(w)(T:oV w)(h0 : -2147483648<=j6)(h1:j6<2147483648):Calls prog 65 #[dm op rd bQ cu j6] w fun e w'=>e=returned (int .u32 (Wv op rd bQ cu j6))/\Gr w w':=by unfold dm;go_enter func65,ntmps65;go_wp2_with fail;refine(qN op _ (T.of ((Gr.refl _).alloc _ _))).mono ?_;rintro e w1 ⟨rfl,g⟩;have hfb:=Dc.NZ op;have T1:=(T.of ((Gr.refl _).alloc _ _)).of g;obtain⟨f1,f2,f3⟩:=dB g;have r0:=f1 0 _ rfl;have r1:=f1 1 _ rfl;have r2:=f1 2 _ rfl;have r3:=f1 3 _ rfl;have r4:=f1 4 _ rfl;have G1:=kH (((Gr.refl _).alloc _ _).trans g);have W1:=kH (wm (Dc.aM op) hfb.1 hfb.2);go_wp2_with fail;refine(W1 j6 _ T1 h0 h1).mono ?_;rintro e w2 ⟨rfl,g2⟩;go_wp2_with fail;go_ret;exact⟨rfl,G1.trans g2⟩
def Same (op rd bQ cu j6 v:Int):Prop:=gI v=true/\Dc.aO v=op/\Dc.jd (Dc.aM (Dc.aO v)) v=rd/\Dc.dh (Dc.aM (Dc.aO v)) v=bQ/\Dc.cz (Dc.aM (Dc.aO v)) v=cu/\Dc.bU (Dc.aM (Dc.aO v)) v=j6
theorem LX (op rd bQ cu j6)(w)(T:oV w)(h0 : -2147483648<=j6)(h1:j6<2147483648)(hn:¬Same op rd bQ cu j6 (Wv op rd bQ cu j6)):Calls prog 31 #[dm op rd bQ cu j6] w fun e w'=>e=returned (tuple #[int .u32 0,int i64 2])/\Gr w w':=by
 have hb:=o9 op rd bQ cu j6;have HW:=fun w T=>kL op rd bQ cu j6 w T h0 h1
 have HD:=fun w T=>gz (Wv op rd bQ cu j6) w T hb.1 hb.2
 generalize Wv op rd bQ cu j6=v at *
 unfold kv at HD;unfold Same at hn;generalize Dc.jd (Dc.aM (Dc.aO v)) v=x1 at *
 generalize Dc.dh (Dc.aM (Dc.aO v)) v=x2 at *
 generalize Dc.cz (Dc.aM (Dc.aO v)) v=x3 at *
 generalize Dc.bU (Dc.aM (Dc.aO v)) v=x4 at *
 generalize Dc.aO v=x0 at *
 generalize gI v=b at *
 have N:=kH hn;unfold dm at *
 have HW':=kH HW;have HD':=kH HD;go_enter func31,ntmps31;go_wp2_with fail;refine(HW' _ (T.of ((Gr.refl _).alloc _ _))).mono ?_;rintro e w1 ⟨rfl,g⟩;have T1:=(T.of ((Gr.refl _).alloc _ _)).of g;have G1:=kH g;go_wp2_with fail;refine(HD' _ T1).mono ?_;rintro e w2 ⟨rfl,g2⟩;have g:=G1.trans g2;obtain⟨f1,f2,f3⟩:=dB g;have r0:=f1 0 _ rfl;have r1:=f1 1 _ rfl;have r2:=f1 2 _ rfl;have r3:=f1 3 _ rfl;have r4:=f1 4 _ rfl;have G2:=kH (((Gr.refl _).alloc _ _).trans g);cases b
 ·go_wp2_with fail
  all_goals
   go_ret2;exact⟨rfl,G2.alloc _ _⟩
 ·go_wp2_with fail
  all_goals
   first
    |(go_ret2;exact⟨rfl,G2.alloc _ _⟩)
    |exact(N ⟨(by first|rfl|trivial|assumption),(by first|rfl|trivial|assumption),(by first|rfl|trivial|assumption),(by first|rfl|trivial|assumption),(by first|rfl|trivial|assumption),(by first|rfl|trivial|assumption)⟩).elim
theorem wu (op rd bQ cu j6)(w)(T:oV w)(h0 : -2147483648<=j6)(h1:j6<2147483648)(hy:Same op rd bQ cu j6 (Wv op rd bQ cu j6)):Calls prog 31 #[dm op rd bQ cu j6] w fun e w'=>e=returned (tuple #[int .u32 (Wv op rd bQ cu j6),int i64 0])/\Gr w w':=by
 have hb:=o9 op rd bQ cu j6;have HW:=fun w T=>kL op rd bQ cu j6 w T h0 h1
 have HD:=fun w T=>gz (Wv op rd bQ cu j6) w T hb.1 hb.2
 generalize Wv op rd bQ cu j6=v at *
 unfold kv at HD;unfold Same at hy;generalize Dc.jd (Dc.aM (Dc.aO v)) v=x1 at *
 generalize Dc.dh (Dc.aM (Dc.aO v)) v=x2 at *
 generalize Dc.cz (Dc.aM (Dc.aO v)) v=x3 at *
 generalize Dc.bU (Dc.aM (Dc.aO v)) v=x4 at *
 generalize Dc.aO v=x0 at *
 generalize gI v=b at *
 obtain⟨hb1,e0,e1,e2,e3,e4⟩:=hy;subst hb1;rw[e0,e1,e2,e3,e4]at HD;unfold dm at *
 have HW':=kH HW;have HD':=kH HD;go_enter func31,ntmps31;go_wp2_with fail;refine(HW' _ (T.of ((Gr.refl _).alloc _ _))).mono ?_;rintro e w1 ⟨rfl,g⟩;have T1:=(T.of ((Gr.refl _).alloc _ _)).of g;have G1:=kH g;go_wp2_with fail;refine(HD' _ T1).mono ?_;rintro e w2 ⟨rfl,g2⟩;have g:=G1.trans g2;obtain⟨f1,f2,f3⟩:=dB g;have r0:=f1 0 _ rfl;have r1:=f1 1 _ rfl;have r2:=f1 2 _ rfl;have r3:=f1 3 _ rfl;have r4:=f1 4 _ rfl;have G2:=kH (((Gr.refl _).alloc _ _).trans g);go_wp2_with fail;go_ret2;exact⟨rfl,G2.alloc _ _⟩
end Dw
namespace Ts
variable[Inhabited Hc.bH]
open Mm Hc Mi Bk
open Hh hiding Rn
variable{sn:Nat}{is:List Iv}
def Iv.Sound (i:Iv):Prop:=Dw.Same i.op i.rd i.r1 i.r2 i.im (Dw.Wv i.op i.rd i.r1 i.r2 i.im)
theorem Iv.Sound.fits {i:Iv}(h:i.Sound):i.In:=by
 have hv:=Dw.o9 i.op i.rd i.r1 i.r2 i.im;obtain⟨h0,h1,h2,h3,h4,h5⟩:=h;have hb:=Re.zK hv.1 hv.2;have a:=ym (Dc.aM (Dc.aO (Dw.Wv i.op i.rd i.r1 i.r2 i.im))) (Dw.Wv i.op i.rd i.r1 i.r2 i.im);have b:=Pq (Dc.aM (Dc.aO (Dw.Wv i.op i.rd i.r1 i.r2 i.im))) (Dw.Wv i.op i.rd i.r1 i.r2 i.im);have c:=Pt (Dc.aM (Dc.aO (Dw.Wv i.op i.rd i.r1 i.r2 i.im))) (Dw.Wv i.op i.rd i.r1 i.r2 i.im);rw[h2]at a;rw[h3]at b;rw[h4]at c;have hne:¬Dc.aO (Dw.Wv i.op i.rd i.r1 i.r2 i.im)=0:=by unfold Dw.gI at h0;simpa using h0
 rw[h1]at hb hne;exact⟨ab,hb.2,a.1,a.2,b.1,b.2,c.1,c.2⟩
theorem WZ (T:Dw.oV w):∀W,Gr w W->Dw.oV W:=fun W G=>⟨fun i v e=>(G.cell _ (by exact Dw.lt_of_cell (T.shapes i v e))).trans (T.shapes i v e),fun i v e=>(G.cell _ (by exact Dw.lt_of_cell (T.uppers i v e))).trans (T.uppers i v e)⟩
theorem LY (pc)(sc)(I:Is w sa sn is)(T:Dw.oV w)(h:sn<=16):Calls prog 139 #[agg #[int .u32 pc,slice sa sn sc]] w fun e w'=>∃b,e=returned (.bool b)/\(b=true↔∀i∈is,i.Sound)/\Gr w w':=by
 have HI:Hid (∀W:World,Gr w W->_):=fun W G=>I.of G
 have HT:=kH (WZ T);have HL:=kH I.len;have HK:=kH I.ok;go_enter func139,ntmps139;go_wp2_with fail;go_loopw [14] (fun i wr=>∃k:Nat,k<=sn/\i=int i64 k/\(∀j c,j<k->is[j]?=some c->c.Sound)/\Gr w wr) (fun i _=>sn-(intOf i).toNat)
 case atStart=>exact⟨0,arQ _,rfl,fun j c hj=>absurd hj ab,(Gr.refl _).alloc _⟩
 case round=>
  obtain⟨k,hk,rfl,hall,G⟩:=hrel;have HA:=kH hall;have HG:=kH G;by_cases hlt:k<sn
  ·obtain⟨c,hc⟩:∃c,is[k]?=some c:=⟨_,arq (by rw[HL.out];exact hlt)⟩;obtain⟨b,o,rfl,hb,hcell⟩:=(HI wr HG).spot ab;obtain⟨p0,p1,p2,p3,p4⟩:=hcell k c hc;have hmem:=arE hc;have ok:=HK c hmem;have hi:=ok.im;by_cases hs:c.Sound
   ·have E:Hid (∀W:World,Gr w W->Calls prog 31 #[agg #[int i64 c.op,int i64 c.rd,int i64 c.r1,int i64 c.r2,int i32 c.im]] W fun e w'=>∃v,e=returned (tuple #[int .u32 v,int i64 0])/\Gr W w'):=fun W G=>(Dw.wu c.op c.rd c.r1 c.r2 c.im W (HT W G) hi.1 ab hs).mono fun e w' ⟨h1,h2⟩=>⟨_,h1,h2.1⟩
    have HN:Hid (∀j c,j<k+1->is[j]?=some c->c.Sound):=fun j d hj hd=>by
     by_cases e:j=k
     ·subst e;rw[hc]at hd;injection hd with hd;subst hd;exact hs
     ·exact HA j d ab hd
    obtain⟨op,rd,r1,r2,im⟩:=c;simp only at *
    go_wp2_with fail;refine(E _ (by repeat (first|exact HG|refine Gr.alloc ?_ _))).mono ?_;rintro e w1 ⟨v,rfl,G1⟩;have aU:Hid (Gr w w1):=Gr.trans (by repeat (first|exact HG|refine Gr.alloc ?_ _)) G1;go_wp2_with fail;go_roundw
    case rel=>exact⟨k+1,ab,by go_num,HN,aU⟩
    case measure=>simp[intOf];omega
   ·have E:Hid (∀W:World,Gr w W->Calls prog 31 #[agg #[int i64 c.op,int i64 c.rd,int i64 c.r1,int i64 c.r2,int i32 c.im]] W fun e w'=>e=returned (tuple #[int .u32 0,int i64 2])/\Gr W w'):=fun W G=>(Dw.LX c.op c.rd c.r1 c.r2 c.im W (HT W G) hi.1 ab hs).mono fun e w' ⟨h1,h2⟩=>⟨h1,h2.1⟩
    have HN:Hid (¬∀i∈is,_):=fun q=>hs (q c hmem)
    obtain⟨op,rd,r1,r2,im⟩:=c;simp only at *
    go_wp2_with fail;refine(E _ (by repeat (first|exact HG|refine Gr.alloc ?_ _))).mono ?_;rintro e w1 ⟨rfl,G1⟩;have aU:Hid (Gr w w1):=Gr.trans (by repeat (first|exact HG|refine Gr.alloc ?_ _)) G1;go_wp2_with fail;go_ret;exact⟨false,rfl,⟨fun q=>(by cases q),fun q=>absurd q HN⟩,aU⟩
  ·have ek:k=sn:=ab;have HN:Hid (∀i∈is,i.Sound):=fun i hm=>by
    obtain⟨j,hj⟩:=asv.1 hm;have:j<is.length:=(arw.1 hj).1;exact HA j i (by rw[HL.out]at this;omega) hj
   go_wp2_with fail;go_ret;exact⟨true,rfl,⟨fun _=>HN,fun _=>rfl⟩,HG⟩
theorem sQ (hO:w.ownsRow base e sz O n xs)(q:w.grownBy w' O.ownBlock)(ht:t≠e)(hk:w.heap[k]?=some (cells o t f)):w'.heap[k]?=some (cells o t f):=
 (q.block k (gs hk).1 (fun h=>by
  rcases hO.2 with⟨h0,_⟩|⟨g',cap,cur,hv,_,hg,_⟩
  ·rw[h0]at h;cases h
  ·rw[hv]at h;injection h with h;exact aa hk hg ht h)).trans hk
theorem bS (g:Gr w w')(h:w.heap[k]?=some x):w'.heap[k]?=some x:=by rw[axk g k (gs h).1];exact h
theorem afJ:(prog.info? 235).map (fun i=>(i.zero,i.size,i.bytes))=some (some (agg #[int i64 0,int i64 0,int i64 0,int i64 0,int .u32 0]),5,40):=al
theorem QC (x0 x1 x2 x3 x4):∀u∈([int i64 x0,int i64 x1,int i64 x2,int i64 x3,int .u32 x4]:List Value),u.oneCell'=true:=by intro u hu;simp only[arG,arN,awQ]at hu;rcases hu with rfl|rfl|rfl|rfl|rfl<;>rfl
theorem jO {α:Type}{l:List α}{c:α}(h:l[k]?=some c):l.take (k+1)=l.take k++[c]:=by obtain⟨hk,rfl⟩:=arw.1 h;rw[List.take_succ_eq_append_getElem hk]
theorem Xa (pc)(sc)(I:Is w sa sn is)(T:Dw.oV w)(Q:Tq w)(h:sn<=16)(hs:∀i∈is,i.Sound):Calls prog 110 #[agg #[int .u32 pc,slice sa sn sc]] w fun e w'=>∃ca cn cc,e=returned (slice ca cn cc)/\Ct w' ca cn (aY pc is 0)/\Gr w w':=by
 have HI:Hid (∀W:World,Gr w W->Is W sa sn is):=fun W G=>I.of G
 have HL:Hid (is.length=sn):=I.len;have HS:Hid (∀W:World,Gr w W->Calls prog 139 #[agg #[int .u32 pc,slice sa sn sc]] W fun e w'=>e=returned (.bool true)/\Gr W w'):=fun W G=>(LY pc sc (I.of G) (WZ T W G) h).mono fun e w' ⟨b,h1,h2,h3⟩=>⟨by rw[h1,h2.2 hs],h3⟩
 have HM:Hid (∀(k:Nat) (c:Iv),is[k]?=some c->∀W:World,Gr w W->Calls prog 140 #[agg #[int i64 c.op,int i64 c.rd,int i64 c.r1,int i64 c.r2,int i32 c.im],int .u32 ((pc+4*(k:Int))%4294967296)] W fun e w'=>∃v,e=returned v/\Sr w' v (EJ (at4 pc k) c).length 5 (uA (EJ (at4 pc k) c))/\Gr W w'):=fun k c hc W G=>QB (a:=at4 pc k) (hs c (arE hc)).fits W (Q.of G)
 have HF:Hid (∀k,(aY pc (is.take k) 0).length<=4*k):=fun k=>by
  have:=(jR pc (is.take k) 0 (fun i hi=>(hs i (asP hi)).fits)).2;have hl:(is.take k).length<=k:=by rw[ase];omega
  omega
 have HFm:Hid (∀(k:Nat) (c:Iv),is[k]?=some c->(EJ (at4 pc k) c).length<=3):=fun k c hc=>(IU (hs c (arE hc)).fits).2
 have HE:=kH ((jR pc is 0 (fun i hi=>(hs i hi).fits)).1);have HC:Hid (∀(k:Nat) (c:Iv),is[k]?=some c->aY pc (is.take (k+1)) 0=aY pc (is.take k) 0++(⟨1,0,0,0,at4 pc k⟩::EJ (at4 pc k) c)):=fun k c hc=>by
  have hk:=(arw.1 hc).1;rw[jO hc,vJ,arH,ase,att ab]
 have HZ:Hid (aY pc (is.take sn) 0=aY pc is 0):=by rw[Hid,<-HL.out,ash]
 obtain⟨i0,hi,hz0,hz1,hz2⟩:=awS afJ;go_enter func110,ntmps110;go_wp2_with fail;refine(HS _ br).mono ?_;rintro e w1 ⟨rfl,G1⟩;have HB1:=kH (bS G1 (awk w _));have aU:=kH (br.trans G1);have q1:w1.cell? ⟨w.heap.size,1,none⟩=some (slice sa sn sc):=awl _ _ _ _ _ _ HB1;go_wp2_with fail;go_loopw [13,3] (fun i cd wr=>∃(k:Nat) (a:Option Addr) (c:Nat),k<=sn/\i=int i64 k/\cd=slice a (aY pc (is.take k) 0).length c/\wr.ownsRow (w.heap.size+1) 235 5 (slice a (aY pc (is.take k) 0).length c) (aY pc (is.take k) 0).length (uA (aY pc (is.take k) 0))/\wr.heap[w.heap.size]?=some (cells #[int .u32 pc,slice sa sn sc] 64 (0,0))/\Gr w wr) (fun i _ _=>sn-(intOf i).toNat)
 case atStart=>exact⟨0,none,0,arQ _,rfl,rfl,awG _ _ _ _,HB1,aU⟩
 case round=>
  obtain⟨k,a,c0,hk,rfl,rfl,O,B,G⟩:=hrel;have HO:=kH O;have HB:=kH B;have HG:=kH G;have anB:=(arz.1 B).1;have hlen:=HF k;by_cases hlt:k<sn
  ·obtain⟨c,hc⟩:∃c,is[k]?=some c:=⟨_,arq (by rw[HL.out];exact hlt)⟩;obtain⟨b,o,rfl,hb,hcell⟩:=(HI wr HG).spot ab;obtain⟨p0,p1,p2,p3,p4⟩:=hcell k c hc;have UC:Hid _:=HM k c hc;have hm3:=HFm k c hc;have HCk:Hid _:=HC k c hc;generalize aY pc (is.take k) 0=cv at *
   generalize EJ (at4 pc k) c=md at *
   obtain⟨op,rd,r1,r2,im⟩:=c;simp only at *
   have LG:=kH UC;have afK:=kH HCk;have q0:wr.cell? ⟨w.heap.size,0,none⟩=some (int .u32 pc):=awl _ _ _ _ _ _ HB;have EK:Hid ((aY pc (is.take (k+1)) 0).length=cv.length+1+md.length):=by rw[Hid,afK.out];simp;omega
   have HV1:Hid (uA (aY pc (is.take (k+1)) 0)=(uA cv++[int i64 1,int i64 0,int i64 0,int i64 0,int .u32 ((pc+4*(k:Int))%4294967296)])++uA md):=by rw[Hid,afK.out,WE];simp[uA,xG,at4,Wd.lo]
   have HK:=kH hlt;generalize hcn:cv.length=cn at *
   go_wp2_with (at_builtin;refine lN rfl (tmp 24) (tmp 27) rfl underlying177 hi hz0 hz1 hz2 rfl an (base:=w.heap.size+1) (n:=cn) (m:=1) (v:=slice a cn c0) (vx:=slice (some ⟨wr.heap.size+1,0,none⟩) 1 1) (olds:=uA cv) (news:=[int i64 1,int i64 0,int i64 0,int i64 0,int .u32 ((pc+4*(k:Int))%4294967296)]) rfl rfl (aD HO (by repeat (first|exact Gr.refl wr|refine Gr.alloc ?_ _))) (Sr.at_ aq #[int i64 1,int i64 0,int i64 0,int i64 0,int .u32 ((pc+4*(k:Int))%4294967296)] 235 1 1 rfl) (QC _ _ _ _ _) bj ab aE ?_;intro v' w2 hown hgrow;obtain⟨a',c',rfl⟩:=sM hown;have kT:Hid (w2.ownsRow (w.heap.size+1) 235 5 (slice a' (cn+1) c') (cn+1) (uA cv++[int i64 1,int i64 0,int i64 0,int i64 0,int .u32 ((pc+4*(k:Int))%4294967296)])):=hown;have HG2:Hid (Gr w w2):=Gr.grown (HG.trans (by repeat (first|exact Gr.refl wr|refine Gr.alloc ?_ _))) hgrow (fun b e=>by have:=(HO.lt b e).1;omega);have HB2:Hid (w2.heap[w.heap.size]?=some (cells #[int .u32 pc,slice (some ⟨b,o,none⟩) sn sc] 64 (0,0))):=sQ (aD HO (by repeat (first|exact Gr.refl wr|refine Gr.alloc ?_ _))) hgrow an (bS (by repeat (first|exact Gr.refl wr|refine Gr.alloc ?_ _)) HB);have HJ2:Hid (w2.heap[wr.heap.size]?=some (cells #[int i64 op,int i64 rd,int i64 r1,int i64 r2,int i32 im] 59 (0,0))):=sQ (aD HO (by repeat (first|exact Gr.refl wr|refine Gr.alloc ?_ _))) hgrow an (axb wr _ _);have r0:w2.cell? ⟨wr.heap.size,0,none⟩=some (int i64 op):=awl _ _ _ _ _ _ HJ2;have r1':w2.cell? ⟨wr.heap.size,1,none⟩=some (int i64 rd):=awl _ _ _ _ _ _ HJ2;have r2':w2.cell? ⟨wr.heap.size,2,none⟩=some (int i64 r1):=awl _ _ _ _ _ _ HJ2;have r3':w2.cell? ⟨wr.heap.size,3,none⟩=some (int i64 r2):=awl _ _ _ _ _ _ HJ2;have r4':w2.cell? ⟨wr.heap.size,4,none⟩=some (int i32 im):=awl _ _ _ _ _ _ HJ2;clear hown hgrow);refine(LG _ HG2).mono ?_;rintro e w3 ⟨v,rfl,S3,G3⟩;have HS3:=kH S3;have eO:=kH G3;have hb3:w.heap.size+1<=w3.heap.size:=by have:=(arz.1 HB2).1;have:=G3.size;omega
   generalize md.length=mn at *
   go_wp2_with (at_builtin;refine lN rfl (tmp 29) (tmp 32) rfl underlying177 hi hz0 hz1 hz2 rfl an (base:=w.heap.size+1) (n:=cn+1) (m:=mn) (v:=slice a' (cn+1) c') (vx:=v) (olds:=uA cv++[int i64 1,int i64 0,int i64 0,int i64 0,int .u32 ((pc+4*(k:Int))%4294967296)]) (news:=uA md) rfl rfl (aD kT.out eO.out) HS3.out (WG _) bj ab hb3 ?_;intro v'' w4 hown hgrow;obtain⟨a'',c'',rfl⟩:=sM hown;have HO4:Hid (w4.ownsRow (w.heap.size+1) 235 5 (slice a'' (cn+1+mn) c'') (cn+1+mn) ((uA cv++[int i64 1,int i64 0,int i64 0,int i64 0,int .u32 ((pc+4*(k:Int))%4294967296)])++uA md)):=hown;have fM:Hid (Gr w w4):=Gr.grown (HG2.out.trans eO.out) hgrow (fun b e=>by have:=(kT.out.lt b e).1;omega);have uC:Hid (w4.heap[w.heap.size]?=some (cells #[int .u32 pc,slice (some ⟨b,o,none⟩) sn sc] 64 (0,0))):=sQ (aD kT.out eO.out) hgrow an (bS eO.out HB2.out);clear hown hgrow);go_roundw
   case rel=>exact⟨k+1,a'',c'',by have:=HK.out;omega,by go_num,by rw[EK.out],by rw[EK.out,HV1.out];exact HO4.out,uC.out,fM.out⟩
   case measure=>simp[intOf];have:=HK;omega
  ·have ek:k=sn:=ab;subst ek;have HOE:Hid (wr.ownsRow (w.heap.size+1) 235 5 (slice a (aY pc is 0).length c0) (aY pc is 0).length (uA (aY pc is 0))):=by have:=HO;rwa[HZ.out]at this
   have HZ2:Hid ((aY pc (is.take k) 0).length=(aY pc is 0).length):=by rw[Hid,HZ.out]
   generalize(aY pc (is.take k) 0).length=cn at *
   go_wp2_with fail;go_ret;have e:=HZ2;subst e;obtain⟨ca,cc,hv,C⟩:=abB HOE (fun i hi=>(HE i hi).2.1) (fun i hi=>by have:=(HE i hi).2.2;omega);injection hv with hv1 _ hv2;subst hv1 hv2;exact⟨_,_,_,rfl,C,HG⟩
end Ts
namespace Dw
open Re
variable{k v l m:Int}
theorem tmod_zero (n k:Int):n.tmod k=0↔n%k=0:=by rw[<-Int.dvd_iff_tmod_eq_zero,<-Int.dvd_iff_emod_eq_zero]
abbrev TB (k:Int):Prop:=Dc.bP k=Dc.bP k%128+Dc.bP k/4096%8*4096+Dc.bP k/33554432*33554432/\0<=Dc.bP k/\Dc.bP k<4294967296/\
 (Dc.aM k=8->Dc.bP k/33554432%4=0)/\(Dc.aM k=1\/Dc.aM k=2\/Dc.aM k=3\/Dc.aM k=5\/Dc.aM k=6->Dc.bP k/33554432=0)/\(Dc.aM k=1\/Dc.aM k=2->Dc.bP k/4096%8=0)
theorem abN:∀n:Fin 58,1<=n.val->TB (n.val:Int):=by decide +kernel
theorem tb (h1:1<=k)(h2:k<=57):TB k:=by have:=abN ⟨k.toNat,ab⟩ aE;rwa[show((⟨k.toNat,ab⟩:Fin 58).val:Int)=k by simp;omega]at this
theorem canon {a b c}(hv:v=l+a*128+m*4096+b*32768+c*1048576+u*33554432)(l0:0≤l)(l1:l<128)(a0:0≤a)(a1:a<32)(m0:0≤m)(m1:m<8)(b0:0<=b)(b1:b<32)(c0:0<=c)(c1:c<32):v%128=l/\v/128%32=a/\v/4096%8=m/\v/32768%32=b/\v/1048576%32=c/\v/33554432=u/\v/1048576=c+u*32/\v/4096=m+b*8+c*256+u*8192/\v/128=a+(m+b*8+c*256+u*8192)*32/\v/32768=b+c*32+u*1024:=by
 have e5:v/33554432=u:=ab;have e4:v/1048576=c+u*32:=ab;have e3:v/32768=b+c*32+u*1024:=ab;have e2:v/4096=m+b*8+c*256+u*8192:=ab;have e1:v/128=a+(m+b*8+c*256+u*8192)*32:=ab;refine⟨ab,by rw[e1];omega,by rw[e2];omega,by rw[e3];omega,by rw[e4];omega,e5,e4,e2,e1,e3⟩
theorem QD (hT:T=l+m*4096+u*33554432)(l0:0<=l)(l1:l<128)(m0:0<=m)(m1:m<8)(u0:0<=u)(u1:u<128)(a1:0<=rd)(a2:rd<=31)(b1:0<=bQ)(b2:bQ<=31)(c1:0<=cu)(c2:cu<=31):bits .or .u32 T (bits .or .u32 (bits .or .u32 (rd%4294967296*128%4294967296) (bQ%4294967296*32768%4294967296)) (cu%4294967296*1048576%4294967296))=l+rd*128+m*4096+bQ*32768+cu*1048576+u*33554432:=by
 rw[show rd%4294967296*128%4294967296=rd*2^7 by omega,show bQ%4294967296*32768%4294967296=bQ*2^15 by omega,show cu%4294967296*1048576%4294967296=cu*2^20 by omega];have s1:Wd.uw (rd*2^7) (bQ*2^15)=rd*2^7+bQ*2^15:=jI _ _ 15 5 ab b1 ab ab;have s2:Wd.uw (rd*2^7+bQ*2^15) (cu*2^20)=rd*2^7+bQ*2^15+cu*2^20:=jI _ _ 20 5 ab c1 ab ab;rw[dx (rd*2^7) (bQ*2^15) ab ab ab ab,s1,dx _ (cu*2^20) ab ab ab ab,s2,
  dx T _ ab ab ab ab,<-s2,<-s1,<-sF,<-sF]
 have z1:T/2^7=m*32+u*262144:=ab;rw[jI T rd 7 5 ab a1 (by rw[z1];omega) ab];have z2:(T+rd*2^7)/2^15=u*1024:=ab;rw[jI _ bQ 15 5 ab b1 (by rw[z2];omega) ab];have z3:(T+rd*2^7+bQ*2^15)/2^20=u*32:=ab;rw[jI _ cu 20 5 ab c1 (by rw[z3];omega) ab];omega
theorem ja {f}(h0:0≤v)(h1:v<4294967296)(o1:1≤op)(o2:op≤59)(hf:Dc.aM op=f)(ht:Dc.part f v=Dc.bP op)(hl:op=46→v/1048576%32=0)(e1:Dc.jd f v=rd)(e2:Dc.dh f v=bQ)(e3:Dc.cz f v=cu)(e4:Dc.bU f v=j6):Same op rd bQ cu j6 v:=by
 have hr:=Dc.Ce h0 h1 o1 o2 (by rw[hf];exact ht);have hd:Dc.aO v=op:=by unfold Dc.aO;rw[hr,ak]
 refine⟨by unfold gI;rw[hd];simp;omega,hd,by rw[hd,hf];exact e1,by rw[hd,hf];exact e2,by rw[hd,hf];exact e3,by rw[hd,hf];exact e4⟩
end Dw
namespace Dw
open Re
variable{n p q:Int}
theorem or_zero (n)(h0:0<=n)(h1:n<4294967296):bits .or .u32 n 0=n:=(aa9 n 0 0 h0 ab ab ab ab).trans ab
theorem mG {l m}(hT:Dc.bP op=l+m*4096+u*33554432)(l0:0≤l)(l1:l<128)(m0:0≤m)(m1:m<8)(u0:0≤u)(u1:u<128)(a1:0<=rd)(a2:rd<=31)(b1:0<=bQ)(b2:bQ<=31)(c1:0<=cu)(c2:cu<=31):Wv op rd bQ cu j6=bits .or .u32 (l+rd*128+m*4096+bQ*32768+cu*1048576+u*33554432) (wI (Dc.aM op) (j6%4294967296)):=by unfold Wv;rw[QD hT l0 l1 m0 m1 u0 u1 a1 a2 b1 b2 c1 c2]
theorem jX (h1:1<=op)(h2:op<=57):∃l m u,Dc.bP op=l+m*4096+u*33554432/\0<=l/\l<128/\0<=m/\m<8/\0<=u/\u<128/\(Dc.aM op=8->u%4=0)/\ (Dc.aM op=1\/Dc.aM op=2\/Dc.aM op=3\/Dc.aM op=5\/Dc.aM op=6->u=0)/\(Dc.aM op=1\/Dc.aM op=2->m=0):=by obtain⟨t1,t2,t3,t4,t5,t6⟩:=tb h1 h2;exact⟨_,_,_,t1,ab,ab,ab,ab,ab,ab,t4,t5,t6⟩
theorem abO (o1:1<=op)(o2:op<=57)(hf:Dc.aM op=1)(a1:0<=rd)(a2:rd<=31)(n0 : -2147483648<=n)(n1:n<2147483648)(hn:n%4096=0):Same op rd 0 0 n (Wv op rd 0 0 n):=by
 obtain⟨l,m,u,hT,l0,l1,m0,m1,u0,u1,t8,tu,tm⟩:=jX o1 o2;have hu:=tu (Or.inl hf);have hm:=tm (Or.inl hf);have hb:=o9 op rd 0 0 n;rw[mG hT l0 l1 m0 m1 u0 u1 a1 a2 ab ab ab ab,hf]at hb ⊢;have hD:wI 1 (n%4294967296)=n%4294967296/4096%1048576*2^12:=rfl;have hV:bits .or .u32 (l+rd*128+m*4096+0*32768+0*1048576+u*33554432) (wI 1 (n%4294967296))=l+rd*128+n%4294967296/4096%1048576*4096:=by
  rw[hD,pU _ _ 12 20 ab ab ab ab ab ab ab];omega
 rw[hV]at hb ⊢;generalize hv:l+rd*128+n%4294967296/4096%1048576*4096=v at *
 refine ja hb.1 hb.2 o1 ab hf (show v%128=_ by omega) (fun h=>absurd hf (by rw[h];decide)) (show v/128%32=rd by omega) rfl rfl ?_;show Wd.sg v-v%4096=n
 unfold Wd.sg;split<;>omega
theorem abP (o1:1<=op)(o2:op<=57)(hf:Dc.aM op=2)(a1:0<=rd)(a2:rd<=31)(n0 : -1048576<=n)(n1:n<=1048574)(hn:n%2=0):Same op rd 0 0 n (Wv op rd 0 0 n):=by
 obtain⟨l,m,u,hT,l0,l1,m0,m1,u0,u1,t8,tu,tm⟩:=jX o1 o2;have hu:=tu (Or.inr (Or.inl hf));have hm:=tm (Or.inr hf);have hb:=o9 op rd 0 0 n;rw[mG hT l0 l1 m0 m1 u0 u1 a1 a2 ab ab ab ab,hf]at hb ⊢;have hD:wI 2 (n%4294967296)=n%4294967296/1048576%2*2147483648+n%4294967296/4096%256*4096+n%4294967296/2048%2*1048576+n%4294967296/2%1024*2097152:=rfl;have hN:Dc.jE 1048576 (n%4294967296/1048576%2*1048576+n%4294967296/4096%256*4096+n%4294967296/2048%2*2048+n%4294967296/2%1024*2)=n:=by
  unfold Dc.jE;split<;>omega
 have x0:0<=n%4294967296/1048576%2/\n%4294967296/1048576%2<2:=ab;have y0:0<=n%4294967296/4096%256/\n%4294967296/4096%256<256:=ab;have z0:0<=n%4294967296/2048%2/\n%4294967296/2048%2<2:=ab;have s0:0<=n%4294967296/2%1024/\n%4294967296/2%1024<1024:=ab;rw[hD]at hb ⊢;generalize n%4294967296/1048576%2=x at *
 generalize n%4294967296/4096%256=y at *
 generalize n%4294967296/2048%2=z at *
 generalize n%4294967296/2%1024=s at *
 have hV:bits .or .u32 (l+rd*128+m*4096+0*32768+0*1048576+u*33554432) (x*2147483648+y*4096+z*1048576+s*2097152)=l+rd*128+y*4096+z*1048576+s*2097152+x*2147483648:=by
  rw[show x*2147483648+y*4096+z*1048576+s*2097152=(x*524288+y+z*256+s*512)*2^12 by omega,pU _ _ 12 20 ab ab ab ab ab ab ab];omega
 rw[hV]at hb ⊢;generalize hv:l+rd*128+y*4096+z*1048576+s*2097152+x*2147483648=v at *
 have q1:v/2147483648=x:=ab;have q2:v/2097152=s+x*1024:=ab;have q3:v/1048576=z+s*2+x*2048:=ab;have q4:v/4096=y+z*256+s*512+x*524288:=ab;have q5:v/128=rd+(y+z*256+s*512+x*524288)*32:=ab;refine ja hb.1 hb.2 o1 ab hf (show v%128=_ by omega) (fun h=>absurd hf (by rw[h];decide)) (show v/128%32=rd by rw[q5];omega) rfl rfl ?_;show Dc.jE 1048576 (v/2147483648*1048576+v/4096%256*4096+v/1048576%2*2048+v/2097152%1024*2)=n
 rw[q1,q2,q3,q4,show(y+z*256+s*512+x*524288)%256=y by omega,show(z+s*2+x*2048)%2=z by omega,show(s+x*1024)%1024=s by omega];exact hN
theorem Aj (o1:1<=op)(o2:op<=57)(hf:Dc.aM op=3)(a1:0<=rd)(a2:rd<=31)(b1:0<=bQ)(b2:bQ<=31)(n0 : -2048<=n)(n1:n<=2047):Same op rd bQ 0 n (Wv op rd bQ 0 n):=by
 obtain⟨l,m,u,hT,l0,l1,m0,m1,u0,u1,t8,tu,tm⟩:=jX o1 o2;have hu:=tu (Or.inr (Or.inr (Or.inl hf)));have hb:=o9 op rd bQ 0 n;rw[mG hT l0 l1 m0 m1 u0 u1 a1 a2 b1 b2 ab ab,hf]at hb ⊢;have hD:wI 3 (n%4294967296)=n%4294967296%4096*2^20:=rfl;have hV:bits .or .u32 (l+rd*128+m*4096+bQ*32768+0*1048576+u*33554432) (wI 3 (n%4294967296))=l+rd*128+m*4096+bQ*32768+n%4294967296%4096*1048576:=by
  rw[hD,pU _ _ 20 12 ab ab ab ab ab ab ab];omega
 rw[hV]at hb ⊢;have hN:Dc.jE 2048 (n%4294967296%4096)=n:=by unfold Dc.jE;split<;>omega
 have e0:0<=n%4294967296%4096/\n%4294967296%4096<4096:=ab;generalize n%4294967296%4096=e at *
 generalize hv:l+rd*128+m*4096+bQ*32768+e*1048576=v at *
 obtain⟨v1,v2,v3,v4,v5,v6,v7,_,_,_⟩:=canon (v:=v) (l:=l) (a:=rd) (m:=m) (b:=bQ) (c:=e%32) (u:=e/32) ab l0 l1 a1 ab m0 m1 b1 ab ab ab;refine ja hb.1 hb.2 o1 ab hf (show v%128+v/4096%8*4096=_ by rw[v1,v3];omega) (fun h=>absurd hf (by rw[h];decide)) v2 v4 rfl ?_;show Dc.jE 2048 (v/1048576)=n
 rw[v7,show e%32+e/32*32=e by omega];exact hN
theorem abQ (o1:1<=op)(o2:op<=57)(hf:Dc.aM op=4)(a1:0<=rd)(a2:rd<=31)(b1:0<=bQ)(b2:bQ<=31)(n0:0<=n)(n1:n<=31):Same op rd bQ 0 n (Wv op rd bQ 0 n):=by
 obtain⟨l,m,u,hT,l0,l1,m0,m1,u0,u1,t8,tu,tm⟩:=jX o1 o2;have hb:=o9 op rd bQ 0 n;rw[mG hT l0 l1 m0 m1 u0 u1 a1 a2 b1 b2 ab ab,hf]at hb ⊢;have hD:wI 4 (n%4294967296)=n*2^20:=by show n%4294967296%32*1048576=_;omega
 have hz:(l+rd*128+m*4096+bQ*32768+0*1048576+u*33554432)/2^20=u*32:=ab;have hV:bits .or .u32 (l+rd*128+m*4096+bQ*32768+0*1048576+u*33554432) (wI 4 (n%4294967296))=l+rd*128+m*4096+bQ*32768+n*1048576+u*33554432:=by
  rw[hD,pU _ _ 20 5 ab ab (by rw[hz];omega) ab ab ab ab];omega
 rw[hV]at hb ⊢;generalize hv:l+rd*128+m*4096+bQ*32768+n*1048576+u*33554432=v at *
 obtain⟨v1,v2,v3,v4,v5,v6,v7,_,_,_⟩:=canon hv.symm l0 l1 a1 ab m0 m1 b1 ab n0 ab;exact ja hb.1 hb.2 o1 ab hf (show v%128+v/4096%8*4096+v/33554432*33554432=_ by rw[v1,v3,v6];omega) (fun h=>absurd hf (by rw[h];decide)) v2 v4 rfl v5
theorem Xb {S}(s0:0<=S)(s1:S<33554432)(sz:S/128%32=0)(p0:0<=p)(p1:p<32)(q0:0<=q)(q1:q<128):bits .or .u32 S (p*128+q*33554432)=S+p*128+q*33554432:=by
 rw[dx S _ s0 ab ab ab,show p*128+q*33554432=p*2^7+q*2^25 by omega,<-jI (p*2^7) q 25 7 ab q0 ab ab,<-sF,
  jI S p 7 5 s0 p0 sz ab,jI _ q 25 7 ab q0 ab ab]
 omega
theorem Jd {f}(o1:1≤op)(o2:op≤57)(hf:Dc.aM op=f)(f56:f=5∨f=6)(b1:0≤bQ)(b2:bQ≤31)(c1:0≤cu)(c2:cu≤31)(p0:0<=p)(p1:p<32)(q0:0<=q)(q1:q<128)(hD:wI f (n%4294967296)=p*128+q*33554432)(hI:∀v,v/33554432=q->v/128%32=p->Dc.bU f v=n):Same op 0 bQ cu n (Wv op 0 bQ cu n):=by
 obtain⟨l,m,u,hT,l0,l1,m0,m1,u0,u1,t8,tu,tm⟩:=jX o1 o2;have hu:=tu ab;have hb:=o9 op 0 bQ cu n;rw[mG hT l0 l1 m0 m1 u0 u1 ab ab b1 b2 c1 c2,hf]at hb ⊢;have hz:(l+0*128+m*4096+bQ*32768+cu*1048576+u*33554432)/128=(m+bQ*8+cu*256)*32:=ab;rw[hD,Xb ab ab (by rw[hz];omega) p0 p1 q0 q1]at hb ⊢;generalize hv:l+0*128+m*4096+bQ*32768+cu*1048576+u*33554432+p*128+q*33554432=v at *
 obtain⟨v1,v2,v3,v4,v5,v6,v7,_,_,_⟩:=canon (v:=v) (l:=l) (a:=p) (m:=m) (b:=bQ) (c:=cu) (u:=q) ab l0 l1 p0 p1 m0 m1 b1 ab c1 ab;rcases f56 with rfl|rfl
 ·exact ja hb.1 hb.2 o1 ab hf (show v%128+v/4096%8*4096=_ by rw[v1,v3];omega) (fun h=>absurd hf (by rw[h];decide)) rfl v4 v5 (hI v v6 v2)
 ·exact ja hb.1 hb.2 o1 ab hf (show v%128+v/4096%8*4096=_ by rw[v1,v3];omega) (fun h=>absurd hf (by rw[h];decide)) rfl v4 v5 (hI v v6 v2)
theorem abR (o1:1<=op)(o2:op<=57)(hf:Dc.aM op=5)(b1:0<=bQ)(b2:bQ<=31)(c1:0<=cu)(c2:cu<=31)(n0 : -4096<=n)(n1:n<=4094)(hn:n%2=0):Same op 0 bQ cu n (Wv op 0 bQ cu n):=by
 have hN:Dc.jE 4096 (n%4294967296/4096%2*4096+n%4294967296/2048%2*2048+n%4294967296/32%64*32+n%4294967296/2%16*2)=n:=by
  unfold Dc.jE;split<;>omega
 have hD:wI 5 (n%4294967296)=n%4294967296/4096%2*2147483648+n%4294967296/2048%2*128+n%4294967296/32%64*33554432+n%4294967296/2%16*256:=rfl;have x0:0<=n%4294967296/4096%2/\n%4294967296/4096%2<2:=ab;have y0:0<=n%4294967296/2048%2/\n%4294967296/2048%2<2:=ab;have z0:0<=n%4294967296/32%64/\n%4294967296/32%64<64:=ab;have s0:0<=n%4294967296/2%16/\n%4294967296/2%16<16:=ab;refine Jd (p:=n%4294967296/2048%2+n%4294967296/2%16*2) (q:=n%4294967296/4096%2*64+n%4294967296/32%64) o1 o2 hf (Or.inl rfl) b1 b2 c1 c2 ab ab ab ab (by rw[hD];omega) ?_;intro v h1 h2;generalize n%4294967296/4096%2=x at *
 generalize n%4294967296/2048%2=y at *
 generalize n%4294967296/32%64=z at *
 generalize n%4294967296/2%16=s at *
 show Dc.jE 4096 (v/2147483648*4096+v/128%2*2048+v/33554432%64*32+v/256%16*2)=n
 rw[show v/2147483648=x by omega,h1,show(x*64+z)%64=z by omega,show v/128%2=y by omega,show v/256%16=s by omega];exact hN
theorem abS (o1:1<=op)(o2:op<=57)(hf:Dc.aM op=6)(b1:0<=bQ)(b2:bQ<=31)(c1:0<=cu)(c2:cu<=31)(n0 : -2048<=n)(n1:n<=2047):Same op 0 bQ cu n (Wv op 0 bQ cu n):=by
 have hN:Dc.jE 2048 (n%4294967296/32%128*32+n%4294967296%32)=n:=by unfold Dc.jE;split<;>omega
 have hD:wI 6 (n%4294967296)=n%4294967296/32%128*33554432+n%4294967296%32*128:=rfl;refine Jd (p:=n%4294967296%32) (q:=n%4294967296/32%128) o1 o2 hf (Or.inr rfl) b1 b2 c1 c2 ab ab ab ab (by rw[hD];omega) ?_;intro v h1 h2;show Dc.jE 2048 (v/33554432*32+v/128%32)=n
 rw[h1,h2];exact hN
theorem abT (o1:1<=op)(o2:op<=57)(hf:Dc.aM op=7)(a1:0<=rd)(a2:rd<=31)(b1:0<=bQ)(b2:bQ<=31)(c1:0<=cu)(c2:cu<=31):Same op rd bQ cu 0 (Wv op rd bQ cu 0):=by
 obtain⟨l,m,u,hT,l0,l1,m0,m1,u0,u1,t8,tu,tm⟩:=jX o1 o2;have hb:=o9 op rd bQ cu 0;rw[mG hT l0 l1 m0 m1 u0 u1 a1 a2 b1 b2 c1 c2,hf,show wI 7 (0%4294967296)=0 from rfl,or_zero _ ab ab]at hb ⊢;generalize hv:l+rd*128+m*4096+bQ*32768+cu*1048576+u*33554432=v at *
 obtain⟨v1,v2,v3,v4,v5,v6,v7,_,_,_⟩:=canon hv.symm l0 l1 a1 ab m0 m1 b1 ab c1 ab;exact ja hb.1 hb.2 o1 ab hf (show v%128+v/4096%8*4096+v/33554432*33554432=_ by rw[v1,v3,v6];omega) (fun h=>absurd hf (by rw[h];decide)) v2 v4 v5 rfl
theorem abU (o1:1<=op)(o2:op<=57)(hf:Dc.aM op=8)(a1:0<=rd)(a2:rd<=31)(b1:0<=bQ)(b2:bQ<=31)(c1:0<=cu)(c2:cu<=31)(n0:0<=n)(n1:n<=3)(h46:op=46->cu=0):Same op rd bQ cu n (Wv op rd bQ cu n):=by
 obtain⟨l,m,u,hT,l0,l1,m0,m1,u0,u1,t8,tu,tm⟩:=jX o1 o2;have hu:=t8 hf;have hb:=o9 op rd bQ cu n;rw[mG hT l0 l1 m0 m1 u0 u1 a1 a2 b1 b2 c1 c2,hf]at hb ⊢;have hD:wI 8 (n%4294967296)=n*2^25:=by show n%4294967296%4*33554432=_;omega
 have hz:(l+rd*128+m*4096+bQ*32768+cu*1048576+u*33554432)/2^25=u:=ab;have hV:bits .or .u32 (l+rd*128+m*4096+bQ*32768+cu*1048576+u*33554432) (wI 8 (n%4294967296))=l+rd*128+m*4096+bQ*32768+cu*1048576+(u+n)*33554432:=by
  rw[hD,pU _ _ 25 2 ab ab (by rw[hz];omega) ab ab ab ab];omega
 rw[hV]at hb ⊢;generalize hv:l+rd*128+m*4096+bQ*32768+cu*1048576+(u+n)*33554432=v at *
 obtain⟨v1,v2,v3,v4,v5,v6,v7,_,_,_⟩:=canon hv.symm l0 l1 a1 ab m0 m1 b1 ab c1 ab;have v8:v/134217728=u/4:=ab;exact ja hb.1 hb.2 o1 ab hf (show v%128+v/4096%8*4096+v/134217728*134217728=_ by rw[v1,v3,v8];omega) (fun h=>by rw[v5];exact h46 h) v2 v4 v5 (show v/33554432%4=n by rw[v6];omega)
theorem abV (o1:58<=op)(o2:op<=59):Same op 0 0 0 0 (Wv op 0 0 0 0):=by
 have h:op=58\/op=59:=ab;rcases h with rfl|rfl
 ·exact ja (f:=9) (v:=Wv 58 0 0 0 0) (by decide +kernel) (by decide +kernel) ab ab an (by decide +kernel) (fun h=>ab) rfl rfl rfl rfl
 ·exact ja (f:=9) (v:=Wv 59 0 0 0 0) (by decide +kernel) (by decide +kernel) ab ab an (by decide +kernel) (fun h=>ab) rfl rfl rfl rfl
theorem Dz (h1:1<=op)(h2:op<=2):Dc.aM op=1:=by unfold Dc.aM;repeat (first|rw[eB]|rw[ak])
theorem DC (h1:3<=op)(h2:op<=3):Dc.aM op=2:=by unfold Dc.aM;repeat (first|rw[eB]|rw[ak])
theorem DI (h1:4<=op)(h2:op<=4):Dc.aM op=3:=by unfold Dc.aM;repeat (first|rw[eB]|rw[ak])
theorem DJ (h1:5<=op)(h2:op<=10):Dc.aM op=5:=by unfold Dc.aM;repeat (first|rw[eB]|rw[ak])
theorem yE (h1:11<=op)(h2:op<=15):Dc.aM op=3:=by unfold Dc.aM;repeat (first|rw[eB]|rw[ak])
theorem yF (h1:16<=op)(h2:op<=18):Dc.aM op=6:=by unfold Dc.aM;repeat (first|rw[eB]|rw[ak])
theorem yG (h1:19<=op)(h2:op<=24):Dc.aM op=3:=by unfold Dc.aM;repeat (first|rw[eB]|rw[ak])
theorem yH (h1:25<=op)(h2:op<=27):Dc.aM op=4:=by unfold Dc.aM;repeat (first|rw[eB]|rw[ak])
theorem yI (h1:28<=op)(h2:op<=45):Dc.aM op=7:=by unfold Dc.aM;repeat (first|rw[eB]|rw[ak])
theorem yJ (h1:46<=op)(h2:op<=56):Dc.aM op=8:=by unfold Dc.aM;repeat (first|rw[eB]|rw[ak])
theorem yK (h1:57<=op)(h2:op<=57):Dc.aM op=3:=by unfold Dc.aM;repeat (first|rw[eB]|rw[ak])
theorem LZ (h1:58<=op)(h2:op<=59):Dc.aM op=9:=by unfold Dc.aM;repeat (first|rw[eB]|rw[ak])
theorem wy (h:IsP op rd bQ cu n)(n0 : -2147483648<=n)(n1:n<2147483648):Same op rd bQ cu n (Wv op rd bQ cu n):=by
 obtain⟨⟨o1,o2,a1,a2,b1,b2,c1,c2⟩,h⟩:=h;rcases h with⟨p,q,r⟩|⟨p,q,r⟩|⟨p,q,r⟩|⟨p,q,r⟩|⟨p,q,r⟩|⟨p,q,r⟩|⟨p,q,r⟩|⟨p,q,r⟩|⟨p,q,r⟩|⟨p,q,r⟩|⟨p,q,r⟩|⟨p,q,r⟩
 ·obtain⟨rfl,rfl,r⟩:=r;exact abO o1 ab (Dz p q) a1 a2 n0 n1 ((tmod_zero _ _).1 r)
 ·obtain⟨rfl,rfl,r1,r2,r⟩:=r;exact abP o1 ab (DC p q) a1 a2 r1 r2 ((tmod_zero _ _).1 r)
 ·obtain⟨rfl,r1,r2⟩:=r;exact Aj o1 ab (DI p q) a1 a2 b1 b2 r1 r2
 ·obtain⟨rfl,r1,r2,r⟩:=r;exact abR o1 ab (DJ p q) b1 b2 c1 c2 r1 r2 ((tmod_zero _ _).1 r)
 ·obtain⟨rfl,r1,r2⟩:=r;exact Aj o1 ab (yE p q) a1 a2 b1 b2 r1 r2
 ·obtain⟨rfl,r1,r2⟩:=r;exact abS o1 ab (yF p q) b1 b2 c1 c2 r1 r2
 ·obtain⟨rfl,r1,r2⟩:=r;exact Aj o1 ab (yG p q) a1 a2 b1 b2 r1 r2
 ·obtain⟨rfl,r1,r2⟩:=r;exact abQ o1 ab (yH p q) a1 a2 b1 b2 r1 r2
 ·subst r;exact abT o1 ab (yI p q) a1 a2 b1 b2 c1 c2
 ·obtain⟨r1,r2,r⟩:=r;exact abU o1 ab (yJ p q) a1 a2 b1 b2 c1 c2 r1 r2 (fun h=>ab)
 ·obtain⟨rfl,r1,r2⟩:=r;exact Aj o1 ab (yK p q) a1 a2 b1 b2 r1 r2
 ·obtain⟨rfl,rfl,rfl,rfl⟩:=r;exact abV p q
theorem wC {v}(h0:0<=v)(h1:v<4294967296)(h:Same op rd bQ cu n v):IsP op rd bQ cu n:=by
 obtain⟨hok,e0,e1,e2,e3,e4⟩:=h;have hd:Dc.aO v≠0:=by simpa[gI]using hok
 have hbd:0<=Dc.aO v/\Dc.aO v<=59:=by
  have:=Dc.l9 h0 h1;unfold Dc.aO;split<;>omega
 have h46:op=46->v/1048576%32=0:=by
  intro h;rw[h]at e0;unfold Dc.aO at e0;split at e0
  ·omega
  ·rename_i hh;have:Dc.raw v=46:=e0;omega
 rw[e0]at hd hbd e1 e2 e3 e4;clear hok e0;by_cases u1:op<=2
 ·rw[Dz ab ab]at e1 e2 e3 e4;have e1:v/128%32=rd:=e1;have e2:0=bQ:=e2;have e3:0=cu:=e3;have e4:Wd.sg v-v%4096=n:=e4;exact⟨⟨ab,ab,ab,ab,ab,ab,ab,ab⟩,Or.inl ⟨ab,ab,⟨ab,ab,(tmod_zero _ _).2 (by unfold Wd.sg at e4;split at e4<;>omega)⟩⟩⟩
 by_cases u3:op<=3
 ·rw[DC ab ab]at e1 e2 e3 e4;have e1:v/128%32=rd:=e1;have e2:0=bQ:=e2;have e3:0=cu:=e3;have e4:Dc.jE 1048576 (v/2147483648*1048576+v/4096%256*4096+v/1048576%2*2048+v/2097152%1024*2)=n:=e4;exact⟨⟨ab,ab,ab,ab,ab,ab,ab,ab⟩,Or.inr (Or.inl ⟨ab,ab,⟨ab,ab,by unfold Dc.jE at e4;split at e4<;>omega,by unfold Dc.jE at e4;split at e4<;>omega,(tmod_zero _ _).2 (by unfold Dc.jE at e4;split at e4<;>omega)⟩⟩)⟩
 by_cases u4:op<=4
 ·rw[DI ab ab]at e1 e2 e3 e4;have e1:v/128%32=rd:=e1;have e2:v/32768%32=bQ:=e2;have e3:0=cu:=e3;have e4:Dc.jE 2048 (v/1048576)=n:=e4;exact⟨⟨ab,ab,ab,ab,ab,ab,ab,ab⟩,Or.inr (Or.inr (Or.inl ⟨ab,ab,⟨ab,by unfold Dc.jE at e4;split at e4<;>omega,by unfold Dc.jE at e4;split at e4<;>omega⟩⟩))⟩
 by_cases u5:op<=10
 ·rw[DJ ab ab]at e1 e2 e3 e4;have e1:0=rd:=e1;have e2:v/32768%32=bQ:=e2;have e3:v/1048576%32=cu:=e3;have e4:Dc.jE 4096 (v/2147483648*4096+v/128%2*2048+v/33554432%64*32+v/256%16*2)=n:=e4;exact⟨⟨ab,ab,ab,ab,ab,ab,ab,ab⟩,Or.inr (Or.inr (Or.inr (Or.inl ⟨ab,ab,⟨ab,by unfold Dc.jE at e4;split at e4<;>omega,by unfold Dc.jE at e4;split at e4<;>omega,(tmod_zero _ _).2 (by unfold Dc.jE at e4;split at e4<;>omega)⟩⟩)))⟩
 by_cases u11:op<=15
 ·rw[yE ab ab]at e1 e2 e3 e4;have e1:v/128%32=rd:=e1;have e2:v/32768%32=bQ:=e2;have e3:0=cu:=e3;have e4:Dc.jE 2048 (v/1048576)=n:=e4;exact⟨⟨ab,ab,ab,ab,ab,ab,ab,ab⟩,Or.inr (Or.inr (Or.inr (Or.inr (Or.inl ⟨ab,ab,⟨ab,by unfold Dc.jE at e4;split at e4<;>omega,by unfold Dc.jE at e4;split at e4<;>omega⟩⟩))))⟩
 by_cases u16:op<=18
 ·rw[yF ab ab]at e1 e2 e3 e4;have e1:0=rd:=e1;have e2:v/32768%32=bQ:=e2;have e3:v/1048576%32=cu:=e3;have e4:Dc.jE 2048 (v/33554432*32+v/128%32)=n:=e4;exact⟨⟨ab,ab,ab,ab,ab,ab,ab,ab⟩,Or.inr (Or.inr (Or.inr (Or.inr (Or.inr (Or.inl ⟨ab,ab,⟨ab,by unfold Dc.jE at e4;split at e4<;>omega,by unfold Dc.jE at e4;split at e4<;>omega⟩⟩)))))⟩
 by_cases u19:op<=24
 ·rw[yG ab ab]at e1 e2 e3 e4;have e1:v/128%32=rd:=e1;have e2:v/32768%32=bQ:=e2;have e3:0=cu:=e3;have e4:Dc.jE 2048 (v/1048576)=n:=e4;exact⟨⟨ab,ab,ab,ab,ab,ab,ab,ab⟩,Or.inr (Or.inr (Or.inr (Or.inr (Or.inr (Or.inr (Or.inl ⟨ab,ab,⟨ab,by unfold Dc.jE at e4;split at e4<;>omega,by unfold Dc.jE at e4;split at e4<;>omega⟩⟩))))))⟩
 by_cases u25:op<=27
 ·rw[yH ab ab]at e1 e2 e3 e4;have e1:v/128%32=rd:=e1;have e2:v/32768%32=bQ:=e2;have e3:0=cu:=e3;have e4:v/1048576%32=n:=e4;exact⟨⟨ab,ab,ab,ab,ab,ab,ab,ab⟩,Or.inr (Or.inr (Or.inr (Or.inr (Or.inr (Or.inr (Or.inr (Or.inl ⟨ab,ab,⟨ab,ab,ab⟩⟩)))))))⟩
 by_cases u28:op<=45
 ·rw[yI ab ab]at e1 e2 e3 e4;have e1:v/128%32=rd:=e1;have e2:v/32768%32=bQ:=e2;have e3:v/1048576%32=cu:=e3;have e4:0=n:=e4;exact⟨⟨ab,ab,ab,ab,ab,ab,ab,ab⟩,Or.inr (Or.inr (Or.inr (Or.inr (Or.inr (Or.inr (Or.inr (Or.inr (Or.inl ⟨ab,ab,e4.symm⟩))))))))⟩
 by_cases u46:op<=56
 ·rw[yJ ab ab]at e1 e2 e3 e4;have e1:v/128%32=rd:=e1;have e2:v/32768%32=bQ:=e2;have e3:v/1048576%32=cu:=e3;have e4:v/33554432%4=n:=e4;exact⟨⟨ab,ab,ab,ab,ab,ab,ab,ab⟩,Or.inr (Or.inr (Or.inr (Or.inr (Or.inr (Or.inr (Or.inr (Or.inr (Or.inr (Or.inl ⟨ab,ab,⟨ab,ab,by by_cases h:op=46;exact Or.inr (by have:=h46 h;omega);exact Or.inl h⟩⟩)))))))))⟩
 by_cases u57:op<=57
 ·rw[yK ab ab]at e1 e2 e3 e4;have e1:v/128%32=rd:=e1;have e2:v/32768%32=bQ:=e2;have e3:0=cu:=e3;have e4:Dc.jE 2048 (v/1048576)=n:=e4;exact⟨⟨ab,ab,ab,ab,ab,ab,ab,ab⟩,Or.inr (Or.inr (Or.inr (Or.inr (Or.inr (Or.inr (Or.inr (Or.inr (Or.inr (Or.inr (Or.inl ⟨ab,ab,⟨ab,by unfold Dc.jE at e4;split at e4<;>omega,by unfold Dc.jE at e4;split at e4<;>omega⟩⟩))))))))))⟩
 ·rw[LZ ab ab]at e1 e2 e3 e4;have e1:0=rd:=e1;have e2:0=bQ:=e2;have e3:0=cu:=e3;have e4:0=n:=e4;exact⟨⟨ab,ab,ab,ab,ab,ab,ab,ab⟩,Or.inr (Or.inr (Or.inr (Or.inr (Or.inr (Or.inr (Or.inr (Or.inr (Or.inr (Or.inr (Or.inr (⟨ab,ab,⟨e1.symm,e2.symm,e3.symm,e4.symm⟩⟩)))))))))))⟩
end Dw
namespace Ts
variable[Inhabited Hc.bH]
open Mm Hc Mi Bk
open Hh hiding Rn
variable{x:Int}{xs:List Int}
theorem L9 (h0:0<=x)(h1:x<4294967296)(hx:¬Dc.aO x=0):(vK x).Sound:=by have b:=Hc.sK (Dc.aM (Dc.aO x)) h0 h1;have hs:Dw.Same (Dc.aO x) (Dc.jd (Dc.aM (Dc.aO x)) x) (Dc.dh (Dc.aM (Dc.aO x)) x) (Dc.cz (Dc.aM (Dc.aO x)) x) (Dc.bU (Dc.aM (Dc.aO x)) x) x:=⟨by unfold Dw.gI;simpa using hx,rfl,rfl,rfl,rfl,rfl⟩;exact Dw.wy (Dw.wC h0 h1 hs) b.1 b.2
theorem abW (h0:0<=x)(h1:x<4294967296)(hx:¬Dc.aO x=0):(vK x).Ok:=by have i:=Fz h0 h1 hx;have b:=Hc.sK (Dc.aM (Dc.aO x)) h0 h1;exact⟨by have:=i.o1;have:=i.o2;unfold Y9;omega,by have:=i.d0;have:=i.d1;unfold Y9;omega,by have:=i.a0;have:=i.a1;unfold Y9;omega,by have:=i.b0;have:=i.b1;unfold Y9;omega,b.1,by show Dc.bU (Dc.aM (Dc.aO x)) x<=2147483647;omega⟩
def Words (xs:List Int):Prop:=∀x∈xs,0<=x/\x<4294967296/\¬Dc.aO x=0
theorem QE (O:w.ownsRow base 59 5 (slice sa xs.length sc) xs.length (uQ xs))(hx:Words xs):Is w sa xs.length (xs.map vK):=by
 refine⟨aq,fun i hi=>?_,fun h0=>?_⟩
 ·obtain⟨x,hm,rfl⟩:=arY.1 hi;obtain⟨a,b,c⟩:=hx x hm;exact abW a b c
 ·obtain⟨g,c,e,hg,hc⟩:=Qn O h0;injection e with e1 _ _;refine⟨g,0,e1,hg,fun j i hj=>?_⟩;rw[ar3]at hj;cases hxj:xs[j]? with
  |none=>rw[hxj]at hj;cases hj
  |some x=>
   rw[hxj]at hj;simp at hj;subst hj;rw[arH];have q:=fun t (ht:t<5)=>I6 xs j t x hxj ht
   refine⟨hc _ _ ?_,hc _ _ ?_,hc _ _ ?_,hc _ _ ?_,hc _ _ ?_⟩
   ·have:=q 0 ab;rwa[asK]at this
   ·exact q 1 ab
   ·exact q 2 ab
   ·exact q 3 ab
   ·exact q 4 ab
theorem yL (l)(pc):Words (blk l pc 16 0):=fun x hx=>by obtain⟨j,hj⟩:=asv.1 hx;obtain⟨a,b,_⟩:=(gG l pc 16 0).2 j (arw.1 hj).1;rw[arH]at a b;rw[b]at hj;injection hj with hj;subst hj;have:=W.aT l 13 (at4 pc j);exact⟨this.1,this.2,(oz a).2⟩
theorem QF (pc)(sc)(O:w.ownsRow b 59 5 (slice sa xs.length sc) xs.length (uQ xs))(hx:Words xs)(T:Dw.oV w)(Q:Tq w)(hn:xs.length<=16):Calls prog 110 #[agg #[int .u32 pc,slice sa xs.length sc]] w fun e w'=>∃ca cn cc,e=returned (slice ca cn cc)/\Ct w' ca cn (aY pc (xs.map vK) 0)/\Gr w w':=
 Xa pc sc (QE O hx) T Q hn fun i hi=>by
  obtain⟨x,hm,rfl⟩:=arY.1 hi;obtain⟨a,b,c⟩:=hx x hm;exact L9 a b c
end Ts
namespace Bk
variable[Inhabited Hc.bH]
open Mm Hh Hc
variable{W:World}{z0 z1:Value}
def bkP (n:Nat) (pc:Int):Int:=if 4096<n then 0 else pc
def bkX (n:Nat) (l:List UInt8) (pc:Int):List Int:=if 4096<n then[]else blk l pc 16 0
theorem iB:(prog.info? 64).map (·.size)=some 2:=al
theorem Qp:(prog.info? 59).map (fun i=>(i.zero,i.size,i.bytes))=some (some (agg #[int i64 0,int i64 0,int i64 0,int i64 0,int i32 0]),5,40):=al
theorem oK (h:w.ownsRow base e sz v n xs):∃a c,v=slice a n c:=by
 rcases h.2 with⟨rfl,rfl⟩|⟨g,cap,_,rfl,_⟩
 ·exact⟨none,0,rfl⟩
 ·exact⟨_,cap,rfl⟩
theorem lQ (h:w.ownsRow b e sz v n xs)(hb:b'<=b):w.ownsRow b' e sz v n xs:=by
 refine⟨h.1,?_⟩;rcases h.2 with h|⟨g',cap,cur,hv,hb1,r⟩
 ·exact .inl h
 ·exact .inr ⟨g',cap,cur,hv,ab,r⟩
theorem Gg {x0 x1 x2 x3 x4}(h0:W.cell? ⟨b,0,none⟩=some x0)(h1:W.cell? ⟨b,1,none⟩=some x1)(h2:W.cell? ⟨b,2,none⟩=some x2)(h3:W.cell? ⟨b,3,none⟩=some x3)(h4:W.cell? ⟨b,4,none⟩=some x4):∀j u,([x0,x1,x2,x3,x4]:List Value)[j]?=some u->W.cell? ((⟨b,0,none⟩:Addr).add j)=some u:=by
 intro j u hj;rw[cK]
 match j,hj with
 |0,hj=>simp at hj;subst hj;exact h0
 |1,hj=>simp at hj;subst hj;exact h1
 |2,hj=>simp at hj;subst hj;exact h2
 |3,hj=>simp at hj;subst hj;exact h3
 |4,hj=>simp at hj;subst hj;exact h4
theorem DK (op)(w):Calls prog 30 #[int i64 op] w fun e w'=>e=returned (.bool (eU op))/\w'=w:=by
 go_enter func30,ntmps30;go_wp2
 all_goals
  go_ret;refine⟨Dw.aR ?_,rfl⟩;simp only[axe,awr,ne_eq]at *
  unfold eU;first|exact(awC ab).symm|exact(awq ab).symm
structure Aft (w w3:World) (g gi:Nat) (pc:Int) (v:Value) (k:Nat) (xs:List Value) (y:Value):Prop where
 b1:w3.heap[g+1]?=some (cells #[int .u32 pc,v] 64 (0,0))
 b0:w3.heap[g]?=some (cells #[int .u32 0,slice none 0 0] 64 (0,0))
 own:w3.ownsRow (g+2) 59 5 v k xs
 gr:Gr w w3
 op:w3.cell? ⟨gi,0,none⟩=some y
theorem wE (hO:w.ownsRow base e sz O n xs)(q:w.grownBy w' O.ownBlock)(ht:t≠e)(hk:w.heap[k]?=some (cells o t f)):w'.heap[k]?=some (cells o t f):=
 (q.block k (gs hk).1 (fun h=>by
  rcases hO.2 with⟨h0,_⟩|⟨g',cap,cur,hv,_,hg,_⟩
  ·rw[h0]at h;cases h
  ·rw[hv]at h;injection h with h;exact aa hk hg ht h)).trans hk
theorem dZ (g:Gr w w')(h:w.heap[k]?=some x):w'.heap[k]?=some x:=by rw[axk g k (gs h).1];exact h
theorem aft {wr w1 w2}{S v'}{Z}(hg:w.heap.size=g)(B1:wr.heap[g+1]?=some (cells #[int .u32 pc,S] 64 (0,0)))(B0:wr.heap[g]?=some (cells #[int .u32 0,slice none 0 0] 64 (0,0)))(O:wr.ownsRow (g+2) 59 5 S k xs)(G:Gr w wr)(G1:Gr wr w1)(q:((w1.alloc (cells Y 59)).alloc (cells Z 59)).grownBy w2 S.ownBlock)(O2:w2.ownsRow (g+2) 59 5 v' (k+1) xs')(hy:Y[0]?=some y):w2.cell? ⟨g+1,1,none⟩=some S/\w2.frozen? ⟨g+1,1,none⟩=false/\Aft w (w2.setCell ⟨g+1,1,none⟩ v') g w1.heap.size pc v' (k+1) xs' y:=by
 have G2:Gr wr ((w1.alloc (cells Y 59)).alloc (cells Z 59)):=(G1.alloc _).alloc _;have O1:=aD O G2;have b1:=wE O1 q an (dZ G2 B1);have b0:=wE O1 q an (dZ G2 B0);have hY:w2.heap[w1.heap.size]?=some (cells Y 59 (0,0)):=by
  have e:((w1.alloc (cells Y 59)).alloc (cells Z 59)).heap[w1.heap.size]?=some (cells Y 59 (0,0)):=axb w1 _ _;refine(q.block _ (gs e).1 (fun h=>?_)).trans e;have:=(O.lt _ h.symm).2;have:=G1.size;omega
 have ne:∀{t:Nat},t≠64->∀{k:Nat} {o:Array Value} {f:Nat×Nat},w2.heap[k]?=some (cells o t f)->(w2.setCell ⟨g+1,1,none⟩ v').heap[k]?=w2.heap[k]?:=fun ht _ _ _ hk=>hso (by exact aa hk b1 ht)
 refine⟨cr b1,iA b1,?_,?_,?_,?_,?_⟩
 ·rw[hss b1];rfl
 ·exact(hso (by show g≠g+1;omega)).trans b0
 ·exact aj O2 fun k o f hk=>ne an hk
 ·refine Gr.setCell ?_ (by show w.heap.size<=g+1;omega) _;exact(G.trans G2).grown q (fun b e=>by have:=(O.lt b e).1;omega)
 ·exact(cr ((ne an hY).trans hY)).trans hy
theorem Ak (h:W.heap[g]?=some (cells #[z0,z1] t (0,0)))(a b):((W.setCell ⟨g,0,none⟩ a).setCell ⟨g,1,none⟩ b).heap[g]?=some (cells #[a,b] t (0,0)):=by have h0:=awE W g 0 _ _ a h;exact awE _ g 1 _ _ b h0
theorem wF (h:W.ownsRow base 59 5 v n xs)(hb:W.heap[g]?=some (cells #[z0,z1] 64 (0,0)))(hg:g<=base)(a b):((W.setCell ⟨g,0,none⟩ a).setCell ⟨g,1,none⟩ b).ownsRow g 59 5 v n xs:=
 lQ (aj h fun k o f hk=>by
  have e:=aa hk hb an;rw[hso (by exact e),hso (by exact e)]) hg
theorem QG (x0 x1 x2 x3 x4):∀u∈([int i64 x0,int i64 x1,int i64 x2,int i64 x3,int i32 x4]:List Value),u.oneCell'=true:=by intro u hu;simp only[arG,arN,awQ]at hu;rcases hu with rfl|rfl|rfl|rfl|rfl<;>rfl
theorem wG (cap)(pc)(M:Mem w ao n l)(T:Dw.oV w)(hn:n<=4096)(h0:0<=pc)(h1:pc<4294967296):Calls prog 15 #[slice ao n cap,int .u32 pc] w fun e w'=>∃v,e=returned (agg #[int .u32 (bkP n pc),v])/\w'.ownsRow w.heap.size 59 5 v (bkX n l pc).length (uQ (bkX n l pc))/\Gr w w':=by
 have e1:bkP n pc=pc:=ak;have e2:bkX n l pc=blk l pc 16 0:=ak;rw[e1,e2];have HT:∀W:World,Gr w W->Dw.oV W:=fun W G=>⟨fun i v e=>(G.cell _ (by exact Dw.lt_of_cell (T.shapes i v e))).trans (T.shapes i v e),fun i v e=>(G.cell _ (by exact Dw.lt_of_cell (T.uppers i v e))).trans (T.uppers i v e)⟩
 have F:Hid (∀(k:Nat) (W:World),Gr w W->_):=fun k W G=>Hf.oG cap (at4 pc k) (M.of G) (HT W G) ab (zG pc k).1 (zG pc k).2
 obtain⟨i0,hi,hz0,hz1,hz2⟩:=awS Qp;clear e1 e2 M T HT;go_enter func15,ntmps15;go_wp2_with fail;go_loopw [15] (fun i wr=>∃(k:Nat) (xs:List Int) (a:Option Addr) (c:Nat),k<=16/\i=int .u32 k/\xs.length=k/\xs++blk l pc (16-k) k=blk l pc 16 0/\wr.heap[w.heap.size+1]?=some (cells #[int .u32 pc,slice a k c] 64 (0,0))/\wr.heap[w.heap.size]?=some (cells #[int .u32 0,slice none 0 0] 64 (0,0))/\wr.ownsRow (w.heap.size+2) 59 5 (slice a k c) k (uQ xs)/\Gr w wr) (fun i _=>16-(intOf i).toNat)
 case atStart=>exact⟨0,[],none,0,ab,rfl,rfl,rfl,axs w _ _,axb w _ _,awG _ _ _ _,br.alloc _⟩
 case round=>
  obtain⟨k,xs,a,c,hk,rfl,hl,hx,B1,B0,O,G⟩:=hrel;have HX:=kH hx;have HL:=kH hl;have HB1:=kH B1;have HB0:=kH B0;have HO:=kH O;have HG:=kH G;have hlt:=(arz.1 B1).1;clear hl hx B1 B0 O G;by_cases h16:k<16
  ·have FK:Hid _:=F k;have HA:Hid (¬kJ l (at4 pc k)=0->xs=blk l pc 16 0):=fun h=>by
    have e:=HX;rw[show 16-k=(15-k)+1 by omega,qG h,arP]at e;exact e
   have HBe:Hid (kJ l (at4 pc k)=0->eU (Dc.aO (aT l 13 (at4 pc k)))=true->xs++[aT l 13 (at4 pc k)]=blk l pc 16 0):=fun h h2=>by
    have e:=HX;rw[show 16-k=(15-k)+1 by omega,qH h h2]at e;exact e
   have HC:Hid (kJ l (at4 pc k)=0->eU (Dc.aO (aT l 13 (at4 pc k)))=false->(xs++[aT l 13 (at4 pc k)])++blk l pc (16-(k+1)) (k+1)=blk l pc 16 0):=fun h h2=>by
    have e:=HX.out;rw[show 16-k=(15-k)+1 by omega,zI h h2]at e;rw[show 16-(k+1)=15-k by omega];simpa using e
   have HIC:Hid (sJ (aT l 13 (at4 pc k))=[int i64 (Dc.aO (aT l 13 (at4 pc k))),int i64 (Dc.jd (Dc.aM (Dc.aO (aT l 13 (at4 pc k)))) (aT l 13 (at4 pc k))),int i64 (Dc.dh (Dc.aM (Dc.aO (aT l 13 (at4 pc k)))) (aT l 13 (at4 pc k))),int i64 (Dc.cz (Dc.aM (Dc.aO (aT l 13 (at4 pc k)))) (aT l 13 (at4 pc k))),int i32 (Dc.bU (Dc.aM (Dc.aO (aT l 13 (at4 pc k)))) (aT l 13 (at4 pc k)))]):=rfl;clear HX;unfold Dw.kv Dw.dm at FK;clear F;generalize aT l 13 (at4 pc k)=X at *
   generalize kJ l (at4 pc k)=cc at *
   generalize Dc.jd (Dc.aM (Dc.aO X)) X=x1 at *
   generalize Dc.dh (Dc.aM (Dc.aO X)) X=x2 at *
   generalize Dc.cz (Dc.aM (Dc.aO X)) X=x3 at *
   generalize Dc.bU (Dc.aM (Dc.aO X)) X=x4 at *
   generalize Dc.aO X=x0 at *
   have FK2:=kH FK;clear FK;by_cases hc:cc=0
   ·subst hc;go_wp2_with fail;refine(FK2 _ HG).mono ?_;rintro e w1 ⟨rfl,G1⟩;have aU:=kH G1;have q1:w1.cell? ⟨w.heap.size+1,1,none⟩=some (slice a k c):=awl _ _ _ _ _ _ (dZ G1 HB1);have hlt1:=arD hlt G1.size;clear G1 FK2;go_wp2_with (at_builtin;refine awW _ rfl (tmp 30) (tmp 32) 62 rfl (w.heap.size+2) 59 i0 (agg #[int i64 0,int i64 0,int i64 0,int i64 0,int i32 0]) 5 40 underlying62 hi hz0 hz1 hz2 rfl an (slice a k c) k (uQ xs) rfl (aD HO ((aU.alloc _).alloc _)) ⟨w1.heap.size+1,0,none⟩ 1 1 [int i64 x0,int i64 x1,int i64 x2,int i64 x3,int i32 x4] rfl rfl (Gg aq aq aq aq aq) (QG _ _ _ _ _) bj ab aE ?_;intro v' w2 hown hgrow _;obtain⟨a',c',rfl⟩:=oK hown;obtain⟨z1,z2,A0⟩:=aft rfl HB1 HB0 HO HG aU hgrow hown (y:=int i64 x0) aq;have HF:Hid (Aft w (w2.setCell ⟨w.heap.size+1,1,none⟩ (slice a' (k+1) c')) w.heap.size w1.heap.size pc (slice a' (k+1) c') (k+1) (uQ xs++[int i64 x0,int i64 x1,int i64 x2,int i64 x3,int i32 x4]) (int i64 x0)):=A0;have z3:=A0.op;clear A0 hown hgrow);clear z1 z2 z3 HO HB1 HB0 HG aU q1;generalize w2.setCell ⟨w.heap.size+1,1,none⟩ (slice a' (k+1) c')=w3 at *
    have BV:Hid ((xs++[X]).length=k+1):=by unfold Hid;rw[ary,HL.out];rfl
    have HCC:Hid (uQ (xs++[X])=uQ xs++[int i64 x0,int i64 x1,int i64 x2,int i64 x3,int i32 x4]):=by unfold Hid;rw[Qd,HIC.out]
    cases hL:eU x0 with
    |true=>
     have HE:Hid (∀W:World,Calls prog 30 #[int i64 x0] W fun e w'=>e=returned (.bool true)/\w'=W):=fun W=>by have:=DK x0 W;rwa[hL]at this
     have HXE:Hid _:=HBe aq hL;refine(HE _).mono ?_;rintro e w4 ⟨rfl,rfl⟩;clear HE hL HBe HC HA;have HOW:Hid (w4.ownsRow (w.heap.size+2) 59 5 (slice a' (k+1) c') (blk l pc 16 0).length (uQ (blk l pc 16 0))):=(by unfold Hid;rw[<-HXE.out,BV.out,HCC.out];exact HF.own);have q0:w4.cell? ⟨w.heap.size+1,0,none⟩=some (int .u32 pc):=awl _ _ _ _ _ _ HF.b1;have q1:w4.cell? ⟨w.heap.size+1,1,none⟩=some (slice a' (k+1) c'):=awl _ _ _ _ _ _ HF.b1;have r0:w4.cell? ⟨w.heap.size,0,none⟩=some (int .u32 0):=awl _ _ _ _ _ _ HF.b0;have r1:w4.cell? ⟨w.heap.size,1,none⟩=some (slice none 0 0):=awl _ _ _ _ _ _ HF.b0;have f0:∀j,w4.frozen? ⟨w.heap.size,j,none⟩=false:=fun j=>awM _ _ _ _ _ HF.b0
     go_wp2_with fail;refine awt (v:=agg #[int .u32 pc,slice a' (k+1) c']) (awZ results15 _ _ _ _ _ (0,0) _ rfl (Ak HF.b0 _ _) underlying64 rfl iB) rfl ⟨_,rfl,?_,?_⟩
     ·exact wF HOW HF.b0 ab _ _
     ·exact(HF.gr.setCell (arA _) _).setCell (arA _) _
    |false=>
     have HE:Hid (∀W:World,Calls prog 30 #[int i64 x0] W fun e w'=>e=returned (.bool false)/\w'=W):=fun W=>by have:=DK x0 W;rwa[hL]at this
     have HXE:Hid _:=HC aq hL;refine(HE _).mono ?_;rintro e w4 ⟨rfl,rfl⟩;clear HE hL HBe HC HA;go_wp2_with fail;go_roundw
     case rel=>exact⟨k+1,xs++[X],a',c',ab,by go_num,BV,HXE,HF.b1,HF.b0,by rw[HCC.out];exact HF.own,HF.gr⟩
     case measure=>simp[intOf];omega
   ·have hb:(cc ==0)=false:=by simpa using hc
    have HXE:Hid _:=HA hc;go_wp2_with fail;refine(FK2 _ HG).mono ?_;rintro e w1 ⟨rfl,G1⟩;have aU:=kH G1;have Xc:Hid (Gr wr (w1.alloc (cells #[int i64 x0,int i64 x1,int i64 x2,int i64 x3,int i32 x4] 59))):=G1.alloc _;clear G1 FK2;have HOW:Hid ((w1.alloc (cells #[int i64 x0,int i64 x1,int i64 x2,int i64 x3,int i32 x4] 59)).ownsRow (w.heap.size+2) 59 5 (slice a (k) c) (blk l pc 16 0).length (uQ (blk l pc 16 0))):=(by unfold Hid;rw[<-HXE.out,HL.out];exact aD HO Xc);have q0:(w1.alloc (cells #[int i64 x0,int i64 x1,int i64 x2,int i64 x3,int i32 x4] 59)).cell? ⟨w.heap.size+1,0,none⟩=some (int .u32 pc):=awl _ _ _ _ _ _ (dZ Xc HB1);have q1:(w1.alloc (cells #[int i64 x0,int i64 x1,int i64 x2,int i64 x3,int i32 x4] 59)).cell? ⟨w.heap.size+1,1,none⟩=some (slice a (k) c):=awl _ _ _ _ _ _ (dZ Xc HB1);have r0:(w1.alloc (cells #[int i64 x0,int i64 x1,int i64 x2,int i64 x3,int i32 x4] 59)).cell? ⟨w.heap.size,0,none⟩=some (int .u32 0):=awl _ _ _ _ _ _ (dZ Xc HB0);have r1:(w1.alloc (cells #[int i64 x0,int i64 x1,int i64 x2,int i64 x3,int i32 x4] 59)).cell? ⟨w.heap.size,1,none⟩=some (slice none 0 0):=awl _ _ _ _ _ _ (dZ Xc HB0);have f0:∀j,(w1.alloc (cells #[int i64 x0,int i64 x1,int i64 x2,int i64 x3,int i32 x4] 59)).frozen? ⟨w.heap.size,j,none⟩=false:=fun j=>awM _ _ _ _ _ (dZ Xc HB0)
    go_wp2_with fail;refine awt (v:=agg #[int .u32 pc,slice a (k) c]) (awZ results15 _ _ _ _ _ (0,0) _ rfl (Ak (dZ Xc HB0) _ _) underlying64 rfl iB) rfl ⟨_,rfl,?_,?_⟩
    ·exact wF HOW (dZ Xc HB0) ab _ _
    ·exact((HG.trans Xc).setCell (arA _) _).setCell (arA _) _
  ·have k16:k=16:=ab;subst k16;have HXE:Hid (xs=blk l pc 16 0):=by have:=HX;rw[OI,arP]at this;exact this
   clear F HX;have HOW:Hid (wr.ownsRow (w.heap.size+2) 59 5 (slice a (16) c) (blk l pc 16 0).length (uQ (blk l pc 16 0))):=(by unfold Hid;rw[<-HXE.out,HL.out];exact HO);have q0:wr.cell? ⟨w.heap.size+1,0,none⟩=some (int .u32 pc):=awl _ _ _ _ _ _ HB1;have q1:wr.cell? ⟨w.heap.size+1,1,none⟩=some (slice a (16) c):=awl _ _ _ _ _ _ HB1;have r0:wr.cell? ⟨w.heap.size,0,none⟩=some (int .u32 0):=awl _ _ _ _ _ _ HB0;have r1:wr.cell? ⟨w.heap.size,1,none⟩=some (slice none 0 0):=awl _ _ _ _ _ _ HB0;have f0:∀j,wr.frozen? ⟨w.heap.size,j,none⟩=false:=fun j=>awM _ _ _ _ _ HB0
   go_wp2_with fail;refine awt (v:=agg #[int .u32 pc,slice a (16) c]) (awZ results15 _ _ _ _ _ (0,0) _ rfl (Ak HB0 _ _) underlying64 rfl iB) rfl ⟨_,rfl,?_,?_⟩
   ·exact wF HOW HB0 ab _ _
   ·exact(HG.setCell (arA _) _).setCell (arA _) _
end Bk
namespace En
variable[Inhabited Hc.bH]
open Mm Hh Hc Mc
theorem uD {o}{a}(hw:Region.wanted o (yielded ops a.tmps)=true)(t)(m x)(ho:o.op=.lookup t m x false)(v)(h:∀W,S W->(Instr.lookup t (a.eval m) (a.eval x) false).run P W=.ok v W):YieldsIf P ops S o v a:=
 .inl ⟨hw,fun w hS=>by
  unfold execOp;simp only[ho,axl,h w hS,aw8];rfl⟩
theorem zMs (w):(zeroValue 177).run prog w=.ok (slice none 0 0) w:=al
theorem Md {mb}{D}(h:w.ownsMap prog 37 Rh mb mn D)(h0:0<=pc)(h1:pc<4294967296)(hv:∀z,D.atKey (.int .u32 pc) z=.held v):(Instr.lookup 92 (.map (some mb)) (.int .u32 pc) false).run prog w=.ok v w:=by obtain⟨u,ps,hrun,hu⟩:=h.lookup kU underlying92 (zMs w) (zd:=.held (.slice none 0 0)) (zp:=[]) rfl (aeU h0 h1);rw[hv]at hu;have:some (DataW.held u,([]:List MemPlace))=some (.held v,ps):=hu;injection this with this;injection this with this;injection this with this;rw[hrun,this]
theorem QH (p)(a)(n c):(#[int .u32 p,slice a n c]:Array Value).all (·.oneCell')=true:=by refine aw0 ?_;intro v hv;simp only[arG,arN,awQ]at hv;rcases hv with rfl|rfl<;>rfl
section
variable{lo:Nat}{room:Int}{a:Option Addr}{mb:Nat}{D:DataW Value}{s:Sh}{L:List Kc.Bv}
theorem DL (E:Ew lo w base g room M gh hc O a n cap mb mn D s L pu sl)(hn:n*32<=140737488351232)(h0:0<=pc)(h1:pc<4294967296)(hp:0<=Kc.place pc L 0)(hm:Kc.x9 pc L∈L)(hpc:(Kc.x9 pc L).pc=pc):Calls prog 85 #[.pointer (some ⟨g,0,none⟩),.int .u32 pc] w fun e w'=>∃ba bc ca cn cc,e=.returned (.tuple #[.agg #[.int .u32 pc,.slice ba (Kc.x9 pc L).is.length bc],.slice ca cn cc])/\Ts.Ct w' ca cn (Ts.aY pc (Kc.x9 pc L).is 0)/\Gr w w':=by
 have HE:Hid (Ew lo w base g room M gh hc O a n cap mb mn D s L pu sl):=E;obtain⟨ca,cn,cc,hat,hct⟩:=E.code _ hm;rw[hpc]at hat hct;have HLk:Hid (∀W:World,W.ownsMap prog 37 Rh mb mn D->(Instr.lookup 92 (.map (some mb)) (.int .u32 pc) false).run prog W=.ok (.slice ca cn cc) W):=fun W h=>Md h h0 h1 hat
 have HCt:Hid (Ts.Ct w ca cn (Ts.aY pc (Kc.x9 pc L).is 0)):=hct;have HFd:Hid (∀W:World,Gr w W->Calls prog 109 #[.agg #[.int .i64 room,.slice a n cap,.int .i64 pu,.int .i64 sl],.int .u32 pc] W fun e w'=>∃sa sn sc,e=.returned (.tuple #[.agg #[.int .u32 pc,.slice sa sn sc],.bool true])/\(Kc.x9 pc L).is.length=sn/\Gr W w'):=fun W G=>by
  have:=Kc.Dv cap (E.bt.of G).bs hn room pu sl pc;rw[awC hp]at this;refine this.mono ?_;rintro e w' ⟨x,y,rfl,⟨hx,_,sa,sn,sc,hy,I,_⟩,G'⟩;subst hx hy;rw[hpc];exact⟨sa,sn,sc,rfl,I.len,G'⟩
 have g4:=E.c4;have g5:=E.c5;have g6:=E.c6;have g7:=E.c7;have hgl:g<w.heap.size:=E.bw.lt;clear E hp hm hpc hat hct hn h0 h1;generalize Kc.x9 pc L=fb at *
 go_enter func85,ntmps85;go_wp2_with fail;refine(HFd _ br).mono ?_;rintro e w1 ⟨sa,sn,sc,rfl,hsn,G1⟩;have Xd:Hid (fb.is.length=sn):=hsn;have aU:Hid (Gr w w1):=br.trans G1;have HR1:=kH (Kc.bB G1 (awk w _));clear G1 hsn HFd g4 g5 g6 g7;go_wp2_with fail;obtain⟨o,ho⟩:∃o:Nat,o=w1.heap.size:=⟨_,rfl⟩;refine aK (fun W=>W.heap[o]?=some (.cells #[.int .u32 pc,.slice sa sn sc] 64 (0,0))/\W.heap[w.heap.size]?=some (.cells #[.int .u32 0,.slice none 0 0] 64 (0,0))/\Gr w W) ?_ ?_
 ·have hlt:=(arz.1 HR1).1;subst ho;exact⟨awk w1 _,Kc.bB br HR1,aU.alloc _⟩
 rw[<-ho];have hol:w.heap.size<o:=by rw[ho];exact(arz.1 HR1).1
 clear ho HR1 aU;clear w1;rintro W ⟨K0,K1,GW⟩;have BU:Hid (Gr w W):=GW;have DN:Hid (W.heap[w.heap.size]?=some (.cells #[.int .u32 0,.slice none 0 0] 64 (0,0))):=K1;have HS:Hid ((fun W=>W.cell? ⟨o,0,none⟩=some (.int .u32 pc)/\W.cell? ⟨o,1,none⟩=some (.slice sa sn sc)/\W.cell? ⟨g,8,none⟩=some (.map (some mb))/\W.ownsMap prog 37 Rh mb mn D) W):=⟨awl _ _ _ _ _ _ K0,awl _ _ _ _ _ _ K0,(HE.of GW).c8,(HE.of GW).map⟩;have HK0:Hid (W.heap[o]?=some (.cells #[.int .u32 pc,.slice sa sn sc] 64 (0,0))):=K0;clear K0 K1 GW;refine awN (S:=fun W=>W.cell? ⟨o,0,none⟩=some (.int .u32 pc)/\W.cell? ⟨o,1,none⟩=some (.slice sa sn sc)/\W.cell? ⟨g,8,none⟩=some (.map (some mb))/\W.ownsMap prog 37 Rh mb mn D) al ?_ (fun hHeld=>?_)
 ·exact HS
 have bA:Hid _:=hHeld;clear hHeld;refine tK 0 (.agg #[.int .u32 pc,.slice sa sn sc]) bA ?_;refine tK 1 (.pointer (some ⟨g,0,none⟩)) bA ?_;refine tK 2 (.pointer (some ⟨g,0,none⟩)) bA ?_;refine tK 3 (.pointer (some ⟨g,8,none⟩)) bA ?_;refine tK 4 (.map (some mb)) bA ?_;refine tK 5 (.int .u32 pc) bA ?_;refine aw1 (i:=6) (v:=.slice ca cn cc) rfl al al al (fun _ _ _ h=>h) (uD (by rfl) 92 (.tmp 24) (.tmp 25) rfl _ (fun W hW=>by simpa[Act.eval]using HLk W hW.2.2.2)) bA ?_;simp only[arx,aru,arv,Act.put,arp,art,ars];refine bD (i:=7) al rfl rfl 64 (.tmp 4) (.tmp 20) rfl w.heap.size #[.int .u32 pc,.slice sa sn sc] aw aw 64 _ DN Bk.iB rfl (QH _ _ _ _) ?hs ?_
 case hs=>
  have e0:(W.drew.setRow w.heap.size #[.int .u32 pc,.slice sa sn sc]).heap[o]?=some (.cells #[.int .u32 pc,.slice sa sn sc] 64 (0,0)):=(awI _ _ _ _ ab).trans HK0;have EW:=(HE.of (ag BU (arA _) #[.int .u32 pc,.slice sa sn sc]));exact⟨awl _ _ _ _ _ _ e0,awl _ _ _ _ _ _ e0,EW.c8,EW.map⟩
 have HSf:Hid ((fun W=>W.cell? ⟨o,0,none⟩=some (.int .u32 pc)/\W.cell? ⟨o,1,none⟩=some (.slice sa sn sc)/\W.cell? ⟨g,8,none⟩=some (.map (some mb))/\W.ownsMap prog 37 Rh mb mn D) (W.drew.setRow w.heap.size #[.int .u32 pc,.slice sa sn sc])):=by
  have e0:(W.drew.setRow w.heap.size #[.int .u32 pc,.slice sa sn sc]).heap[o]?=some (.cells #[.int .u32 pc,.slice sa sn sc] 64 (0,0)):=(awI _ _ _ _ ab).trans HK0;have EW:=(HE.of (ag BU (arA _) #[.int .u32 pc,.slice sa sn sc]));exact⟨awl _ _ _ _ _ _ e0,awl _ _ _ _ _ _ e0,EW.c8,EW.map⟩
 refine tK 8 (.slice ca cn cc) HSf ?_;refine awT al ?_ _;go_wp2_with fail;refine awt (v:=.tuple #[.agg #[.int .u32 pc,.slice sa sn sc],.slice ca cn cc]) (Hr.aL results85 _ _ _ _ _ (0,0) _ _ rfl rfl (awJ _ _ _ _ _ (0,0) DN) underlying64 rfl Bk.iB) rfl ?_;have GF:Gr w (W.drew.setRow w.heap.size #[.int .u32 pc,.slice sa sn sc]):=ag (BU.drew) (arA _) _;exact⟨sa,sc,ca,cn,⟨cc,by rw[Xd.out]⟩,HCt.of GF,GF⟩
theorem wH (E:Ew lo w base g room M gh hc O a n cap mb mn D s L pu sl)(hn:n*32<=140737488351232)(hl:L.length<=64)(hr0:0<=room)(hr1:room<=64)(ni:mn<=1000000)(h0:0<=pc)(h1:pc<4294967296)(hp:Kc.place pc L 0 = -1)(nC:s.m.length<=4096)(T:Dw.oV w)(Q:Ts.Tq w):Calls prog 85 #[pointer (some ⟨g,0,none⟩),int .u32 pc] w fun e w'=>∃ba bc ca cn cc,e=returned (tuple #[agg #[int .u32 pc,slice ba (Bk.blk s.m pc 16 0).length bc],slice ca cn cc])/\Ts.Ct w' ca cn (Ts.aY pc ((Bk.blk s.m pc 16 0).map Ts.vK) 0)/\ ((Bk.blk s.m pc 16 0).length=0->Ev 0 w' base g room s L pu sl mn)/\(0<(Bk.blk s.m pc 16 0).length->Ev 0 w' base g room s (Kc.ku room L ⟨pc,(Bk.blk s.m pc 16 0).map Ts.vK⟩) (Kc.uy room pu L ⟨pc,(Bk.blk s.m pc 16 0).map Ts.vK⟩) sl (mn+1))/\Fm base w w':=by
 obtain⟨ma,mc,rfl,MM⟩:=E.bw.mem.mem;have HE:Hid (Ew lo w base g room (slice ma s.m.length mc) gh hc O a n cap mb mn D s L pu sl):=E;have HFd:Hid (∀W:World,Gr w W->Calls prog 109 #[agg #[int i64 room,slice a n cap,int i64 pu,int i64 sl],int .u32 pc] W fun e w'=>∃p0 sa sn sc,e=returned (tuple #[agg #[int .u32 p0,slice sa sn sc],.bool false])/\Gr W w'):=fun W G=>by
  have:=Kc.Dv cap (E.bt.of G).bs hn room pu sl pc;rw[awq ab]at this;refine this.mono ?_;rintro e w' ⟨x,y,rfl,⟨hx,_,sa,sn,sc,hy,_,_⟩,G'⟩;subst hx hy;exact⟨_,sa,sn,sc,rfl,G'⟩
 have h16:(Bk.blk s.m pc 16 0).length<=16:=(Ts.gG s.m pc 16 0).1;have EM:Hid (∀W:World,Gr w W->Calls prog 15 #[slice ma s.m.length mc,int .u32 pc] W fun e w'=>∃va vc,e=returned (agg #[int .u32 pc,slice va (Bk.blk s.m pc 16 0).length vc])/\w'.ownsRow W.heap.size 59 5 (slice va (Bk.blk s.m pc 16 0).length vc) (Bk.blk s.m pc 16 0).length (Bk.uQ (Bk.blk s.m pc 16 0))/\Gr W w'):=fun W G=>by
  have:=Bk.wG mc pc (MM.of G) (Ts.WZ T W G) nC h0 h1;have e1:Bk.bkP s.m.length pc=pc:=ak;have e2:Bk.bkX s.m.length s.m pc=Bk.blk s.m pc 16 0:=ak;rw[e1,e2]at this;refine this.mono ?_;rintro e w' ⟨v,rfl,OW,G'⟩;obtain⟨va,vc,rfl⟩:=Bk.oK OW;exact⟨va,vc,rfl,OW,G'⟩
 have HTM:Hid (∀(W:World) (va:Option Addr) (vc b:Nat),Gr w W->W.ownsRow b 59 5 (slice va (Bk.blk s.m pc 16 0).length vc) (Bk.blk s.m pc 16 0).length (Bk.uQ (Bk.blk s.m pc 16 0))->Calls prog 110 #[agg #[int .u32 pc,slice va (Bk.blk s.m pc 16 0).length vc]] W fun e w'=>∃ca cn cc,e=returned (slice ca cn cc)/\Ts.Ct w' ca cn (Ts.aY pc ((Bk.blk s.m pc 16 0).map Ts.vK) 0)/\Gr W w'):=fun W va vc b G OW=>Ts.QF pc vc OW (Ts.yL s.m pc) (Ts.WZ T W G) (Q.of G) h16
 have Zp:Hid (∀(W:World) (va:Option Addr) (vc b:Nat) (ca:Option Addr) (cn cc:Nat),Gr w W->W.ownsRow b 59 5 (slice va (Bk.blk s.m pc 16 0).length vc) (Bk.blk s.m pc 16 0).length (Bk.uQ (Bk.blk s.m pc 16 0))->Ts.Ct W ca cn (Ts.aY pc ((Bk.blk s.m pc 16 0).map Ts.vK) 0)->
   Calls prog 111 #[pointer (some ⟨g,0,none⟩),agg #[int .u32 pc,slice va (Bk.blk s.m pc 16 0).length vc],slice ca cn cc] W fun e w'=>e=returned (tuple #[])/\(((Bk.blk s.m pc 16 0).length=0->Gr W w')/\(0<(Bk.blk s.m pc 16 0).length->Ev W.heap.size w' base g room s (Kc.ku room L ⟨pc,(Bk.blk s.m pc 16 0).map Ts.vK⟩) (Kc.uy room pu L ⟨pc,(Bk.blk s.m pc 16 0).map Ts.vK⟩) sl (mn+1)))/\Fm base W w'):=fun W va vc b ca cn cc G OW C=>by
  by_cases hz:(Bk.blk s.m pc 16 0).length=0
  ·refine(Dy (E.of G) ab ni h0 h1 va _ vc ca cn cc 0 0 0 2 [] (fun h=>absurd h ab) (fun V GV=>(Kc.abE V room pu sl pc a va n cap _ vc (.inl ab) ab).mono fun e w' ⟨h1,h2⟩=>⟨none,0,0,h1,⟨Kc.Qs _ _ _,arA _⟩,h2⟩) (fun h=>absurd h ab) aq).mono ?_;rintro e w' ⟨rfl,k1,_,k3⟩;exact⟨rfl,⟨fun _=>k1 ab,fun h=>absurd h ab⟩,k3⟩
  ·have I:=Ts.QE OW (Ts.yL s.m pc);refine(Dy (E.of G) ab ni h0 h1 va _ vc ca cn cc room (Kc.uy room pu L ⟨pc,(Bk.blk s.m pc 16 0).map Ts.vK⟩) sl 0 (Kc.ku room L ⟨pc,(Bk.blk s.m pc 16 0).map Ts.vK⟩) (fun _=>rfl) (fun V GV=>Kc.aiZ cap ((E.of G).bt.of GV).bs hn room pu sl (b0:=⟨pc,(Bk.blk s.m pc 16 0).map Ts.vK⟩) ⟨rfl,⟨h0,h1⟩,va,_,vc,rfl,I.of GV,ab⟩ ab h16) (fun _ b hb=>?_) ?_).mono ?_
   ·rcases put_mem (b:=⟨pc,(Bk.blk s.m pc 16 0).map Ts.vK⟩) hp hb with hb|rfl
    ·refine .inl ⟨hb,fun e=>?_⟩;obtain⟨i,hi⟩:=asv.1 hb;have:=Zm hi;rw[e,hp]at this;omega
    ·exact .inr ⟨rfl,C⟩
   ·rw[(vO (room:=room) (pu:=pu) (b:=⟨pc,(Bk.blk s.m pc 16 0).map Ts.vK⟩) hp).1];split
    ·rw[asz,ary,ar4];omega
    ·rw[ary,ar4];omega
   ·rintro e w' ⟨rfl,_,k2,k3⟩;exact⟨rfl,⟨fun h=>absurd h hz,fun _=>k2 rfl⟩,k3⟩
 have g0:=E.bw.c0;have g4:=E.c4;have g5:=E.c5;have g6:=E.c6;have g7:=E.c7;have hgl:g<w.heap.size:=E.bw.lt;have hbl:base<=w.heap.size:=E.az;clear E MM hn hp nC T Q h16 ni hl hr0 hr1 h0 h1;generalize(Bk.blk s.m pc 16 0).map Ts.vK=IS at *
 generalize Bk.blk s.m pc 16 0=xs at *
 generalize s.m.length=mln at *
 go_enter func85,ntmps85;go_wp2_with fail;refine(HFd _ br).mono ?_;rintro e w1 ⟨p0,sa,sn,sc,rfl,G1⟩;have aU:=kH (br.trans G1);have HR1:=kH (Kc.bB G1 (awk w _));have q0:∀o,(w1.alloc o).cell? ⟨g,0,none⟩=some (slice ma mln mc):=fun o=>((aU.alloc o).cell _ (by exact hgl)).trans g0
 have hlt1:=(arz.1 HR1).1;go_wp2_with fail;refine(EM _ (aU.alloc _)).mono ?_;rintro e w2 ⟨va,vc,rfl,O2,G2⟩;have HG2:=kH ((aU.alloc _).trans G2);have HR2:=kH (Kc.bB G2 (Kc.bB br HR1));have kT:Hid (∃b,w2.ownsRow b 59 5 (slice va xs.length vc) xs.length (Bk.uQ xs)):=⟨_,O2⟩;have hlt2:=(arz.1 HR2).1;obtain⟨b2,O2⟩:=kT;have zS:=kH O2;go_wp2_with fail;refine(HTM _ va vc b2 (HG2.alloc _) (aD zS br)).mono ?_;rintro e w3 ⟨ca,cn,cc,rfl,C3,G3⟩;have eO:=kH ((HG2.alloc _).trans G3);have HR3:=kH (Kc.bB G3 (Kc.bB br HR2));have HB3:=kH (Kc.bB G3 (awk w2 _));have yx:=kH C3;have HOw:=kH (aD zS (br.trans G3));have b0:w3.cell? ⟨w2.heap.size,0,none⟩=some (int .u32 pc):=awl _ _ _ _ _ _ HB3;have b1:w3.cell? ⟨w2.heap.size,1,none⟩=some (slice va xs.length vc):=awl _ _ _ _ _ _ HB3;go_wp2_with fail;refine(Zp _ va vc b2 ca cn cc eO HOw yx).mono ?_;rintro e w4 ⟨rfl,V4,F4⟩;have HF4:=kH ((Fm.aJ eO hbl).trans F4);have HR4:=kH (F4.row HR3 an);have uC:=kH (F4.row HB3 an);have HC4:=kH (yx.to fun k o f e=>F4.keep k o _ f e an);have HV4:Hid ((xs.length=0->Gr w w4)/\(0<xs.length->Ev w3.heap.size w4 base g room s (Kc.ku room L ⟨pc,IS⟩) (Kc.uy room pu L ⟨pc,IS⟩) sl (mn+1))):=⟨fun h=>eO.trans (V4.1 h),V4.2⟩;have c0:w4.cell? ⟨w2.heap.size,0,none⟩=some (int .u32 pc):=awl _ _ _ _ _ _ uC;have c1:w4.cell? ⟨w2.heap.size,1,none⟩=some (slice va xs.length vc):=awl _ _ _ _ _ _ uC;have anM:=(arz.1 HR4).1;have hlt3:=(arz.1 HR3).1;go_wp2_with (refine awx rfl 64 _ _ rfl w.heap.size #[int .u32 pc,slice va xs.length vc] rfl rfl 64 #[int .u32 0,slice none 0 0] ?ss1 Bk.iB rfl (QH _ _ _ _) ?_;(case ss1=>exact HR4));refine awt (v:=tuple #[agg #[int .u32 pc,slice va xs.length vc],slice ca cn cc]) (Hr.aL results85 _ _ _ _ _ (0,0) _ _ rfl rfl (awJ _ _ _ _ _ (0,0) HR4) underlying64 rfl Bk.iB) rfl ?_;refine⟨va,vc,ca,cn,cc,rfl,HC4.to fun k o f e=>awI _ _ _ _ (aa e HR4 an),fun h=>?_,fun h=>?_,HF4.setRow hbl (arA _) _⟩
 ·exact⟨slice ma mln mc,gh,hc,O,a,n,cap,mb,D,(HE.of (ag (HV4.1 h) (arA _) _)).low⟩
 ·exact((HV4.2 h).row HR4 hlt3 _).low
end
end En
namespace Mc
variable[Inhabited Hc.bH]
open Mm Hh Hc
variable{ty:Nat}{rs:List Value}
theorem q8:∀(ss:List (Int×Int)) (i:Nat) (p:Int×Int),ss[i]?=some p→(tX ss)[i*2]?=some (int .u32 p.1)∧(tX ss)[i*2+1]?=some (int .u32 (Wd.lo (p.1+p.2)))
 | [],i,q,h=>by simp at h
 |p::r,0,q,h=>by simp at h;subst h;exact⟨rfl,rfl⟩
 |p::r,i+1,q,h=>by
  have ih:=q8 r i q (by simpa using h);have e:tX (p::r)=[int .u32 p.1,int .u32 (Wd.lo (p.1+p.2))]++tX r:=rfl;rw[e,arK aE,arK aE];simp only[arM,ar8];rw[show(i+1)*2-(0+1+1)=i*2 by omega,show(i+1)*2+1-(0+1+1)=i*2+1 by omega];exact ih
theorem jO {α:Type}{l:List α}{x:α}(h:l[i]?=some x):l.take (i+1)=l.take i++[x]:=by rw[arW,h];rfl
theorem Gh (hs)(h:U[m]?=some q):drops hs (U.take (m+1))=(drops hs (U.take m)).set q.1 (((drops hs (U.take m)).getD q.1 hN).hold false 0):=by rw[jO h,yo];rfl
theorem Me (k)(h:ss[i]?=some p)(hs):dL k (ss.take (i+1)) hs=dL k [p] (dL k (ss.take i) hs):=by rw[jO h,PM]
theorem Xe (w:World)(p)(v a b)(t:Nat):((w.setCell p v).alloc (cells #[a,b] t)).drew.cell? ⟨w.heap.size,0,none⟩=some a:=by
 have:=awk (w.setCell p v) (cells #[a,b] t);have e:(w.setCell p v).heap.size=w.heap.size:=aq;rw[e]at this;exact awl _ _ _ _ _ (0,0) this
theorem DR (w:World)(p p')(v v' a b)(t:Nat):(((w.setCell p v).setCell p' v').alloc (cells #[a,b] t)).drew.drew.cell? ⟨w.heap.size,0,none⟩=some a:=by
 have:=awk ((w.setCell p v).setCell p' v') (cells #[a,b] t);have e:((w.setCell p v).setCell p' v').heap.size=w.heap.size:=aq;rw[e]at this;exact awl _ _ _ _ _ (0,0) this
theorem DT {s}(B:Bw ty rs w base g M gh hc O s)(hcl:s.hs.length=c)(hc4:c≤4){d}{x}(D:Dq w b d x)(ok:d.h.Ok)(bd:∀p∈x.ax,0≤p.1∧0<p.2∧p.1+p.2≤4096)(hsl:x.ax.length<=1000000)(hol:s.out.length+x.out.length<=1000000)(hst:s.steps+x.n<=1000000000)(hk:k<c):Calls prog 58 #[pointer (some ⟨g,0,none⟩),int i64 k,agg (qA d)] w fun e w'=>e=returned (tuple #[])/\Bd ty rs w' base g (tk s k x)/\Fe ty base w w':=by
 obtain⟨sa,sc,wJ⟩:=(au D.ax).2.2;obtain⟨oa,oc,rfl⟩:=(au B.out).2.2;obtain⟨da,dc,hdo⟩:=(au D.out).2.2;obtain⟨da2,dc2,hdm,_⟩:=D.mem.mem;have HDO:=kH hdo;have HDM:=kH hdm;have hbw:=B.az;have g40:(qA d)[40]?=some (slice sa x.ax.length sc):=by rw[jT ok 3];simp[wJ]
 have g37:(qA d)[37]?=some (slice da2 x.m.length dc2):=by rw[jT ok 0];simp[hdm]
 have g38:(qA d)[38]?=some (slice da x.out.length dc):=by rw[jT ok 1];simp[hdo]
 have g39:(qA d)[39]?=some (int i64 x.n):=by rw[jT ok 2];simp[D.n]
 have HLD:=kH (aF ok);have HGR:Hid (∀j u,(hL d.h)[j]?=some u->(qA d)[j]?=some u):=fun j u hj=>by
  have:j<37:=by have:=(arw.1 hj).1;rwa[HLD.out]at this
  rw[Qj ok this];exact hj
 have yA:=kH ok;have HD:=kH D;have HB:=kH B;have hgl:=B.lt;have LD:gh<w.heap.size:=by obtain⟨_,e⟩:=B.row.row;exact(arz.1 e).1
 have aja:g≠gh:=by obtain⟨_,e⟩:=B.row.row;exact aa B.blk e B.t3
 have HCL:=kH hcl;have HBD:=kH bd;have HST:=kH wJ;clear D ok wJ B hcl bd hdo hdm;generalize qA d=QA at *
 generalize hn:x.ax.length=n at *
 have HN:=kH hn;clear hn;go_enter func58,ntmps58;go_wp2_with fail;go_loopw [13] (fun i wr=>∃i':Nat,i'<=n/\i=int i64 i'/\Bw ty rs wr base g M gh hc (slice oa s.out.length oc) ⟨dL k (x.ax.take i') s.hs,s.m,s.out,s.steps⟩/\Ch gh (w.alloc (cells QA 142)) wr) (fun i _=>n-(intOf i).toNat)
 case atStart=>
  refine⟨0,arQ _,rfl,?_,Ch.refl _ _⟩;rw[asX,mZ];exact HB.of br
 case round=>
  obtain⟨i,hi,rfl,B1,C1⟩:=hrel;have HB1:=kH B1;have jw:=kH C1;have HD1:=kH ((HD.gr br).ch (HB.row.of br) C1);clear B1 C1;by_cases hlt:i<n
  ·obtain⟨p,hp⟩:∃p,x.ax[i]?=some p:=⟨_,arq (by rw[HN.out];exact hlt)⟩;have HP:=kH hp;obtain⟨p0,p1,p2⟩:=HBD p (arE hp);obtain⟨sb,cp,hv,_⟩:=uP HD1.ax (by rw[HN.out];omega);rw[HST.out,HN.out]at hv;obtain rfl:sa=some ⟨sb,0,none⟩:=by injection hv
   have OS:wr.ownsRow b 175 2 (slice (some ⟨sb,0,none⟩) n sc) n (tX x.ax):=by have:=HD1.ax;rw[HST.out,HN.out]at this;exact this
   have s0:=(OS.cellAt _ ab).trans (q8 _ _ _ hp).1;have s1:=(OS.cellAt _ ab).trans (q8 _ _ _ hp).2;have EK:Hid ((dL k (x.ax.take i) s.hs).length=c):=by unfold Hid;rw[eX];exact HCL
   have UA:Hid (∀W:World,Gr wr W->Calls prog 84 #[pointer (some ⟨g,0,none⟩),int i64 k,agg #[int .u32 p.1,int .u32 (Wd.lo (p.1+p.2))]] W fun e w'=>∃v,e=returned v/\w'.ownsRow W.heap.size 159 2 v (aX k p (dL k (x.ax.take i) s.hs) c).length (Dk (aX k p (dL k (x.ax.take i) s.hs) c))/\Gr W w'):=fun W G=>by
    have:=Dl (HB1.of G) (by show(dL _ _ _).length<=4;rw[EK.out];exact hc4) k p p0 p1 p2;simp only[EK.out]at this;exact this
   have HNX:Hid (dL k (x.ax.take (i+1)) s.hs=drops (dL k (x.ax.take i) s.hs) (aX k p (dL k (x.ax.take i) s.hs) c)):=by
    unfold Hid;rw[Me k hp,<-Le,EK.out]
   have hUl:=oD k p (dL k (x.ax.take i) s.hs) c;have ajb:Hid (∀q∈aX k p (dL k (x.ax.take i) s.hs) c,q.1<c):=CY k p _ c;clear hv OS hp;generalize dL k (x.ax.take i) s.hs=hs at *
   generalize aX k p hs c=U at *
   generalize Wd.lo (p.1+p.2)=pt at *
   generalize p.1=pf at *
   go_wp2_with fail;refine(UA _ br).mono ?_;rintro e w2 ⟨v,rfl,OL,G2⟩;obtain⟨la,lc,rfl⟩:=(au OL).2.2;have HG2:=kH (br.trans G2);have HOL:Hid (w2.ownsRow 0 159 2 (slice la U.length lc) U.length (Dk U)):=⟨OL.1,OL.2.imp (fun h=>h) (fun⟨a,b,c,h1,h2,h3⟩=>⟨a,b,c,h1,arQ _,h3⟩)⟩;have HB2:=kH (HB1.of HG2);have mh:=kH (jw.gr HG2);clear OL G2 UA s0 s1 HB1 jw HD1;go_wp2_with fail;go_loopw [22] (fun i wq=>∃m:Nat,m<=U.length/\i=int i64 m/\Bw ty rs wq base g M gh hc (slice oa s.out.length oc) ⟨drops hs (U.take m),s.m,s.out,s.steps⟩/\Ch gh w2 wq) (fun i _=>U.length-(intOf i).toNat)
   case atStart=>
    refine⟨0,arQ _,rfl,?_,Ch.refl _ _⟩;rw[asX];exact HB2
   case round=>
    obtain⟨m,hm,rfl,B3,C3⟩:=hrel;have HB3:=kH B3;have yx:=kH C3;clear B3 C3;by_cases hlt2:m<U.length
    ·obtain⟨q,hq⟩:∃q,U[m]?=some q:=⟨_,arq hlt2⟩;obtain⟨lb,cp2,hv,_⟩:=uP HOL ab;obtain rfl:la=some ⟨lb,0,none⟩:=by injection hv
     have OL3:=aj HOL fun k o f hk=>iZ HB2.row yx an hk
     have l0:=(OL3.cellAt _ ab).trans (zV _ _ _ hq).1;have l1:=(OL3.cellAt _ ab).trans (zV _ _ _ hq).2;have HDS:=kH (Gh hs hq);have hq1:=ajb q (arE hq);have hdl:(drops hs (U.take m)).length=c:=by rw[sH];exact EK
     have HDL:=kH hdl;have hgq:(drops hs (U.take m))[q.1]?=some ((drops hs (U.take m)).getD q.1 hN):=by rw[arq ab];simp[List.getD,show q.1<(drops hs (U.take m)).length by omega]
     have okq:=HB3.row.ok _ (arE hgq);have c33:=(HB3.row.cell hgq ab).trans (bu okq 1);have c34:=(HB3.row.cell hgq ab).trans (bu okq 2);have f33:wr.frozen? ⟨gh,q.1*37+33,none⟩=false:=HB3.row.fz _;have f34:wr.frozen? ⟨gh,q.1*37+34,none⟩=false:=HB3.row.fz _;have kg1:wr.cell? ⟨g,1,none⟩=some (slice (some ⟨gh,0,none⟩) c hc):=by have:=HB3.c1;simp only[HDL.out]at this;exact this
     have hgw:=(arz.1 HB3.blk).1;have anR:gh<wr.heap.size:=by obtain⟨_,e⟩:=HB3.row.row;exact(arz.1 e).1
     have n1:gh≠g:=fun e=>aja e.symm
     have n2:gh≠wr.heap.size:=ab;have HGQ:=kH hgq;have Zw:Hid ((drops hs (U.take m)).getD q.1 hN).Ok:=okq;clear hq hv OL3 hdl hgq okq;obtain⟨q1,q2⟩:=q;simp only at *
     generalize(drops hs (U.take m)).getD q1 hN=hq at *
     generalize drops hs (U.take m)=hsm at *
     go_wp2_with fail;go_region_held3 (fun W=>W.cell? ⟨g,1,none⟩=some (slice (some ⟨gh,0,none⟩) c hc)/\W.cell? ⟨wr.heap.size,0,none⟩=some (int i64 q1)) (refine⟨?_,?_⟩<;>first|(go_keep;done)|exact Xe _ _ _ _ _ _|exact DR _ _ _ _ _ _ _ _) (fail);go_wp2_with fail;go_region_held3 (fun W=>W.cell? ⟨g,1,none⟩=some (slice (some ⟨gh,0,none⟩) c hc)/\W.cell? ⟨wr.heap.size,0,none⟩=some (int i64 q1)) (refine⟨?_,?_⟩<;>first|(go_keep;done)|exact DR _ _ _ _ _ _ _ _) (fail);go_wp2_with fail;go_roundw
     case rel=>
      have ok1:Hv.Ok { hq with held:=false }:=⟨Zw.len,Zw.reg,Zw.oW,Zw.gP,Zw.zy,Zw.BO⟩;have R1:=HB3.row.set HGQ ab (lh Zw false) ok1;have hg1:(hsm.set q1 { hq with held:=false })[q1]?=some { hq with held:=false }:=by rw[asL (by rw[HDL.out];exact hq1)]
      have R2:=R1.set hg1 ab (iF ok1 0) (h':=hq.hold false 0) (Zw.hold false (x:=0) ab ab);rw[List.set_set]at R2;have CH:∀o:Obj,Ch gh wr (((wr.setCell ⟨gh,q1*37+33,none⟩ (.bool false)).setCell ⟨gh,q1*37+34,none⟩ (int .u32 0)).alloc o).drew.drew:=fun o=>Ch.gr (((Ch.refl gh wr).setCell _ _).setCell _ _) (Gr.drew (Gr.drew (Gr.alloc (Gr.refl _) _)))
      refine⟨m+1,ab,by go_num,?_,yx.trans (CH _)⟩;rw[HDS.out];exact HB3.ch (CH _) (R2.of (Gr.drew (Gr.drew (Gr.alloc (Gr.refl _) _)))) (by show(hsm.set q1 _).length=hsm.length;rw[asn]) (((HB3.hz.1.setCell _ _).setCell _ _).of (Gr.drew (Gr.drew (Gr.alloc (Gr.refl _) _))))
     case measure=>simp[intOf];omega
    ·have HBN:Hid (Bw ty rs wr base g M gh hc (slice oa s.out.length oc) ⟨dL k (x.ax.take (i+1)) s.hs,s.m,s.out,s.steps⟩):=by
      have:=HB3;rw[show m=U.length by omega,ash]at this;unfold Hid;rw[HNX.out];exact this
     have HCN:=kH (mh.trans yx);clear HB3 yx HNX HOL HB2 mh;go_wp2_with fail;go_roundw
     case rel=>exact⟨i+1,ab,by go_num,HBN,HCN⟩
     case measure=>simp[intOf];omega
-- TAIL
  ·have uC:Hid (Bw ty rs wr base g M gh hc (slice oa s.out.length oc) ⟨dL k x.ax s.hs,s.m,s.out,s.steps⟩):=by
    have:=HB1;rw[show i=x.ax.length by rw[HN.out];omega,ash]at this;exact this
   have HBX:=kH ((iZ (HB.row.of br) jw an (awk w _)).trans (awk w _));have Xf:Hid ((dL k x.ax s.hs).length=c):=by unfold Hid;rw[eX];exact HCL
   have kg1:wr.cell? ⟨g,1,none⟩=some (slice (some ⟨gh,0,none⟩) c hc):=by have:=uC.c1;simp only[Xf.out]at this;exact this
   have HRG:Hid (wr.rangeAt w.heap.size 0 (hL d.h)):=fun j u hj=>by rw[arH,awl _ _ _ _ _ _ HBX.out];exact HGR j u hj
   have HTH:=kH (uC.row.there (i:=k) (arq (by rw[Xf.out];exact hk)));have HCA:Hid (Fe ty base w wr):=Fe.trans (Fe.aJ ((Gr.refl w).alloc _) hbw) (Fe.ch (HB.row.of br) jw HB.bh aE);clear HB1 jw HBD;generalize hh4:dL k x.ax s.hs=hs4 at *
   have HH4:=kH hh4;clear hh4;go_wp2_with fail;refine awN (S:=fun W=>W.cell? ⟨g,1,none⟩=some (slice (some ⟨gh,0,none⟩) c hc)/\W.rangeAt w.heap.size 0 (hL d.h)) al ?_ (fun hHeld=>?_)
   ·exact⟨kg1,HRG⟩
   have bA:=kH hHeld;clear hHeld;refine tK 0 (pointer (some ⟨g,0,none⟩)) bA ?_;refine tK 1 (pointer (some ⟨g,0,none⟩)) bA ?_;refine tK 2 (pointer (some ⟨g,0,none⟩)) bA ?_;refine tK 3 (pointer (some ⟨g,0,none⟩)) bA ?_;refine tK 4 (pointer (some ⟨g,1,none⟩)) bA ?_;refine tK 5 (slice (some ⟨gh,0,none⟩) c hc) bA ?_;refine tK 6 (int i64 k) bA ?_;refine tK 7 (pointer (some ⟨w.heap.size,0,none⟩)) bA ?_;refine aw1 (i:=8) (v:=agg (hL d.h).toArray) rfl al al al (fun _ _ _ h=>h) ?hy bA ?_
   case hy=>exact aw9 (by rfl) 43 (tmp 55) rfl w.heap.size 0 aw (hL d.h) _ (fun W hW=>hW.2) underlying43 rfl (by rw[HLD.out];exact iH)
   simp only[Act.put,arp,art,ars];refine tK 9 (pointer (some ⟨gh,k*37,none⟩)) bA ?_;have C5:Ch gh wr (wr.drew.setCells gh (k*37) (hL d.h)):=Ch.setCells (Ch.aJ (Gr.drew (Gr.refl _))) _ _;have B5:=uC.ch C5 ((uC.row.of (Gr.drew (Gr.refl _))).put (by rw[Xf.out];exact hk) yA) (by show(hs4.set k _).length=hs4.length;rw[asn]) ((uC.hz.1.of (Gr.drew (Gr.refl _))).setCells _ _);have X5:=(iZ uC.row C5 an HBX).trans HBX;have D5:=HD1.ch uC.row C5;have L5:=Fe.trans HCA (Fe.ch uC.row C5 HB.bh uC.az);refine nE (i:=10) al rfl rfl 43 (tmp 57) (tmp 56) rfl gh (k*37) (hL d.h).toArray aw aw (by rw[asb,HLD.out];exact HTH) (by rw[asb,HLD.out];exact iH) (rW d.h) ?_ ?_
   ·exact⟨by have:=B5.c1;simp only[asn,Xf.out]at this;exact this,fun j u hj=>by rw[arH,awl _ _ _ _ _ _ X5];exact HGR j u hj⟩
   clear bA;refine awT al ?_ _;have e0:(hL d.h).toArray.toList=hL d.h:=rfl;rw[e0];clear HTH HRG kg1 C5 uC HBX HD1 HCA;generalize wr.drew.setCells gh (k*37) (hL d.h)=w5 at *
   have NI:=kH B5;have HX5:=kH X5;have HD5:=kH D5;have Zx:=kH L5;have k0:=B5.c0;have f0:=B5.fz 0;have m37:=(awl _ _ _ _ _ _ X5).trans g37;clear B5 X5 D5 L5;go_wp2_with fail;have B6:=NI.aiR (by have:=HD5.mem;rw[HDM.out]at this;exact this);have X6:(w5.setCell ⟨g,0,none⟩ (slice da2 x.m.length dc2)).heap[w.heap.size]?=some (cells QA 142 (0,0)):=(awR _ _ _ _ (by show w.heap.size≠g;omega)).trans HX5;have D6:(w5.setCell ⟨g,0,none⟩ (slice da2 x.m.length dc2)).ownsRow b 37 1 d.out x.out.length (x.out.map (Value.int .u32)):=aj HD5.out.out fun _ _ _ hk=>dM NI.out _ _ HB.out.t2.symm hk
   have L6:Fe ty base w (w5.setCell ⟨g,0,none⟩ (slice da2 x.m.length dc2)):=Fe.setCell Zx NI.blk HB.bg _ _;clear NI HX5 HD5 Zx k0 f0 m37;generalize w5.setCell ⟨g,0,none⟩ (slice da2 x.m.length dc2)=w6 at *
   have Zy:Hid (Bw ty rs w6 base g (slice da2 x.m.length dc2) gh hc (slice oa s.out.length oc) ⟨hs4.set k d.h,x.m,s.out,s.steps⟩):=B6;have HX6:Hid (w6.heap[w.heap.size]?=some (cells QA 142 (0,0))):=X6;have HD6:Hid (w6.ownsRow b 37 1 (slice da x.out.length dc) x.out.length (x.out.map (Value.int .u32))):=by rw[HDO.out]at D6;exact D6
   have HL6:Hid (Fe ty base w w6):=L6;have k2:w6.cell? ⟨g,2,none⟩=some (slice oa s.out.length oc):=B6.c2;have m38:w6.cell? ⟨w.heap.size,38,none⟩=some (slice da x.out.length dc):=(awl _ _ _ _ _ _ X6).trans g38;have hb6:base<=w6.heap.size:=B6.az;have HO6:Hid (w6.ownsRow base 37 1 (slice oa s.out.length oc) s.out.length (s.out.map (Value.int .u32))):=B6.out;clear B6 X6 D6 L6;obtain⟨i0,hi0,hz0,hz1,hz2⟩:=awS afy;go_region_law (refine uz rfl (tmp 70) (tmp 72) rfl underlying36 hi0 hz0 hz1 hz2 rfl an ar ar (aD HO6 (by repeat (first|exact Gr.refl _|refine Gr.drew ?_))) (Src.own (aD HD6 (by repeat (first|exact Gr.refl _|refine Gr.drew ?_)))) (LH _) bj ab (by exact hb6) ?_;intro v' w7 hown hgrow;obtain⟨va,vc,rfl⟩:=(au hown).2.2;have X7:=(eY (aD HO6 (Gr.drew (Gr.refl _))) hgrow an (Hr.ae (Gr.drew (Gr.refl _)) HX6));rw[Hr.ae (Gr.drew (Gr.refl _)) HX6.out]at X7;have Zv:Hid (w7.heap[w.heap.size]?=some (cells QA 142 (0,0))):=X7;rw[<-asl,<-ary]at hown;obtain⟨c2,z2,B7,L7⟩:=(Zy.of (Gr.drew (Gr.refl _))).grown hgrow hown;have uS:Hid _:=B7;have Jf:Hid (Fe ty base w _):=Fe.trans HL6 (Fe.trans (Fe.drew (Fe.refl base w6)) L7);clear X7 B7 L7 hown hgrow)
   all_goals
    have B8:=uS;have L8:=Jf;have X8:(w7.setCell ⟨g,2,none⟩ (slice va (s.out.length+x.out.length) vc)).heap[w.heap.size]?=some (cells QA 142 (0,0)):=(awR _ _ _ _ (by show w.heap.size≠g;omega)).trans Zv;clear uS Jf Zv Zy HX6 HD6 HL6 HO6 k2 m38 c2 z2;rw[ary]at B8 L8;generalize w7.setCell ⟨g,2,none⟩ (slice va (s.out.length+x.out.length) vc)=w8 at *
    have HB8:Hid (Bw ty rs w8 base g (slice da2 x.m.length dc2) gh hc (slice va (s.out.length+x.out.length) vc) ⟨hs4.set k d.h,x.m,s.out++x.out,s.steps⟩):=B8;have HL8:Hid (Fe ty base w w8):=L8;have k3:w8.cell? ⟨g,3,none⟩=some (int i64 s.steps):=B8.c3;have f3:w8.frozen? ⟨g,3,none⟩=false:=B8.fz 3;have m39:w8.cell? ⟨w.heap.size,39,none⟩=some (int i64 x.n):=(awl _ _ _ _ _ _ X8).trans g39;clear B8 L8 X8;go_wp2_with fail;go_region
   all_goals
    go_end0;refine⟨rfl,?_,?_⟩
    ·have B9:=HB8.aiS (s.steps+x.n);have e9:tk s k x=⟨hs4.set k d.h,x.m,s.out++x.out,s.steps+x.n⟩:=by unfold tk;rw[HH4.out,HD.out.hh]
     rw[e9];rw[Int.natCast_add]at B9;exact⟨_,_,_,_,B9.of (Gr.drew (Gr.refl _))⟩
    ·exact Fe.drew (Fe.setCell HL8 HB8.blk HB.bg _ _)
end Mc
end Go.Proofs.YtiadhbmnfjfioaaGreatDoor
