/- ours -/
import Derived.Test.YtiadhbmnfjfioaaGreatDoorX39
import Derived.Test.YtiadhbmnfjfioaaGreatDoorX40
set_option linter.unusedVariables false
set_option linter.unusedSimpArgs false
set_option maxHeartbeats 8000000
set_option maxRecDepth 100000
set_option linter.unusedSectionVars false
namespace Go.Proofs.YtiadhbmnfjfioaaGreatDoor
open Go.Proofs.Tryz
open Go.ChangeShapes Go.WideShapes Go.ChangeAt Go.RowKit
variable [Inhabited Hc.bN]
namespace Vp
open Mm Hh Hc Mc Ud As En

variable {w w' w1 w2 :World} {ty g B :Nat} {M H P U :Value} {p :Pl}
theorem Qa {K K0:Nat}{m:List UInt8}{hs:List Hv}(X:Mx w K M H m hs)(h:K0<=K):Mx w K0 M H m hs:=by
 have up:∀{e sz n:Nat} {v:Value} {xs:List Value},w.ownsRow K e sz v n xs->w.ownsRow K0 e sz v n xs:=fun q=>by
  rcases q with⟨a,b|⟨k,cap,cur,hv,hk,r⟩⟩
  ·exact⟨a,.inl b⟩
  ·exact⟨a,.inr ⟨k,cap,cur,hv,apr h hk,r⟩⟩
 exact⟨up X.mem,up X.hrt,X.ok⟩
theorem fE.pre {D:Value×Value×Value}{r:Pl×List Nat}{e:Ending}(F:Fx (Dm g D.1 D.2.1 D.2.2) (Dm g M H P) w w1)(h:fE ty B w1 g M H P r e w'):fE ty B w g D.1 D.2.1 D.2.2 r e w':=by obtain⟨he,M',H',P',U',X,F2⟩:=h;exact⟨he,M',H',P',U',X,F.trans F2⟩
theorem abn {fr':Bool}{kF:List Uv}{U':Value}{w9:World}{ma ha oa:Option Addr}{mc hc:Nat}(X:Pr ty B w g M H P U p)(hw:wrong p.m p.hs p.ps=0)(hus:fr'=true→kF=gD (ik p) (jS (ik p) (nums p.ps)))(G:Gr w w9)(R:Ry w9 w.heap.size (.slice ma (aL (ik p) (nums p.ps)).m.length mc) (.slice ha (aL (ik p) (nums p.ps)).hs.length hc) oa (aL (ik p) (nums p.ps)))(hu:fr'=true->∃ua uc,U'=.slice ua kF.length uc/\kF.length<=uc/\Un w9 ua kF.length kF)(un:∃ua n uc,U'=.slice ua n uc)(Q:Ch g w9 w')(hb:w'.heap[g]?=some (.cells #[.slice ma (aL (ik p) (nums p.ps)).m.length mc,.slice ha (aL (ik p) (nums p.ps)).hs.length hc,.slice none 0 0,U',.bool fr'] ty (0,0))){e:Ending}(he:e=.returned (str (UN (aL (ik p) (nums p.ps))))):fE ty B w g M H P (nJ p kF fr') e w':=by
 have ok:lg ⟨(aL (ik p) (nums p.ps)).m,(aL (ik p) (nums p.ps)).hs,[],kF,fr'⟩:=by
  have:=aas X.ok (us:=kF) (fr:=fr') (fun _ h=>hus h);unfold nJ at this;rw[at7 hw]at this;exact this
 have e0:nJ p kF fr'=(⟨(aL (ik p) (nums p.ps)).m,(aL (ik p) (nums p.ps)).hs,[],kF,fr'⟩,UN (aL (ik p) (nums p.ps))):=by unfold nJ;rw[at7 hw]
 rw[e0];obtain⟨X2,F2⟩:=Pr.ran (w2:=w') X G Q hb R.mx ok hu un;exact⟨he,_,_,_,_,X2,F2⟩
structure Rf (p:Pl) (E K:Nat) (w:World) (x:Value×Value×Value×Value):Prop where
 one:x.1.oneCell'=true/\x.2.1.oneCell'=true/\x.2.2.1.oneCell'=true/\x.2.2.2.oneCell'=true
 yes:E=0->wrong p.m p.hs p.ps=0/\∃ma mc ha hc oa oc,x=(.slice ma (aL (ik p) (nums p.ps)).m.length mc,.slice ha (aL (ik p) (nums p.ps)).hs.length hc,.slice oa (aL (ik p) (nums p.ps)).out.length oc,.int .i64 (aL (ik p) (nums p.ps)).steps)/\Ry w K x.1 x.2.1 oa (aL (ik p) (nums p.ps))
theorem Rf.gr {E K:Nat}{x:Value×Value×Value×Value}(h:Rf p E K w x)(G:Gr w w'):Rf p E K w' x:=
 ⟨h.one,fun e=>by
  obtain⟨h1,ma,mc,ha,hc,oa,oc,h2,h3⟩:=h.yes e;exact⟨h1,ma,mc,ha,hc,oa,oc,h2,h3.gr G⟩⟩
theorem Rf.row {E K b:Nat}{x:Value×Value×Value×Value}{o cs:Array Value}{t:Nat}(h:Rf p E K w x)(hb:w.heap[b]?=some (.cells o t (0,0)))(ht:t≠5/\t≠43)(hn:Rg.Nn w b):Rf p E K (w.setRow b cs) x:=
 ⟨h.one,fun e=>by
  obtain⟨h1,ma,mc,ha,hc,oa,oc,h2,h3⟩:=h.yes e;exact⟨h1,ma,mc,ha,hc,oa,oc,h2,h3.row hb ht.1 ht.2 hn⟩⟩
def Uf (p:Pl) (E:Nat) (w:World) (u:Value):Prop:=(∃ua n uc,u=.slice ua n uc)/\(E=0->∃ua uc,u=.slice ua (gD (ik p) (jS (ik p) (nums p.ps))).length uc/\(gD (ik p) (jS (ik p) (nums p.ps))).length<=uc/\Un w ua (gD (ik p) (jS (ik p) (nums p.ps))).length (gD (ik p) (jS (ik p) (nums p.ps))))
theorem Uf.gr {E:Nat}{u:Value}(h:Uf p E w u)(G:Gr w w'):Uf p E w' u:=
 ⟨h.1,fun e=>by
  obtain⟨ua,uc,h1,h2,h3⟩:=h.2 e;exact⟨ua,uc,h1,h2,h3.of G⟩⟩
theorem Uf.row {E b:Nat}{u:Value}{cs:Array Value}(h:Uf p E w u)(hn:Rg.Nn w b):Uf p E (w.setRow b cs) u:=
 ⟨h.1,fun e=>by
  obtain⟨ua,uc,h1,h2,h3⟩:=h.2 e;exact⟨ua,uc,h1,h2,abj h3 hn⟩⟩
structure Bf (p:Pl) (n K:Nat) (w:World) (x:Value×Value):Prop where
 one:x.1.oneCell'=true/\x.2.oneCell'=true
 yes:n<=p.us.length->∃ma mc ha hc,x=(.slice ma (bE (p.hs,p.m) (p.us.drop (p.us.length-n))).2.length mc,.slice ha (bE (p.hs,p.m) (p.us.drop (p.us.length-n))).1.length hc)/\Mx w K x.1 x.2 (bE (p.hs,p.m) (p.us.drop (p.us.length-n))).2 (bE (p.hs,p.m) (p.us.drop (p.us.length-n))).1
theorem Bf.gr {n K:Nat}{x:Value×Value}(h:Bf p n K w x)(G:Gr w w'):Bf p n K w' x:=
 ⟨h.one,fun e=>by
  obtain⟨ma,mc,ha,hc,h1,h2⟩:=h.yes e;exact⟨ma,mc,ha,hc,h1,h2.of G⟩⟩
theorem Bf.row {n K b:Nat}{x:Value×Value}{o cs:Array Value}{t:Nat}(h:Bf p n K w x)(hb:w.heap[b]?=some (.cells o t (0,0)))(ht:t≠5/\t≠43):Bf p n K (w.setRow b cs) x:=
 ⟨h.one,fun e=>by
  obtain⟨ma,mc,ha,hc,h1,h2⟩:=h.yes e;exact⟨ma,mc,ha,hc,h1,h2.to fun k o t f ht' e=>sV (by rcases ht' with rfl|rfl;exact aa e hb ht.1.symm;exact aa e hb ht.2.symm)⟩⟩
section
variable {N :Nat} {T :List (TypeId × Array Value)} (hT : ∀ x ∈ T, (x.1 ≠ 5 /\ x.1 ≠ 43) /\ Rg.zn x.2 =true)
def VS (p:Pl) (E:Nat):Rg.Kd N T:=Rg.zW (fun x:(Value×Value×Value×Value)×Value=>.tuple #[.agg #[x.1.1,x.1.2.1,x.1.2.2.1,x.1.2.2.2],x.2,.int .i64 E]) (fun w x=>Rf p E N w x.1/\Uf p E w x.2) (fun g h=>⟨h.1.gr g,h.2.gr g⟩) fun hb ht hn h=>⟨h.1.row hb (hT _ ht).1 (hn (hT _ ht).2),h.2.row (hn (hT _ ht).2)⟩
def Ia (p:Pl) (E:Nat):Rg.Kd N T:=Rg.zW (fun x:(Value×Value×Value×Value)×Value×Value×Value×Value=>.tuple #[.agg #[x.1.1,x.1.2.1,x.1.2.2.1,x.1.2.2.2],.agg #[x.2.1,x.2.2.1,x.2.2.2.1,x.2.2.2.2],.int .i64 E]) (fun w x=>Rf p E N w x.1/\x.2.1.oneCell'=true/\x.2.2.1.oneCell'=true/\x.2.2.2.1.oneCell'=true/\x.2.2.2.2.oneCell'=true) (fun g h=>⟨h.1.gr g,h.2⟩) fun hb ht hn h=>⟨h.1.row hb (hT _ ht).1 (hn (hT _ ht).2),h.2⟩
def kSh (p:Pl) (E:Nat):Rg.Kd N T:=Rg.zW (fun x:Value×Value×Value×Value=>.agg #[x.1,x.2.1,x.2.2.1,x.2.2.2]) (fun w x=>Rf p E N w x) (fun g h=>h.gr g) fun hb ht hn h=>h.row hb (hT _ ht).1 (hn (hT _ ht).2)
def kUs (p:Pl) (E:Nat):Rg.Kd N T:=Rg.zW (fun u:Value=>u) (fun w u=>Uf p E w u) (fun g h=>h.gr g) fun _ ht hn h=>h.row (hn (hT _ ht).2)
def kCa:Rg.Kd N T:=Rg.zW (fun x:Value×Value×Value×Value=>.agg #[x.1,x.2.1,x.2.2.1,x.2.2.2]) (fun _ x=>x.1.oneCell'=true/\x.2.1.oneCell'=true/\x.2.2.1.oneCell'=true/\x.2.2.2.oneCell'=true) (fun _ h=>h) fun _ _ _ h=>h
def kBk (p:Pl) (n E:Nat):Rg.Kd N T:=Rg.zW (fun x:Value×Value=>.tuple #[.agg #[x.1,x.2],.int .i64 E]) (fun w x=>Bf p n N w x) (fun g h=>h.gr g) fun hb ht _ h=>h.row hb (hT _ ht).1
def kMa (p:Pl) (n:Nat):Rg.Kd N T:=Rg.zW (fun x:Value×Value=>.agg #[x.1,x.2]) (fun w x=>Bf p n N w x) (fun g h=>h.gr g) fun hb ht _ h=>h.row hb (hT _ ht).1
end
theorem Pr.parts {ma ha pa:Option Addr}{mc hc pc:Nat}(X:Pr ty B w g (.slice ma p.m.length mc) (.slice ha p.hs.length hc) (.slice pa p.ps.length pc) U p):Mem w ma p.m.length p.m/\(ma=none->mc=0)/\Hs w ha p.hs.length p.hs/\Ps w pa p.ps.length p.ps:=by obtain⟨xB,mc',ha',hc',pa',pc',ua,un,uc,e1,e2,e3,_,h1,h2,h3,h4⟩:=X.open;injection e1 with a1 _ a2;injection e2 with b1 _ b2;injection e3 with c1 _ c2;subst a1 a2 b1 b2 c1 c2;exact⟨h1,h2,h3,h4⟩
theorem xQ (p:Pl):((wrong p.m p.hs p.ps).toNat:Int)=wrong p.m p.hs p.ps:=by have:=(mI p.m p.hs p.ps).1;omega
section
variable {ma ha pa :Option Addr} {mc hc pc :Nat} {W :World}
theorem aiL (X:Pr ty B w g (.slice ma p.m.length mc) (.slice ha p.hs.length hc) (.slice pa p.ps.length pc) U p)(T:Tz B w)(G:Gr w W):Calls prog 10 #[.agg #[.slice ma p.m.length mc,.slice ha p.hs.length hc],.slice pa p.ps.length pc] W fun e w'=>∃x:(Value×Value×Value×Value)×Value,e=.returned (.tuple #[.agg #[x.1.1,x.1.2.1,x.1.2.2.1,x.1.2.2.2],x.2,.int .i64 ((wrong p.m p.hs p.ps).toNat:Nat)])/\(Rf p (wrong p.m p.hs p.ps).toNat w.heap.size w' x.1/\Uf p (wrong p.m p.hs p.ps).toNat w' x.2)/\Gr W w':=by
 obtain⟨Mm,hcap,VT,Pp⟩:=X.parts;have en:=xQ p;by_cases hw:wrong p.m p.hs p.ps=0
 ·refine(PY mc hc pc p.m.length (T.gr G) (Mm.of G) hcap (VT.of G) (Pp.of G) hw).mono ?_;rintro e w' ⟨a,b,c,d,e1,f,h,i,rfl,R,h1,h2,G2⟩;refine⟨((_,_,_,_),_),by rw[hw];rfl,⟨⟨⟨rfl,rfl,rfl,rfl⟩,fun _=>⟨hw,a,b,c,d,e1,f,rfl,⟨Qa R.mx G.size,R.out⟩⟩⟩,⟨⟨_,_,_,rfl⟩,fun _=>⟨h,i,rfl,h2,h1⟩⟩⟩,G2⟩
 ·have b1:=X.ok.m4;have b2:=X.ok.h4;have b3:=X.ok.p3;refine(UX mc hc pc p.m.length rfl (VT.of G) (Pp.of G) (by omega) (by omega) (by omega) hw).mono ?_;rintro e w' ⟨rfl,G2⟩;have h0:(wrong p.m p.hs p.ps).toNat≠0:=by omega
  exact⟨((_,_,_,_),_),by rw[en],⟨⟨⟨rfl,rfl,rfl,rfl⟩,fun h=>absurd h h0⟩,⟨⟨_,_,_,rfl⟩,fun h=>absurd h h0⟩⟩,G2⟩
theorem aiM {room:Nat}(hr:room<4294967296)(X:Pr ty B w g (.slice ma p.m.length mc) (.slice ha p.hs.length hc) (.slice pa p.ps.length pc) U p)(T:Tz B w)(G:Gr w W):Calls prog 12 #[.agg #[.slice ma p.m.length mc,.slice ha p.hs.length hc],.slice pa p.ps.length pc,.int .i64 (room:Int)] W fun e w'=>∃x:(Value×Value×Value×Value)×Value×Value×Value×Value,e=.returned (.tuple #[.agg #[x.1.1,x.1.2.1,x.1.2.2.1,x.1.2.2.2],.agg #[x.2.1,x.2.2.1,x.2.2.2.1,x.2.2.2.2],.int .i64 (ET p room:Nat)])/\(Rf p (ET p room) w.heap.size w' x.1/\x.2.1.oneCell'=true/\x.2.2.1.oneCell'=true/\x.2.2.2.1.oneCell'=true/\x.2.2.2.2.oneCell'=true)/\Gr W w':=by
 obtain⟨Mm,hcap,VT,Pp⟩:=X.parts;by_cases hE:ET p room=0
 ·obtain⟨hw,h6⟩:wrong p.m p.hs p.ps=0/\room<=64:=by
   have hw:=mI p.m p.hs p.ps;unfold ET at hE;split at hE
   ·rename_i h1;split at hE<;>omega
   ·omega
  refine(PZ mc hc pc p.m.length (T.gr G) (Mm.of G) hcap (VT.of G) (Pp.of G) hw (by omega) (by omega)).mono ?_;rintro e w' ⟨a,b,c,d,e1,f,c1,c2,c3,c4,c5,c6,rfl,R,G2⟩;exact⟨((_,_,_,_),_,_,_,_),by rw[hE];rfl,⟨⟨⟨rfl,rfl,rfl,rfl⟩,fun _=>⟨hw,a,b,c,d,e1,f,rfl,⟨Qa R.mx G.size,R.out⟩⟩⟩,rfl,rfl,rfl,rfl⟩,G2⟩
 ·have b1:=X.ok.m4;have b2:=X.ok.h4;have b3:=X.ok.p3;have H:Calls prog 12 #[.agg #[.slice ma p.m.length mc,.slice ha p.hs.length hc],.slice pa p.ps.length pc,.int .i64 (room:Int)] W fun e w'=>∃ma1 mc1 ha1 hc1 oa1 oc1 k2 k4,e=.returned (.tuple #[.agg #[.slice ma1 0 mc1,.slice ha1 0 hc1,.slice oa1 0 oc1,.int .i64 0],.agg #[.int .i64 0,.slice k2 0 k4,.int .i64 0,.int .i64 0],.int .i64 (ET p room:Nat)])/\Gr W w':=by
   letI:Inhabited Hc.bN:=⟨⟨w.heap.size⟩⟩
   have h0:aah w ma ha pa p.m.length mc p.hs.length hc p.ps.length pc (room:Int) (ET p room:Nat):=by
    unfold ET at hE ⊢;by_cases hw:wrong p.m p.hs p.ps=0
    ·rw[at7 hw]at hE ⊢;by_cases h6:64<room
     ·rw[at7 h6]at hE ⊢;exact UH mc hc pc p.m.length (room:Int) Mm hcap VT Pp hw (.inr ⟨by omega,by omega⟩) (apn _)
     ·rw[at6 h6]at hE;exact absurd rfl hE
    ·rw[at6 hw,xQ];exact aai mc hc pc p.m.length (room:Int) rfl VT Pp (by omega) (by omega) (by omega) hw
   refine(h0 W G).mono ?_;rintro e w' ⟨v,a,c,rfl,⟨x1,x2,x3,x4,x5,x6,rfl,_⟩,G2⟩;exact⟨x1,x2,x3,x4,x5,x6,a,c,rfl,G2⟩
  refine H.mono ?_;rintro e w' ⟨x1,x2,x3,x4,x5,x6,a,c,rfl,G2⟩;exact⟨((_,_,_,_),_,_,_,_),rfl,⟨⟨⟨rfl,rfl,rfl,rfl⟩,fun h=>absurd h hE⟩,rfl,rfl,rfl,rfl⟩,G2⟩
end
structure Ran (ty f:Nat):Prop where
 y:∀{w:World} {g:Nat} {M H P U:Value} {oa:Option Addr} {n oc st:Nat} {fr:Value} {ma ha:Option Addr} {mn mc hn hc:Nat} {l:List Nat},w.heap[g]?=some (.cells #[M,H,P,U,fr] ty (0,0))->Ns .u32 w oa n l->(∀b o,oa=some ⟨b,o,none⟩->0<n->b≠g)->(∀x∈l,x<4294967296)->n<=200000->st<=200000->(∀{W:World},Ch g w W->gz W)->
  Calls prog f #[.pointer (some ⟨g,0,none⟩),.agg #[.slice ma mn mc,.slice ha hn hc,.slice oa n oc,.int .i64 st],.int .i64 0] w fun e w'=>e=.returned (str (bH JP (st::l)))/\w'.heap[g]?=some (.cells #[.slice ma mn mc,.slice ha hn hc,.slice none 0 0,U,fr] ty (0,0))/\Ch g w w'
 n:∀{w:World} {g e:Nat} {v0 v1 v2 v3:Value},e≠0->e<=100->(v0.oneCell'=true/\v1.oneCell'=true/\v2.oneCell'=true/\v3.oneCell'=true)->(∀{W:World},Gr w W->gz W)->
  Calls prog f #[.pointer (some ⟨g,0,none⟩),.agg #[v0,v1,v2,v3],.int .i64 e] w fun e' w'=>e'=.returned (str (bH zu [e]))/\Gr w w'
theorem Ran.yes {f:Nat}{fr':Bool}{kF:List Uv}{U':Value}{w9 w8:World}{x:Value×Value×Value×Value}(HR:Ran ty f)(X:Pr ty B w g M H P U p)(T:Tz B w)(hus:fr'=true→kF=gD (ik p) (jS (ik p) (nums p.ps)))(G:Gr w w9)(R:Rf p 0 w.heap.size w9 x)(hu:fr'=true->∃ua uc,U'=.slice ua kF.length uc/\kF.length<=uc/\Un w9 ua kF.length kF)(un:∃ua n uc,U'=.slice ua n uc)(Q:Ch g w9 w8)(hb:w8.heap[g]?=some (.cells #[M,H,P,U',.bool fr'] ty (0,0))):Calls prog f #[.pointer (some ⟨g,0,none⟩),.agg #[x.1,x.2.1,x.2.2.1,x.2.2.2],.int .i64 0] w8 (fE ty B w g M H P (nJ p kF fr')):=by
 obtain⟨hw,ma,mc,ha,hc,oa,oc,rfl,R⟩:=R.yes rfl;have og:=PT X.ok hw;have h1:=og.few;have h2:=og.st;have N9:=aex R.out (fun x hx=>(og.w x hx).1);have X9:=X.gr G;have nb:∀b o,oa=some ⟨b,o,none⟩->0<(aL (ik p) (nums p.ps)).out.length->b≠g:=fun b o e h0=>by
  obtain⟨b',o',e',_,hc'⟩:=R.out.spot h0;rw[e]at e';injection e' with e';injection e' with e1 e2;subst e1 e2;have:=hc' 0 h0;rintro rfl;exact(X9.Xw _ _ this _).2 rfl
 have N8:Ns .u32 w8 oa (aL (ik p) (nums p.ps)).out.length ((aL (ik p) (nums p.ps)).out.map Int.toNat):=⟨N9.len,fun h0=>by
  obtain⟨b,o,e,hb',hc'⟩:=N9.spot h0;exact⟨b,o,e,apq hb' Q.size,fun t x hx=>(aui (a:=⟨b,o+t,none⟩) (Q.block b hb' (fun h=>by injection h with h;exact nb b o e h0 h))).trans (hc' t x hx)⟩⟩
 refine(HR.y hb N8 (fun b o e h0=>nb b o e h0) (fun x hx=>?_) (by omega) (by omega) (fun {W} q=>(T.below ?_).PX)).mono ?_
 ·obtain⟨y,hy,rfl⟩:=apK.1 hx;have:=og.w y hy;omega
 ·have:Ch g w W:=((Ch.refl g w).gr G).trans (Q.trans q);exact this.below X.bg X.le
 ·rintro e w' ⟨he,hb',Q'⟩;exact abn X hw hus G R hu un (Q.trans Q') hb' he
theorem VU {n:Nat}{w9:World}{ma ha:Option Addr}{mc hc:Nat}(X:Pr ty B w g M H P U p)(hf:p.fr=true)(hn:n≤p.us.length)(G:Gr w w9)(Y:Mx w9 w.heap.size (.slice ma (bE (p.hs,p.m) (p.us.drop (p.us.length-n))).2.length mc) (.slice ha (bE (p.hs,p.m) (p.us.drop (p.us.length-n))).1.length hc) (bE (p.hs,p.m) (p.us.drop (p.us.length-n))).2 (bE (p.hs,p.m) (p.us.drop (p.us.length-n))).1)(Q:Ch g w9 w')(hb:w'.heap[g]?=some (.cells #[.slice ma (bE (p.hs,p.m) (p.us.drop (p.us.length-n))).2.length mc,.slice ha (bE (p.hs,p.m) (p.us.drop (p.us.length-n))).1.length hc,P,U,.bool false] ty (0,0))){e:Ending}(he:e=.returned (str Ce)):fE ty B w g M H P (kW p [n]) e w':=by
 obtain⟨_,_,h1,h2,h3⟩:=zy X.ok hf hn;have e0:kW p [n]=({ p with hs:=(bE (p.hs,p.m) (p.us.drop (p.us.length-n))).1,m:=(bE (p.hs,p.m) (p.us.drop (p.us.length-n))).2,fr:=false },Ce):=by simp only[kW,at7 (show p.fr=true/\n<=p.us.length from⟨hf,hn⟩)]
 rw[e0];have ok:lg { p with m:=(bE (p.hs,p.m) (p.us.drop (p.us.length-n))).2,hs:=(bE (p.hs,p.m) (p.us.drop (p.us.length-n))).1,fr:=false }:=
  ⟨by show(bE _ _).2.length<=_;rw[h3];exact X.ok.m4,by show(bE _ _).1.length<=_;rw[h2];exact X.ok.h4,h1,X.ok.p3,X.ok.pk,fun h=>(by cases h),fun h=>(by cases h)⟩
 obtain⟨X2,F2⟩:=Pr.aaY (w2:=w') X G Q hb Y ok;exact⟨he,_,_,_,_,X2,F2⟩
theorem aeM {n:Nat}{ua:Option Addr}{uc:Nat}{ma ha:Option Addr}{mc hc:Nat}(o:lg p)(hf:p.fr=true)(hn:n<=p.us.length)(Mm:Mem w ma p.m.length p.m)(hcap:ma=none->mc=0)(H:Hs w ha p.hs.length p.hs)(U:Us w ua p.us.length p.us)(hlc:p.us.length<=uc):Calls prog 17 #[.agg #[.slice ma p.m.length mc,.slice ha p.hs.length hc],.slice ua p.us.length uc,.int .i64 n] w fun e w'=>∃xB mc' ha' hc',e=.returned (.tuple #[.agg #[.slice xB (bE (p.hs,p.m) (p.us.drop (p.us.length-n))).2.length mc',.slice ha' (bE (p.hs,p.m) (p.us.drop (p.us.length-n))).1.length hc'],.int .i64 0])/\Mx w' w.heap.size (.slice xB (bE (p.hs,p.m) (p.us.drop (p.us.length-n))).2.length mc') (.slice ha' (bE (p.hs,p.m) (p.us.drop (p.us.length-n))).1.length hc') (bE (p.hs,p.m) (p.us.drop (p.us.length-n))).2 (bE (p.hs,p.m) (p.us.drop (p.us.length-n))).1/\Gr w w':=by
 obtain⟨h0,_,h1,h2,h3⟩:=zy o hf hn;have hy:U4 p.m.length p.hs p.us (n:Int)=0:=by
  have h4:=(o.ne hf).1;unfold U4;rw[at6,at6 (by rw[h0];simp),ak];unfold jL;rw[auq ⟨o.m4,h4,o.h4⟩,apM.2 fun h hm=>(o.hok h hm).2];simp
 refine(J6 Mm hcap H U (by have:=(o.ne hf).2;omega) hlc hy).mono ?_;rintro e w' ⟨v,rfl,h,G⟩;rw[apG]at h;obtain⟨M',H',rfl,X⟩:=U6 h (apn _);obtain⟨xB,mc',ha',hc',rfl,rfl⟩:=ru X;exact⟨_,_,_,_,rfl,X,G⟩
theorem ubk {n:Nat}{ua:Option Addr}{uc:Nat}{ma ha pa:Option Addr}{mc hc pc:Nat}{W:World}(X:Pr ty B w g (.slice ma p.m.length mc) (.slice ha p.hs.length hc) (.slice pa p.ps.length pc) (.slice ua p.us.length uc) p)(hf:p.fr=true)(HUs:Us w ua p.us.length p.us)(hlc:p.us.length<=uc)(G:Gr w W):Calls prog 17 #[.agg #[.slice ma p.m.length mc,.slice ha p.hs.length hc],.slice ua p.us.length uc,.int .i64 n] W fun e w'=>∃x:Value×Value,e=.returned (.tuple #[.agg #[x.1,x.2],.int .i64 ((if n<=p.us.length then 0 else 3:Nat):Nat)])/\Bf p n w.heap.size w' x/\Gr W w':=by
 obtain⟨Mm,hcap,VT,Pp⟩:=X.parts;by_cases hn:n<=p.us.length
 ·refine(aeM X.ok hf hn (Mm.of G) hcap (VT.of G) (HUs.of G) hlc).mono ?_;rintro e w' ⟨a,b,c,d,rfl,Y,G2⟩;exact⟨(_,_),by rw[at7 hn];rfl,⟨⟨rfl,rfl⟩,fun _=>⟨a,b,c,d,rfl,Qa Y G.size⟩⟩,G2⟩
 ·have b1:=X.ok.m4;have b2:=X.ok.h4;have b3:=(X.ok.ne hf).2;have hz:=(zy X.ok hf (apF _)).1;have hk:U4 p.m.length p.hs p.us (n:Int)=3:=by
   have h4:=(X.ok.ne hf).1;unfold U4;rw[at6,at6 (by rw[hz];simp),dU];unfold jL;rw[auq ⟨X.ok.m4,h4,X.ok.h4⟩,apM.2 fun h hm=>(X.ok.hok h hm).2];simp
  have h0:=PD (ma:=ma) (mc:=mc) (hc:=hc) (lc:=uc) (mn:=p.m.length) (st:=(n:Int)) (VT.of G) (HUs.of G) (by omega) (by omega) (by omega) (by rw[hk];omega);rw[hk]at h0;refine h0.mono ?_;rintro e w' ⟨rfl,G2⟩;exact⟨(_,_),by rw[at6 hn];rfl,⟨⟨rfl,rfl⟩,fun h=>absurd h hn⟩,G2⟩
end Vp
namespace Vp
open Mm Hh Hc Mc Ud As En Kc

variable {w w' :World} {g B :Nat} {M H P U :Value} {p :Pl}
theorem UG:(prog.info? 47).map (·.size)=some 4:=by kernel_rfl
theorem aiN:(prog.info? 28).map (·.size)=some 2:=by kernel_rfl
theorem wG:(prog.info? 54).map (·.size)=some 4:=by kernel_rfl
theorem abo {a b c d:Value}(h:a.oneCell'=true/\b.oneCell'=true/\c.oneCell'=true/\d.oneCell'=true):(#[a,b,c,d]:Array Value).all (·.oneCell')=true:=by simp[h.1,h.2.1,h.2.2.1,h.2.2.2]
theorem all2 {a b:Value}(h:a.oneCell'=true/\b.oneCell'=true):(#[a,b]:Array Value).all (·.oneCell')=true:=by simp[h.1,h.2]
def tS:List (TypeId×Array Value):=[(47,#[.slice none 0 0,.slice none 0 0,.slice none 0 0,.int .i64 0])]
def tSC:List (TypeId×Array Value):=[(47,#[.slice none 0 0,.slice none 0 0,.slice none 0 0,.int .i64 0]),(54,#[.int .i64 0,.slice none 0 0,.int .i64 0,.int .i64 0])]
def tM:List (TypeId×Array Value):=[(28,#[.slice none 0 0,.slice none 0 0])]
theorem Qb:∀x∈tS,(x.1≠5/\x.1≠43)/\Rg.zn x.2=true:=by decide
theorem Qc:∀x∈tSC,(x.1≠5/\x.1≠43)/\Rg.zn x.2=true:=by decide
theorem notM:∀x∈tM,(x.1≠5/\x.1≠43)/\Rg.zn x.2=true:=by decide
theorem Qd {w:World}{t b:Nat}{cs:Array Value}(h:Rg.Ct w t (.pointer (some ⟨b,0,none⟩)) (.agg cs)):w.heap[b]?=some (.cells cs t (0,0)):=by obtain⟨b',cs',e1,e2,h⟩:=h;injection e1 with e1;injection e1 with e1;injection e1 with e1;injection e2 with e2;subst e1 e2;exact h
theorem Cw {w:World}{b c t u:Nat}{o q:Array Value}(h:w.heap[b]?=some (.cells o t (0,0)))(h':w.heap[c]?=some (.cells q u (0,0)))(e:t≠u):b≠c:=aa h h' e
theorem nG:Ran 71 78:=⟨fun hb N hx hl hn hs T=>VF hb N hx hl hn hs T,fun h0 h1 hv T=>aa7 h0 h1 hv T⟩
theorem zb (X:Pr 71 B w g M H P U p)(T:Tz B w):Calls prog 47 #[.pointer (some ⟨g,0,none⟩)] w (fE 71 B w g M H P (aan p [])):=by
 obtain⟨ma,mc,ha,hc0,pa,pc,ua,un,uc,rfl,rfl,rfl,rfl, -⟩:=X.open;have z0:=iE X.blk;have z1:=iY X.blk;have z2:=EZ X.blk;have hgl:=(gs X.blk).1;have HU:Hid (∀W:World,Gr w W->_):=fun W G=>aiL X T G
 have HX:=kH X;have HT:=kH T;have HE:Hid ((wrong p.m p.hs p.ps).toNat<=100/\((wrong p.m p.hs p.ps).toNat≠0->nJ p (gD (ik p) (jS (ik p) (nums p.ps))) true=(p,bH zu [(wrong p.m p.hs p.ps).toNat]))):=⟨by have:=mI p.m p.hs p.ps;omega,fun h=>by unfold nJ;rw[ak]⟩;obtain⟨RES,hq⟩:∃r,aan p []=r:=⟨_,rfl⟩;rw[hq];have HQ:Hid (nJ p (gD (ik p) (jS (ik p) (nums p.ps))) true=RES):=hq;generalize(wrong p.m p.hs p.ps).toNat=E at *
 go_enter func47,ntmps47;go_wp2_with fail;refine Rg.ve (T:=tS) [Rg.Val (.pointer (some ⟨g,0,none⟩)),Rg.Val (.pointer (some ⟨g,0,none⟩)),Rg.Val (.pointer (some ⟨g,0,none⟩)),Rg.Val (.agg #[.slice ma p.m.length mc,.slice ha p.hs.length hc0]),Rg.Val (.pointer (some ⟨g,0,none⟩)),Rg.Val (.pointer (some ⟨g,0,none⟩)),Rg.Val (.pointer (some ⟨g,2,none⟩)),Rg.Val (.slice pa p.ps.length pc),VS Qb p E,VS Qb p E,kSh Qb p E,kUs Qb p E,Rg.Val (.int .i64 (E:Nat)),Rg.Rm 47 #[.slice none 0 0,.slice none 0 0,.slice none 0 0,.int .i64 0] 14 10,Rg.Ro 13 10,kUs Qb p E,Rg.Val (.int .i64 (E:Nat))] [[],[0],[1],[2],[],[4],[5],[6],[3,7],[8],[9],[9],[9],[],[13,10],[11],[12]] (by kernel_rfl) (by kernel_rfl) ?_ ?_
 ·simp only[Rg.Rp,Rg.ObS,Rg.dep,Rg.Ob,Rg.at',Rg.Val,Rg.Fa,Rg.zW,Rg.Rm,Rg.Ro,Rg.made,Rg.nS,List.replicate,apH,ap8,apC,apy,apw,apI,aqj,Act.put,apl,Rg.inT,tS,tSC,tM,apx,apE,true_or,or_true,au7,VS,kSh,kUs];refine⟨?_,?_,?_,?_,?_,?_,?_,?_,?_,?_,?_,?_,?_,?_,?_,?_,?_,trivial⟩
  case refine_15=>exact⟨fun _ _=>trivial,UG,fun w v ⟨x,e,h⟩=>⟨_,e,rfl,abo h.one⟩⟩
  all_goals intro W hW
  all_goals (have q0:=(hW.cell _ (by exact hgl)).trans z0;have q1:=(hW.cell _ (by exact hgl)).trans z1;have q2:=(hW.cell _ (by exact hgl)).trans z2)
  case refine_9=>
   rintro _ rfl _ rfl K hK;go_simp;refine(HU.out W hW).mono ?_;rintro e w' ⟨x,rfl,h,G⟩;exact hK.out _ _ G ⟨x,rfl,h⟩ trivial
  all_goals intros
  all_goals rename_i K hK
  all_goals first|(rename_i hh;obtain⟨_,rfl,hf⟩:=hh)|skip
  all_goals subst_vars
  all_goals go_simp
  all_goals first|exact hK.out _ _ (Gr.refl _) rfl trivial|exact hK.out _ _ ((Gr.refl _).alloc _) ⟨_,rfl,hW.size⟩ ⟨_,rfl,hW.size,at5 _ _⟩|exact hK.out _ _ (Gr.refl _) ⟨_,rfl,hf⟩ trivial|exact hK.out _ _ (Gr.refl _) ⟨_,rfl,hf.1⟩ trivial|exact hK.out _ _ (Gr.refl _) ⟨_,rfl,hf.2⟩ trivial
 ·intro w9 G9;simp only[Rg.Fin',Rg.Val,Rg.Fa,Rg.zW,Rg.Rm,Rg.Ro,ave,Act.put,apl,apC,apy,apw,apI,aqj,ap7,aqw,apO,apZ,arc,ard,VS,kSh,kUs];rintro _ rfl _ rfl _ rfl _ rfl _ rfl _ rfl _ rfl _ rfl v8-v9-_ ⟨⟨s0,s1,s2,s3⟩,rfl,R⟩ v11-_ rfl _ ⟨b,rfl,hb0⟩ v14 hct _ ⟨u,rfl,hu⟩ _ rfl;have hb:=Qd hct;have y0:=iE hb;have y1:=iY hb;have y2:=EZ hb;have y3:=QP hb;have hk:=(HX.out.gr G9).blk;have x3:=QP hk;have x4:=E8 hk;have f3:w9.frozen? ⟨g,3,none⟩=false:=lh hk;have f4:w9.frozen? ⟨g,4,none⟩=false:=lh hk;have ne:=Cw hk hb (by decide);have ne2:=ne.symm;have HRR:=kH R;have HUU:=kH hu;have HK:=kH hk;have HG:=kH G9;obtain⟨⟨a1,n1,c1,rfl⟩,_⟩:=hu;by_cases hE:E=0
  ·subst hE;have HA:=Ran.yes (M:=.slice ma p.m.length mc) (H:=.slice ha p.hs.length hc0) (P:=.slice pa p.ps.length pc) (U:=.slice ua un uc) (w8:=(w9.setCell ⟨g,3,none⟩ (.slice a1 n1 c1)).setCell ⟨g,4,none⟩ (.bool true)) (fr':=true) (kF:=gD (ik p) (jS (ik p) (nums p.ps))) (U':=.slice a1 n1 c1) (x:=(s0,s1,s2,s3)) nG HX.out HT.out (fun _=>rfl) HG.out HRR.out (fun _=>HUU.out.2 rfl) ⟨_,_,_,rfl⟩ (((Ch.refl g w9).setCell 3 _).setCell 4 _) (by
    have e:=hss (i:=3) (v:=.slice a1 n1 c1) HK.out;rw[hss e];simp)
   rw[HQ.out]at HA;have HRA:=kH HA;go_wp2_with fail;refine HRA.out.mono ?_;rintro e w' ⟨rfl,h⟩;go_wp2_with fail;go_ret;exact⟨rfl,h⟩
  ·have HRA:Hid (Calls prog 78 #[.pointer (some ⟨g,0,none⟩),.agg #[s0,s1,s2,s3],.int .i64 (E:Nat)] w9 fun e w'=>e=.returned (str (bH zu [E]))/\Gr w9 w'):=nG.n hE HE.out.1 HRR.out.one fun G=>(HT.out.gr (HG.out.trans G)).PX
   have hE':¬(E:Int)=0:=by omega
   rw[HE.out.2 hE]at HQ;go_wp2_with fail;refine HRA.out.mono ?_;rintro e w' ⟨rfl,h⟩;have HGE:=kH (HG.out.trans h);go_wp2_with fail;go_ret;rw[<-HQ.out];exact⟨rfl,_,_,_,_,HX.out.gr HGE.out,Fx.bD HGE.out⟩
theorem Qe (p:Pl)(room:Nat):ET p room<=100/\rR p [room]=if ET p room=0 then nJ { p with fr:=false } p.us false else({ p with fr:=false },bH zu [ET p room]):=by
 have hw:=mI p.m p.hs p.ps;unfold ET;by_cases h:wrong p.m p.hs p.ps=0
 ·by_cases h6:64<room
  ·simp[rR,h,h6]
  ·simp[rR,h,h6]
 ·have h0:¬(wrong p.m p.hs p.ps).toNat=0:=by omega
  refine⟨by rw[at6 h];omega,?_⟩;simp only[rR,at6 h,at6 h0,at6 (show¬(wrong p.m p.hs p.ps=0/\64<room)from fun q=>h q.1),nJ]
theorem Qf {room:Nat}(hr:room<4294967296)(X:Pr 71 B w g M H P U p)(T:Tz B w):Calls prog 48 #[.pointer (some ⟨g,0,none⟩),.int .u32 room] w (fE 71 B w g M H P (rR p [room])):=by
 obtain⟨ma,mc,ha,hc0,pa,pc,ua,un,uc,rfl,rfl,rfl,rfl, -⟩:=X.open;obtain⟨X1,F1⟩:=X.down;have f4:w.frozen? ⟨g,4,none⟩=false:=lh X.blk;have z4:=E8 X.blk;have kL:Hid _:=X1;have rY:Hid (Fx _ _ _ _):=F1;have HT1:Hid (Tz B (w.setCell ⟨g,4,none⟩ (.bool false))):=T.below (F1.below (fun k hk=>(X.dom k hk).1) X.le);have hwr:IntKind.i64.wrap (room:Int)=(room:Int):=by rw[auQ];omega
 have HU0:Hid (∀W1:World,Pr 71 B W1 g (.slice ma p.m.length mc) (.slice ha p.hs.length hc0) (.slice pa p.ps.length pc) (.slice ua un uc) { p with fr:=false }->Tz B W1->∀W:World,Gr W1 W->Calls prog 12 #[.agg #[.slice ma p.m.length mc,.slice ha p.hs.length hc0],.slice pa p.ps.length pc,.int .i64 (room:Int)] W _):=fun W1 X T W G=>aiM (p:={ p with fr:=false }) hr X T G
 obtain⟨hE1,hq⟩:=Qe p room;obtain⟨RES,hq2⟩:∃r,rR p [room]=r:=⟨_,rfl⟩;rw[hq2];rw[hq2]at hq;have HQ:Hid (RES=_):=hq;have HE:Hid (ET p room<=100):=hE1;clear X X1 F1 T hq hq2 hE1;rw[show ET { p with fr:=false } room=ET p room from rfl]at HU0;generalize ET p room=E at *
 go_enter func48,ntmps48;go_wp2_with fail;refine aT (fun W1=>Pr 71 B W1 g (.slice ma p.m.length mc) (.slice ha p.hs.length hc0) (.slice pa p.ps.length pc) (.slice ua un uc) { p with fr:=false }/\Fx (Dm g (.slice ma p.m.length mc) (.slice ha p.hs.length hc0) (.slice pa p.ps.length pc)) (Dm g (.slice ma p.m.length mc) (.slice ha p.hs.length hc0) (.slice pa p.ps.length pc)) w W1/\Tz B W1) ⟨kL.out,rY.out,HT1.out⟩ ?_;clear kL rY HT1 z4 f4;rintro w1 ⟨X,F,T⟩;have HU:Hid _:=HU0.out w1 X T;have HX:Hid (Pr 71 B w1 g (.slice ma p.m.length mc) (.slice ha p.hs.length hc0) (.slice pa p.ps.length pc) (.slice ua un uc) { p with fr:=false }):=X;have HF:Hid (Fx (Dm g (.slice ma p.m.length mc) (.slice ha p.hs.length hc0) (.slice pa p.ps.length pc)) (Dm g (.slice ma p.m.length mc) (.slice ha p.hs.length hc0) (.slice pa p.ps.length pc)) w w1):=F;have HT:Hid (Tz B w1):=T;have z0:=iE X.blk;have z1:=iY X.blk;have z2:=EZ X.blk;have hgl:g<w1.heap.size:=(gs X.blk).1;clear X F T HU0;refine Rg.ve (T:=tSC) [Rg.Val (.pointer (some ⟨g,0,none⟩)),Rg.Val (.pointer (some ⟨g,0,none⟩)),Rg.Val (.pointer (some ⟨g,0,none⟩)),Rg.Val (.agg #[.slice ma p.m.length mc,.slice ha p.hs.length hc0]),Rg.Val (.pointer (some ⟨g,0,none⟩)),Rg.Val (.pointer (some ⟨g,0,none⟩)),Rg.Val (.pointer (some ⟨g,2,none⟩)),Rg.Val (.slice pa p.ps.length pc),Rg.Val (.int .u32 (room:Int)),Rg.Val (.int .i64 (room:Int)),Ia Qc { p with fr:=false } E,Ia Qc { p with fr:=false } E,kSh Qc { p with fr:=false } E,kCa,Rg.Val (.int .i64 (E:Nat)),Rg.Rm 47 #[.slice none 0 0,.slice none 0 0,.slice none 0 0,.int .i64 0] 17 12,Rg.Rm 54 #[.int .i64 0,.slice none 0 0,.int .i64 0,.int .i64 0] 18 13,Rg.Ro 15 12,Rg.Ro 16 13,Rg.Val (.int .i64 (E:Nat))] [[],[0],[1],[2],[],[4],[5],[6],[],[8],[3,7,9],[10],[11],[11],[11],[],[],[15,12],[16,13],[14]] (by kernel_rfl) (by kernel_rfl) ?_ ?_
 ·simp only[Rg.Rp,Rg.ObS,Rg.dep,Rg.Ob,Rg.at',Rg.Val,Rg.Fa,Rg.zW,Rg.Rm,Rg.Ro,Rg.made,Rg.nS,List.replicate,apH,ap8,apC,apy,apw,apI,aqj,Act.put,apl,Rg.inT,tS,tSC,tM,apx,apE,true_or,or_true,au7,Ia,kSh,kCa];refine⟨?_,?_,?_,?_,?_,?_,?_,?_,?_,?_,?_,?_,?_,?_,?_,?_,?_,?_,?_,?_,trivial⟩
  case refine_18=>exact⟨fun _ _=>trivial,UG,fun w v ⟨x,e,h⟩=>⟨_,e,rfl,abo h.one⟩⟩
  case refine_19=>exact⟨fun _ _=>trivial,wG,fun w v ⟨x,e,h⟩=>⟨_,e,rfl,abo h⟩⟩
  all_goals intro W hW
  all_goals (have q0:=(hW.cell _ (by exact hgl)).trans z0;have q1:=(hW.cell _ (by exact hgl)).trans z1;have q2:=(hW.cell _ (by exact hgl)).trans z2)
  case refine_11=>
   rintro _ rfl _ rfl _ rfl K hK;go_simp;refine(HU.out W hW).mono ?_;rintro e w' ⟨x,rfl,h,G⟩;exact hK.out _ _ G ⟨x,rfl,h⟩ trivial
  all_goals intros
  all_goals rename_i K hK
  all_goals first|(rename_i hh;obtain⟨_,rfl,hf⟩:=hh)|skip
  all_goals subst_vars
  all_goals go_simp
  all_goals first|exact hK.out _ _ (Gr.refl _) rfl trivial|exact hK.out _ _ ((Gr.refl _).alloc _) ⟨_,rfl,hW.size⟩ ⟨_,rfl,hW.size,at5 _ _⟩|exact hK.out _ _ (Gr.refl _) ⟨_,rfl,hf⟩ trivial|exact hK.out _ _ (Gr.refl _) ⟨_,rfl,hf.1⟩ trivial|exact hK.out _ _ (Gr.refl _) ⟨_,rfl,hf.2⟩ trivial
 ·intro w9 G9;simp only[Rg.Fin',Rg.Val,Rg.Fa,Rg.zW,Rg.Rm,Rg.Ro,ave,Act.put,apl,apC,apy,apw,apI,aqj,ap7,aqw,apO,apZ,arc,ard,Ia,kSh,kCa];rintro _ rfl _ rfl _ rfl _ rfl _ rfl _ rfl _ rfl _ rfl _ rfl _ rfl v10-v11-_ ⟨⟨s0,s1,s2,s3⟩,rfl,R⟩ v13-_ rfl _ ⟨b,rfl,hb0⟩ v16-v17 hct v18-_ rfl;have hb:=Qd hct;have y0:=iE hb;have y1:=iY hb;have y2:=EZ hb;have y3:=QP hb;have hk:=(HX.out.gr G9).blk;have HRR:Hid _:=R;have HK:Hid _:=hk;have HG:Hid (Gr w1 w9):=G9;clear hct hb hb0 hk G9 R;by_cases hE:E=0
  ·subst hE;have HA:=Ran.yes (p:={ p with fr:=false }) (fr':=false) (kF:=p.us) (x:=(s0,s1,s2,s3)) nG HX.out HT.out (fun h=>by cases h) HG.out HRR.out (fun h=>by cases h) ⟨ua,un,uc,rfl⟩ (Ch.refl g w9) HK.out;rw[at7 rfl]at HQ;rw[<-HQ.out]at HA;have HRA:Hid (Calls prog 78 #[.pointer (some ⟨g,0,none⟩),.agg #[s0,s1,s2,s3],.int .i64 0] _ _):=HA;clear HA;go_wp2_with fail;refine HRA.out.mono ?_;rintro e w' ⟨rfl,h⟩;have HA:Hid (fE 71 B w1 g (.slice ma p.m.length mc) (.slice ha p.hs.length hc0) (.slice pa p.ps.length pc) RES (.returned (str RES.2)) w'):=⟨rfl,h⟩;clear h;go_wp2_with fail;go_ret;exact fE.pre (D:=(_,_,_)) HF.out HA.out
  ·have HRA:Hid (Calls prog 78 #[.pointer (some ⟨g,0,none⟩),.agg #[s0,s1,s2,s3],.int .i64 (E:Nat)] w9 fun e w'=>e=.returned (str (bH zu [E]))/\Gr w9 w'):=nG.n hE HE.out HRR.out.one fun G=>(HT.out.gr (HG.out.trans G)).PX
   have hE':¬(E:Int)=0:=by omega
   rw[at6 hE]at HQ;go_wp2_with fail;refine HRA.out.mono ?_;rintro e w' ⟨rfl,h⟩;have HGE:Hid (Gr w1 w'):=HG.out.trans h;clear h;go_wp2_with fail;go_ret;rw[HQ.out];exact fE.pre (D:=(_,_,_)) HF.out ⟨rfl,_,_,_,_,HX.out.gr HGE.out,Fx.bD HGE.out⟩
theorem Cx {p:Pl}{n:Nat}(h:¬(p.fr=true/\n<=p.us.length)):kW p [n]=(p,aQ):=by simp only[kW,at6 h]
theorem abq {n:Nat}(hr:n<4294967296)(X:Pr 71 B w g M H P U p)(hf:p.fr=true):Calls prog 54 #[.pointer (some ⟨g,0,none⟩),.int .u32 n] w (fE 71 B w g M H P (kW p [n])):=by
 obtain⟨N,n1,n2,n3,n4⟩:=X.row;obtain⟨ua,uc,rfl,hlc,HUs⟩:=(n4 hf).us;obtain⟨ma,mc,ha,hc0,pa,pc,_,_,_,rfl,rfl,rfl, -⟩:=X.open;have z0:=iE X.blk;have z1:=iY X.blk;have z3:=QP X.blk;have z4:=E8 X.blk;have hgl:g<w.heap.size:=(gs X.blk).1;rw[hf]at z4;have HU:Hid (∀W:World,Gr w W->_):=fun W G=>ubk (n:=n) X hf HUs hlc G
 have HX:Hid _:=X;have hwr:IntKind.i64.wrap (n:Int)=(n:Int):=by rw[auQ];omega
 have HP:Hid (∀(w9 w':World) (x:Value×Value),n<=p.us.length->Gr w w9->Bf p n w.heap.size w9 x->Ch g w9 w'->w'.heap[g]?=some (.cells #[x.1,x.2,.slice pa p.ps.length pc,.slice ua p.us.length uc,.bool false] 71 (0,0))->fE 71 B w g (.slice ma p.m.length mc) (.slice ha p.hs.length hc0) (.slice pa p.ps.length pc) (kW p [n]) (.returned (str Ce)) w'):=fun w9 w' x hn G R Q hb=>by
  obtain⟨ma1,mc1,ha1,hc1,rfl,Y⟩:=R.yes hn;exact VU X hf hn G Y Q hb rfl
 have HN:Hid (¬n<=p.us.length->kW p [n]=(p,aQ)):=fun h=>Cx fun q=>h q.2
 have HFF:Hid (p.fr=true):=hf;obtain⟨E,hE⟩:∃E:Nat,E=if n<=p.us.length then 0 else 3:=⟨_,rfl⟩
 rw[<-hE]at HU;have HE:Hid (E=_):=hE;clear X n1 n2 n3 n4 HUs hlc N hE hf;generalize kW p [n]=RES at *
 go_enter func54,ntmps54;go_wp2_with fail;refine Rg.ve (T:=tM) [Rg.Val (.pointer (some ⟨g,0,none⟩)),Rg.Val (.pointer (some ⟨g,0,none⟩)),Rg.Val (.pointer (some ⟨g,0,none⟩)),Rg.Val (.agg #[.slice ma p.m.length mc,.slice ha p.hs.length hc0]),Rg.Val (.pointer (some ⟨g,0,none⟩)),Rg.Val (.pointer (some ⟨g,0,none⟩)),Rg.Val (.pointer (some ⟨g,3,none⟩)),Rg.Val (.slice ua p.us.length uc),Rg.Val (.int .u32 (n:Int)),Rg.Val (.int .i64 (n:Int)),kBk notM p n E,kBk notM p n E,kMa notM p n,Rg.Val (.int .i64 (E:Nat)),Rg.Rm 28 #[.slice none 0 0,.slice none 0 0] 15 12,Rg.Ro 14 12,Rg.Val (.int .i64 (E:Nat))] [[],[0],[1],[2],[],[4],[5],[6],[],[8],[3,7,9],[10],[11],[11],[],[14,12],[13]] (by kernel_rfl) (by kernel_rfl) ?_ ?_
 ·simp only[Rg.Rp,Rg.ObS,Rg.dep,Rg.Ob,Rg.at',Rg.Val,Rg.Fa,Rg.zW,Rg.Rm,Rg.Ro,Rg.made,Rg.nS,List.replicate,apH,ap8,apC,apy,apw,apI,aqj,Act.put,apl,Rg.inT,tS,tSC,tM,apx,apE,true_or,or_true,au7,kBk,kMa];refine⟨?_,?_,?_,?_,?_,?_,?_,?_,?_,?_,?_,?_,?_,?_,?_,?_,?_,trivial⟩
  case refine_16=>exact⟨fun _ _=>trivial,aiN,fun w v ⟨x,e,h⟩=>⟨_,e,rfl,all2 h.one⟩⟩
  all_goals intro W hW
  all_goals (have q0:=(hW.cell _ (by exact hgl)).trans z0;have q1:=(hW.cell _ (by exact hgl)).trans z1;have q3:=(hW.cell _ (by exact hgl)).trans z3)
  case refine_11=>
   rintro _ rfl _ rfl _ rfl K hK;go_simp;refine(HU.out W hW).mono ?_;rintro e w' ⟨x,rfl,h,G⟩;exact hK.out _ _ G ⟨x,rfl,h⟩ trivial
  all_goals intros
  all_goals rename_i K hK
  all_goals first|(rename_i hh;obtain⟨_,rfl,hf⟩:=hh)|skip
  all_goals subst_vars
  all_goals go_simp
  all_goals first|exact hK.out _ _ (Gr.refl _) rfl trivial|exact hK.out _ _ ((Gr.refl _).alloc _) ⟨_,rfl,hW.size⟩ ⟨_,rfl,hW.size,at5 _ _⟩|exact hK.out _ _ (Gr.refl _) ⟨_,rfl,hf⟩ trivial|exact hK.out _ _ (Gr.refl _) ⟨_,rfl,hf.1⟩ trivial|exact hK.out _ _ (Gr.refl _) ⟨_,rfl,hf.2⟩ trivial
 ·intro w9 G9;simp only[Rg.Fin',Rg.Val,Rg.Fa,Rg.zW,Rg.Rm,Rg.Ro,ave,Act.put,apl,apC,apy,apw,apI,aqj,ap7,aqw,apO,apZ,arc,ard,kBk,kMa];rintro _ rfl _ rfl _ rfl _ rfl _ rfl _ rfl _ rfl _ rfl _ rfl _ rfl v10-v11-_ ⟨⟨s0,s1⟩,rfl,R⟩ _ rfl _ ⟨b,rfl,hb0⟩ v15 hct _ rfl;have hb:=Qd hct;have y0:=iE hb;have y1:=iY hb;have hk:=(HX.out.gr G9).blk;rw[HFF.out]at hk;have x0:=iE hk;have x1:=iY hk;have x4:=E8 hk;have f0:w9.frozen? ⟨g,0,none⟩=false:=lh hk;have f1:w9.frozen? ⟨g,1,none⟩=false:=lh hk;have f4:w9.frozen? ⟨g,4,none⟩=false:=lh hk;have ne:=Cw hk hb (by decide);have ne2:=ne.symm;have HRR:Hid _:=R;have HK:Hid _:=hk;have HG:Hid (Gr w w9):=G9;obtain⟨o0,o1⟩:=R.one;clear hct hb hb0 hk G9 R;by_cases hn:n<=p.us.length
  ·rw[at7 hn]at HE;obtain rfl:=HE.out;obtain⟨⟨a1,n1,c1,rfl⟩,a2,n2,c2,rfl⟩:(∃a n c,s0=.slice a n c)/\∃a n c,s1=.slice a n c:=by
    obtain⟨_,_,_,_,hx, -⟩:=HRR.out.yes hn;obtain⟨rfl,rfl⟩:=Prod.mk.inj hx;exact⟨⟨_,_,_,rfl⟩,_,_,_,rfl⟩
   have HA:Hid (fE 71 B w g (.slice ma p.m.length mc) (.slice ha p.hs.length hc0) (.slice pa p.ps.length pc) RES (.returned (str Ce)) (((w9.setCell ⟨g,0,none⟩ (.slice a1 n1 c1)).setCell ⟨g,1,none⟩ (.slice a2 n2 c2)).setCell ⟨g,4,none⟩ (.bool false))):=HP.out w9 _ (_,_) hn HG.out HRR.out ((((Ch.refl g w9).setCell 0 _).setCell 1 _).setCell 4 _) (by
    have e0:=hss (i:=0) (v:=.slice a1 n1 c1) HK.out;have e1:=hss (i:=1) (v:=.slice a2 n2 c2) e0;rw[hss e1];simp)
   clear hn HE HRR;go_wp2_with fail;go_ret;exact HA.out
  ·rw[at6 hn]at HE;obtain rfl:=HE.out;have HQ:Hid (RES=(p,aQ)):=HN.out hn;clear hn HE;go_wp2_with fail;go_ret;rw[HQ.out];exact⟨rfl,_,_,_,_,HX.out.gr HG.out,Fx.bD HG.out⟩
theorem Qg {n:Nat}(hr:n<4294967296)(X:Pr 71 B w g M H P U p):Calls prog 54 #[.pointer (some ⟨g,0,none⟩),.int .u32 n] w (fE 71 B w g M H P (kW p [n])):=by
 by_cases hf:p.fr=true
 ·exact abq hr X hf
 have hf':p.fr=false:=by simpa using hf
 have z4:=E8 X.blk;rw[hf']at z4;rw[Cx fun q=>hf q.1];have HX:=kH X;go_enter func54,ntmps54;go_wp2_with fail;go_ret;exact⟨rfl,_,_,_,_,HX.out,Fx.refl _ _⟩
end Vp
end Go.Proofs.YtiadhbmnfjfioaaGreatDoor
