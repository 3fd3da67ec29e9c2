/- ours -/
import Derived.Test.YtiadhbmnfjfioaaGreatDoorX38
import Derived.Test.YtiadhbmnfjfioaaGreatDoorX29
set_option linter.unusedVariables false
set_option linter.unusedSimpArgs false
set_option maxHeartbeats 8000000
set_option maxRecDepth 100000
set_option linter.unusedSectionVars false
namespace Go.Proofs.YtiadhbmnfjfioaaGreatDoor
open Go.Proofs.Tryz hiding t1 t2
variable [Inhabited Hc.bN]
namespace Vp
open Hh Mc Ud As

theorem dW {h h':Hv}{m:List UInt8}{s:List (Int×Int)}{r:Option Int}:∀x∈(⟨h',m,[],s,r⟩:Ev).out,x=Hh.rg h 10:=fun x hx=>absurd hx (by simp)
theorem VC (h:Hv)(l:List UInt8)(op a b n:Int):∀x∈(fT h l op a b n).out,x=Hh.rg h 10:=by
 have h1:∀x∈(bF h l op (Wd.lo (a+n))).out,x=Hh.rg h 10:=by unfold bF;split<;>exact dW
 have h2:∀x∈(aH h l op (Wd.lo (a+n)) b).out,x=Hh.rg h 10:=by unfold aH;split<;>exact dW
 have h3:∀x∈(aK h l op a b).out,x=Hh.rg h 10:=by
  unfold aK;split
  ·unfold gB;split<;>exact dW
  ·split
   ·unfold eU;split
    ·split<;>exact dW
    ·exact dW
   ·unfold iN;split<;>exact dW
 have h4:∀x∈(bA h l).out,x=Hh.rg h 10:=by
  unfold bA;split
  ·exact dW
  ·split
   ·exact fun x hx=>apE.1 hx
   ·exact dW
 unfold fT;split
 ·exact dW
 split
 ·exact dW
 split
 ·exact dW
 split
 ·exact h1
 split
 ·exact h2
 split
 ·exact dW
 split
 ·exact dW
 split
 ·exact h3
 split
 ·exact h4
 split<;>exact dW
theorem VD {h:Hv}(o:h.Ok)(l:List UInt8):∀x∈(dV h l).out,0<=x/\x<4294967296:=by
 intro x hx;have:x=Hh.rg h 10:=by
  unfold dV oW ins done at hx;split at hx
  ·split at hx
   ·cases hx
   ·exact VC _ _ _ _ _ _ x hx
  ·cases hx
 rw[this];exact o.reg 10
structure Og (s:Sh) (t:Nat):Prop where
 few:s.out.length<=s.steps
 st:s.steps<=t
 w:∀x∈s.out,0<=x/\x<4294967296
theorem VE {s:Sh}{c n k t:Nat}(f:Fit s c n)(hk:k<c)(hr:(at' s k).state=0)(o:Og s t):Og (bW s k) (t+1):=by
 have hl:k<s.hs.length:=by rw[f.len];exact hk
 have eh:s.hs[k]?=some (at' s k):=by unfold at';rw[api hl];simp[List.getD,hl]
 obtain⟨ok,mk⟩:=f.ok _ (aps eh);have g:=lJ (Ak mk hr) s.m;have h1:=o.few;have h2:=o.st;have h3:=g.2.2.2.1;refine⟨?_,by show s.steps+1<=t+1;omega,fun x hx=>?_⟩
 ·show(s.out++(dV (at' s k) s.m).out).length<=s.steps+1
  rw[apo];omega
 ·rcases apR.1 (show x∈s.out++(dV (at' s k) s.m).out from hx)with hx|hx
  ·exact o.w x hx
  ·exact VD ok s.m x hx
theorem Hg {c n k:Nat}(hk:k<c):∀(m:Nat) {s:Sh} {t:Nat},Fit s c n→Og s t→Og (runs s k m) (t+m)
 |0,s,t,f,o=>o
 |m+1,s,t,f,o=>by
  unfold runs;split
  ·have:=Hg hk m (kg f hk (by assumption)) (VE f hk (by assumption) o);rwa[show t+1+m=t+(m+1)by omega]at this
  ·exact⟨o.few,by have:=o.st;omega,o.w⟩
theorem Hl {c n:Nat}:∀(sc:List (Nat×Nat)) {s:Sh} {t:Nat},(∀p∈sc,p.1<c∧p.2≤400)→Fit s c n→Og s t→Og (aL s sc) (t+400*sc.length)
 | [],s,t,_,f,o=>o
 |p::r,s,t,h,f,o=>by
  rw[jc];have hp:=h p (by simp);have:=Hl r (fun q hq=>h q (by simp[hq])) (pK hp.1 p.2 f) (Hg hp.1 p.2 f o);refine⟨this.few,apr this.st ?_,this.w⟩;simp only[apH];omega
theorem PT {p:Pl}(o:lg p)(hw:wrong p.m p.hs p.ps=0):Og (aL (ik p) (nums p.ps)) 120000:=by
 obtain⟨_,_,_,_,am1,hp⟩:=kE hw;obtain⟨F,_,_⟩:=GJ o hw;have:=Hl (nums p.ps) (t:=0) (fun q hq=>by
  obtain⟨r,hr,rfl⟩:=apK.1 hq;have:=hp r hr;show r.1.toNat<p.hs.length/\r.2.toNat<=400
  omega) F ⟨apn _,apn _,fun x hx=>(by cases hx)⟩
 refine⟨this.few,apr this.st ?_,this.w⟩;have:(nums p.ps).length=p.ps.length:=by unfold nums;rw[apY]
 omega
theorem mI (m:List UInt8)(hs:List Hv)(ps:List (Int×Int)):0<=wrong m hs ps/\wrong m hs ps<=10:=by
 unfold wrong;repeat' split
 all_goals omega
end Vp
namespace Vp
open Go.ChangeShapes Go.WideShapes Go.ChangeAt Go.RowKit Mm Hh Hc Mc Ud As

variable {w w' :World} {g :Nat} {M H P U :Value}
theorem aex {oa:Option Addr}{n:Nat}{os:List Int}(W:Wm w oa n os)(h:∀x∈os,0<=x):Ns .u32 w oa n (os.map Int.toNat):=
 ⟨by rw[apY];exact W.len,fun hn=>by
  obtain⟨b,o,e,hb,hc⟩:=W.spot hn;refine⟨b,o,e,hb,fun t x hx=>?_⟩;rw[apT]at hx;obtain⟨y,hy,rfl⟩:=aqv.1 hx;have ht:t<n:=by rw[<-W.len];exact(apj.1 hy).1
  have h0:=h y (aps hy);rw[hc t ht,apV,hy,aqw,show((y.toNat:Nat):Int)=y by omega]⟩
theorem aa6 (w:World)(a b:Obj):((w.alloc a).alloc b).heap[w.heap.size+1]?=some b:=by have:=at5 (w.alloc a) b;simpa using this
theorem gs3 {b:Nat}{a1 a2 a3:Option Addr}{n1 n2 n3 c1 c2 c3:Nat}{L1 L2 L3:List (List Nat)}{t:Nat}{f:Nat×Nat}(h:w.heap[b]?=some (.cells #[.slice a1 n1 c1,.slice a2 n2 c2,.slice a3 n3 c3] t f))(h1:Ts w a1 n1 L1/\(a1=none->c1=0))(h2:Ts w a2 n2 L2/\(a2=none->c2=0))(h3:Ts w a3 n3 L3/\(a3=none->c3=0)):Gs w b 3 [L1,L2,L3]:=
 ⟨rfl,(gs h).1,fun i L hi=>by
  match i,hi with
  |0,hi=>
   simp only[apw,auj]at hi;subst hi;exact⟨_,_,_,iE h,h1.1,h1.2⟩
  |1,hi=>
   simp only[apI,apw,auj]at hi;subst hi;exact⟨_,_,_,iY h,h2.1,h2.2⟩
  |2,hi=>
   simp only[apI,apw,auj]at hi;subst hi;exact⟨_,_,_,EZ h,h3.1,h3.2⟩⟩
theorem fP {a:Option Addr}{n c:Nat}{L:List (List Nat)}(h:Ts w a n L/\(a=none->c=0))(G:Gr w w'):Ts w' a n L/\(a=none->c=0):=⟨h.1.of G,h.2⟩
theorem Hm {ao:Option Addr}{n c:Nat}{l:List Nat}(N:Ns .i64 w ao n l)(hl:∀x∈l,x<9223372036854775808)(hn:n<=1000000)(T:gz w):Calls prog 52 #[.slice ao n c] w fun e w'=>∃a k,e=.returned (.slice a n k)/\(Ts w' a n (l.map dg)/\(a=none->k=0))/\Gr w w':=(OX N hl hn T).mono fun e w' ⟨a,k,he,O,G⟩=>⟨a,k,he,⟨Ts.own O,mh O⟩,G⟩
theorem Hq {ao:Option Addr}{n c:Nat}{l:List Nat}(N:Ns .u32 w ao n l)(hl:∀x∈l,x<4294967296)(hn:n<=1000000)(T:gz w):Calls prog 79 #[.slice ao n c] w fun e w'=>∃a k,e=.returned (.slice a n k)/\(Ts w' a n (l.map dg)/\(a=none->k=0))/\Gr w w':=(aay N hl hn T).mono fun e w' ⟨a,k,he,O,G⟩=>⟨a,k,he,⟨Ts.own O,mh O⟩,G⟩
theorem nR {x:Nat}(h:x<9223372036854775808):(dg x).length<=40:=by have:=x8 19 x (by omega);omega
theorem Xx {b:Nat}{Wd:List Nat}{k l:List Nat}(S:Gs w b 3 [[Wd],k.map dg,l.map dg])(hW:Wd.length<=40)(hk:∀x∈k,x<9223372036854775808)(hl:∀x∈l,x<9223372036854775808)(hn:k.length+l.length<=500000):Calls prog 51 #[.slice (some ⟨b,0,none⟩) 3 3] w fun e w'=>e=.returned (str (bH Wd (k++l)))/\Gr w w':=by
 have:=jv (c:=3) S (by simp;omega) (by omega) (by simp) (fun x hx=>by
  simp only[aqz,aqT,apz,apR,apE,apK]at hx;rcases hx with rfl|⟨y,hy,rfl⟩|⟨y,hy,rfl⟩
  ·exact hW
  ·exact nR (hk y hy)
  ·exact nR (hl y hy))
 rw[sS];simpa using this
theorem aa7 {e:Nat}{v0 v1 v2 v3:Value}(h0:e≠0)(h1:e<=100)(hv:v0.oneCell'=true/\v1.oneCell'=true/\v2.oneCell'=true/\v3.oneCell'=true)(T:∀{W:World},Gr w W->gz W):Calls prog 78 #[.pointer (some ⟨g,0,none⟩),.agg #[v0,v1,v2,v3],.int .i64 e] w fun e' w'=>e'=.returned (str (bH zu [e]))/\Gr w w':=by
 have hE:((e:Int) !=0)=true:=by simp;omega
 have HN:Hid (∀(W:World) (b:Nat) (t:Nat) (f:Nat×Nat),Gr w W->W.heap[b]?=some (.cells #[.int .i64 (e:Int)] t f)->Calls prog 103 #[.string ⟨#[98,97,100]⟩,.slice (some ⟨b,0,none⟩) 1 1] W fun e' w'=>e'=.returned (str (bH zu [e]))/\Gr W w'):=fun W b t f G h=>Vn (c:=1) (rq h) (fun y hy=>by rw[apE.1 hy];omega) (by omega) (by decide) (T G)
 obtain⟨u0,u1,u2,u3⟩:=hv;go_enter func78,ntmps78;go_wp2_with fail;refine(HN.out _ _ _ _ (((Gr.refl _).alloc _).alloc _) (aa6 w _ _)).mono ?_;rintro e' w1 ⟨rfl,G1⟩;go_wp2_with fail;go_ret;exact⟨rfl,(((Gr.refl _).alloc _).alloc _).trans G1⟩
theorem VF {oa:Option Addr}{n oc st:Nat}{fr:Value}{ma ha:Option Addr}{mn mc hn hc:Nat}{l:List Nat}(hb:w.heap[g]?=some (.cells #[M,H,P,U,fr] 71 (0,0)))(N:Ns .u32 w oa n l)(hx:∀b o,oa=some ⟨b,o,none⟩->0<n->b≠g)(hl:∀x∈l,x<4294967296)(hnn:n<=200000)(hst:st<=200000)(T:∀{W:World},Ch g w W->gz W):Calls prog 78 #[.pointer (some ⟨g,0,none⟩),.agg #[(.slice ma mn mc),(.slice ha hn hc),.slice oa n oc,.int .i64 st],.int .i64 0] w fun e w'=>e=.returned (str (bH JP (st::l)))/\w'.heap[g]?=some (.cells #[(.slice ma mn mc),(.slice ha hn hc),.slice none 0 0,U,fr] 71 (0,0))/\Ch g w w':=by
 have hgl:=(gs hb).1
 -- the world behind the stores
 have HW:Hid (∀W:World,W=((((w.setCell ⟨g,0,none⟩ (.slice ma mn mc)).setCell ⟨g,1,none⟩ (.slice ha hn hc)).setCell ⟨g,2,none⟩ (.slice none 0 0)).alloc (.cells #[(.slice ma mn mc),(.slice ha hn hc),.slice oa n oc,.int .i64 st] 47))->W.heap[g]?=some (.cells #[(.slice ma mn mc),(.slice ha hn hc),.slice none 0 0,U,fr] 71 (0,0))/\W.heap[w.heap.size]?=some (.cells #[(.slice ma mn mc),(.slice ha hn hc),.slice oa n oc,.int .i64 st] 47 (0,0))/\Ch g w W/\Ns .u32 W oa n l):=by
  rintro W rfl;have e1:=hss (i:=0) (v:=(.slice ma mn mc)) hb;have e2:=hss (i:=1) (v:=(.slice ha hn hc)) e1;have e3:=hss (i:=2) (v:=.slice none 0 0) e2;have Q:Ch g w ((((w.setCell ⟨g,0,none⟩ (.slice ma mn mc)).setCell ⟨g,1,none⟩ (.slice ha hn hc)).setCell ⟨g,2,none⟩ (.slice none 0 0)).alloc (.cells #[(.slice ma mn mc),(.slice ha hn hc),.slice oa n oc,.int .i64 st] 47)):=Ch.gr ((((Ch.refl g w).setCell 0 (.slice ma mn mc)).setCell 1 (.slice ha hn hc)).setCell 2 _) ((Gr.refl _).alloc _);refine⟨Hr.ae ((Gr.refl _).alloc _) (by rw[e3];simp),?_,Q,N.len,fun h0=>?_⟩
  ·have:=at5 (((w.setCell ⟨g,0,none⟩ (.slice ma mn mc)).setCell ⟨g,1,none⟩ (.slice ha hn hc)).setCell ⟨g,2,none⟩ (.slice none 0 0)) (.cells #[(.slice ma mn mc),(.slice ha hn hc),.slice oa n oc,.int .i64 st] 47);rwa[show(((w.setCell ⟨g,0,none⟩ (.slice ma mn mc)).setCell ⟨g,1,none⟩ (.slice ha hn hc)).setCell ⟨g,2,none⟩ (.slice none 0 0)).heap.size=w.heap.size by simp]at this
  ·obtain⟨b,o,e,h1,h2⟩:=N.spot h0;exact⟨b,o,e,apq h1 Q.size,fun t x hx'=>(aui (a:=⟨b,o+t,none⟩) (Q.block b h1 (fun h=>by injection h with h;exact hx b o e h0 h))).trans (h2 t x hx')⟩
 have HTI:Hid (∀(W:World) (b t:Nat) (f:Nat×Nat),Ch g w W->W.heap[b]?=some (.cells #[.int .i64 (st:Int)] t f)->Calls prog 52 #[.slice (some ⟨b,0,none⟩) 1 1] W fun e w'=>∃a k,e=.returned (.slice a 1 k)/\(Ts w' a 1 [dg st]/\(a=none->k=0))/\Gr W w'):=fun W b t f Q h=>Hm (l:=[st]) (rq h) (fun y hy=>by rw[apE.1 hy];omega) (by omega) (T Q)
 have HTW:Hid (∀(W:World),Ch g w W->Ns .u32 W oa n l->Calls prog 79 #[.slice oa n oc] W fun e w'=>∃a k,e=.returned (.slice a n k)/\(Ts w' a n (l.map dg)/\(a=none->k=0))/\Gr W w'):=fun W Q N=>Hq N hl (by omega) (T Q)
 have hll:=N.len;have HJ:Hid (∀(W:World) (b:Nat),Gs W b 3 [[JP],[dg st],l.map dg]->Calls prog 51 #[.slice (some ⟨b,0,none⟩) 3 3] W fun e w'=>e=.returned (str (bH JP (st::l)))/\Gr W w'):=fun W b S=>Xx (k:=[st]) S (by decide) (fun y hy=>by rw[apE.1 hy];omega) (fun y hy=>by have:=hl y hy;omega) (by simp;omega)
 have z0:=iE hb;have z1:=iY hb;have z2:=EZ hb;have f0:w.frozen? ⟨g,0,none⟩=false:=lh hb;have f1:w.frozen? ⟨g,1,none⟩=false:=lh hb;have f2:w.frozen? ⟨g,2,none⟩=false:=lh hb;have HGL:=kH hgl;have am2:g≠w.heap.size:=by omega
 generalize str (bH JP (st::l))=V at *
 go_enter func78,ntmps78;go_wp2_with fail;refine aT (fun W=>W.heap[g]?=some (.cells #[(.slice ma mn mc),(.slice ha hn hc),.slice none 0 0,U,fr] 71 (0,0))/\W.heap[w.heap.size]?=some (.cells #[(.slice ma mn mc),(.slice ha hn hc),.slice oa n oc,.int .i64 st] 47 (0,0))/\Ch g w W/\Ns .u32 W oa n l) (HW.out _ rfl) ?_;rintro w4 ⟨b1,b2,Q4,N4⟩;have HB1:=kH b1;have PU:=kH Q4;have HN4:=kH N4;have y2:=EZ b2;have y3:=QP b2;have hw4:=(gs b2).1;refine aut (S:=fun W=>Gr w4 W) (by kernel_rfl) (Gr.refl w4).drew (fun hHeld=>?_);have aY:=kH hHeld;refine aT (fun W=>Gr w4 W) aY.out ?_;rintro w5 G5;have rO:=kH G5;refine tK 1 (.pointer (some ⟨w.heap.size,3,none⟩)) rO.out ?_;refine auF (i:=2) (v:=.int .i64 st) rfl (by kernel_rfl) (by kernel_rfl) (by kernel_rfl) (fun _ _ _ h=>h) (Or.inl ⟨by rfl,fun W hW=>by have y2:=(hW.cell _ (by exact hw4)).trans y2;have y3:=(hW.cell _ (by exact hw4)).trans y3;go_simp⟩) rO.out ?_;simp only[apN,apP,apQ,Act.put,apl,apC,apy];refine tK 5 (.pointer (some ⟨w.heap.size,2,none⟩)) rO.out ?_;refine auF (i:=6) (v:=.slice oa n oc) rfl (by kernel_rfl) (by kernel_rfl) (by kernel_rfl) (fun _ _ _ h=>h) (Or.inl ⟨by rfl,fun W hW=>by have y2:=(hW.cell _ (by exact hw4)).trans y2;have y3:=(hW.cell _ (by exact hw4)).trans y3;go_simp⟩) rO.out ?_;simp only[apN,apP,apQ,Act.put,apl,apC,apy];refine aue (rs:=[0,3]) (by kernel_rfl) (by simp) ?_;refine aua rfl (fun K hK=>?_) (aua rfl (fun K hK=>?_) aud)
 ·skip
  go_simp;refine hK.out _ _ (rO.out.alloc _) (fun hx=>?_);refine aT (fun W=>W.heap[w5.heap.size]?=some (.cells #[.string ⟨#[114,97,110]⟩] 9 (0,0))/\Gr w5 W) ⟨at5 w5 _,(Gr.refl _).alloc _⟩ ?_;rintro w6 ⟨hb,G⟩;have sN:=kH hb;have Ri:=kH G;have HS9:=kH (rO.out.trans G);refine aue (rs:=[3]) (by kernel_rfl) (by simp) ?_;refine aua rfl (fun K hK=>?_) aud;go_simp;refine hK.out _ _ (HS9.out.alloc _) (fun hx=>?_);refine aT (fun W=>W.heap[w6.heap.size]?=some (.cells #[.int .i64 (st:Int)] 3 (0,0))/\Gr w6 W) ⟨at5 w6 _,(Gr.refl _).alloc _⟩ ?_;rintro w10 ⟨hb,G⟩;have aih:=kH hb;have aez:=kH G;have kv:=kH (HS9.out.trans G);refine aue (rs:=[4]) (by kernel_rfl) (by simp) ?_;refine aua rfl (fun K hK=>?_) aud;go_simp;refine(HTI.out _ _ _ _ (PU.out.gr kv.out) (cu (Gr.refl _) aih.out)).mono ?_;rintro e w14 ⟨a15,k16,rfl,ht,G⟩;have aii:=kH ht;have aij:=kH G;have VG:=kH (kv.out.trans G);refine hK.out _ _ VG.out (fun hx=>?_);refine aue (rs:=[7]) (by kernel_rfl) (by simp) ?_;refine aua rfl (fun K hK=>?_) aud;go_simp;refine(HTW.out _ (PU.out.gr VG.out) (HN4.out.of VG.out)).mono ?_;rintro e w20 ⟨a21,k22,rfl,ht,G⟩;have ail:=kH ht;have VH:=kH G;have PW:=kH (VG.out.trans G);refine hK.out _ _ PW.out (fun hx=>?_);refine aue (rs:=[8]) (by kernel_rfl) (by simp) ?_;refine aua rfl (fun K hK=>?_) aud;go_simp;refine hK.out _ _ (PW.out.alloc _) (fun hx=>?_);refine aT (fun W=>W.heap[w20.heap.size]?=some (.cells #[.slice (some ⟨w5.heap.size,0,none⟩) 1 1,.slice a15 1 k16,.slice a21 n k22] 22 (0,0))/\Gr w20 W) ⟨at5 w20 _,(Gr.refl _).alloc _⟩ ?_;rintro w26 ⟨hb,G⟩;have aim:=kH hb;have aa8:=kH G;have ain:=kH (PW.out.trans G);refine aue (rs:=[9]) (by kernel_rfl) (by simp) ?_;refine aua rfl (fun K hK=>?_) aud;go_simp;refine(HJ.out _ _ (gs3 (cu (Gr.refl _) aim.out) (fP ⟨oP sN.out,fun h=>by cases h⟩ (((aez.out.trans aij.out).trans VH.out).trans aa8.out)) (fP aii.out (VH.out.trans aa8.out)) (fP ail.out aa8.out))).mono ?_;rintro e w30 ⟨rfl,G⟩;have am4:=kH G;have VI:=kH (ain.out.trans G);refine hK.out _ _ VI.out (fun hx=>?_);refine tK 10 V VI.out ?_;refine auy (by kernel_rfl) ?_ _;go_wp2_with fail;go_ret;exact⟨rfl,cu VI.out HB1.out,PU.out.gr VI.out⟩
 ·skip
  go_simp;refine hK.out _ _ (rO.out.alloc _) (fun hx=>?_);refine aT (fun W=>W.heap[w5.heap.size]?=some (.cells #[.int .i64 (st:Int)] 3 (0,0))/\Gr w5 W) ⟨at5 w5 _,(Gr.refl _).alloc _⟩ ?_;rintro w33 ⟨hb,G⟩;have aeA:=kH hb;have am5:=kH G;have VJ:=kH (rO.out.trans G);refine aue (rs:=[0,4]) (by kernel_rfl) (by simp) ?_;refine aua rfl (fun K hK=>?_) (aua rfl (fun K hK=>?_) aud)
  ·skip
   go_simp;refine hK.out _ _ (VJ.out.alloc _) (fun hx=>?_);refine aT (fun W=>W.heap[w33.heap.size]?=some (.cells #[.string ⟨#[114,97,110]⟩] 9 (0,0))/\Gr w33 W) ⟨at5 w33 _,(Gr.refl _).alloc _⟩ ?_;rintro w37 ⟨hb,G⟩;have aio:=kH hb;have aip:=kH G;have aeB:=kH (VJ.out.trans G);refine aue (rs:=[4]) (by kernel_rfl) (by simp) ?_;refine aua rfl (fun K hK=>?_) aud;go_simp;refine(HTI.out _ _ _ _ (PU.out.gr aeB.out) (cu aip.out aeA.out)).mono ?_;rintro e w41 ⟨a42,k43,rfl,ht,G⟩;have aiq:=kH ht;have air:=kH G;have VK:=kH (aeB.out.trans G);refine hK.out _ _ VK.out (fun hx=>?_);refine aue (rs:=[7]) (by kernel_rfl) (by simp) ?_;refine aua rfl (fun K hK=>?_) aud;go_simp;refine(HTW.out _ (PU.out.gr VK.out) (HN4.out.of VK.out)).mono ?_;rintro e w47 ⟨a48,k49,rfl,ht,G⟩;have ait:=kH ht;have aeC:=kH G;have aa9:=kH (VK.out.trans G);refine hK.out _ _ aa9.out (fun hx=>?_);refine aue (rs:=[8]) (by kernel_rfl) (by simp) ?_;refine aua rfl (fun K hK=>?_) aud;go_simp;refine hK.out _ _ (aa9.out.alloc _) (fun hx=>?_);refine aT (fun W=>W.heap[w47.heap.size]?=some (.cells #[.slice (some ⟨w33.heap.size,0,none⟩) 1 1,.slice a42 1 k43,.slice a48 n k49] 22 (0,0))/\Gr w47 W) ⟨at5 w47 _,(Gr.refl _).alloc _⟩ ?_;rintro w53 ⟨hb,G⟩;have aiu:=kH hb;have aba:=kH G;have aiv:=kH (aa9.out.trans G);refine aue (rs:=[9]) (by kernel_rfl) (by simp) ?_;refine aua rfl (fun K hK=>?_) aud;go_simp;refine(HJ.out _ _ (gs3 (cu (Gr.refl _) aiu.out) (fP ⟨oP aio.out,fun h=>by cases h⟩ ((air.out.trans aeC.out).trans aba.out)) (fP aiq.out (aeC.out.trans aba.out)) (fP ait.out aba.out))).mono ?_;rintro e w57 ⟨rfl,G⟩;have am8:=kH G;have VL:=kH (aiv.out.trans G);refine hK.out _ _ VL.out (fun hx=>?_);refine tK 10 V VL.out ?_;refine auy (by kernel_rfl) ?_ _;go_wp2_with fail;go_ret;exact⟨rfl,cu VL.out HB1.out,PU.out.gr VL.out⟩
  ·skip
   go_simp;refine(HTI.out _ _ _ _ (PU.out.gr VJ.out) (cu (Gr.refl _) aeA.out)).mono ?_;rintro e w60 ⟨a61,k62,rfl,ht,G⟩;have aeD:=kH ht;have am9:=kH G;have Ka:=kH (VJ.out.trans G);refine hK.out _ _ Ka.out (fun hx=>?_);refine aue (rs:=[0,7]) (by kernel_rfl) (by simp) ?_;refine aua rfl (fun K hK=>?_) (aua rfl (fun K hK=>?_) aud)
   ·skip
    go_simp;refine hK.out _ _ (Ka.out.alloc _) (fun hx=>?_);refine aT (fun W=>W.heap[w60.heap.size]?=some (.cells #[.string ⟨#[114,97,110]⟩] 9 (0,0))/\Gr w60 W) ⟨at5 w60 _,(Gr.refl _).alloc _⟩ ?_;rintro w66 ⟨hb,G⟩;have aiw:=kH hb;have aix:=kH G;have abb:=kH (Ka.out.trans G);refine aue (rs:=[7]) (by kernel_rfl) (by simp) ?_;refine aua rfl (fun K hK=>?_) aud;go_simp;refine(HTW.out _ (PU.out.gr abb.out) (HN4.out.of abb.out)).mono ?_;rintro e w70 ⟨a71,k72,rfl,ht,G⟩;have aiz:=kH ht;have aeE:=kH G;have abd:=kH (abb.out.trans G);refine hK.out _ _ abd.out (fun hx=>?_);refine aue (rs:=[8]) (by kernel_rfl) (by simp) ?_;refine aua rfl (fun K hK=>?_) aud;go_simp;refine hK.out _ _ (abd.out.alloc _) (fun hx=>?_);refine aT (fun W=>W.heap[w70.heap.size]?=some (.cells #[.slice (some ⟨w60.heap.size,0,none⟩) 1 1,.slice a61 1 k62,.slice a71 n k72] 22 (0,0))/\Gr w70 W) ⟨at5 w70 _,(Gr.refl _).alloc _⟩ ?_;rintro w76 ⟨hb,G⟩;have aiA:=kH hb;have abe:=kH G;have aiB:=kH (abd.out.trans G);refine aue (rs:=[9]) (by kernel_rfl) (by simp) ?_;refine aua rfl (fun K hK=>?_) aud;go_simp;refine(HJ.out _ _ (gs3 (cu (Gr.refl _) aiA.out) (fP ⟨oP aiw.out,fun h=>by cases h⟩ (aeE.out.trans abe.out)) (fP aeD.out ((aix.out.trans aeE.out).trans abe.out)) (fP aiz.out abe.out))).mono ?_;rintro e w80 ⟨rfl,G⟩;have anb:=kH G;have VM:=kH (aiB.out.trans G);refine hK.out _ _ VM.out (fun hx=>?_);refine tK 10 V VM.out ?_;refine auy (by kernel_rfl) ?_ _;go_wp2_with fail;go_ret;exact⟨rfl,cu VM.out HB1.out,PU.out.gr VM.out⟩
   ·skip
    go_simp;refine(HTW.out _ (PU.out.gr Ka.out) (HN4.out.of Ka.out)).mono ?_;rintro e w83 ⟨a84,k85,rfl,ht,G⟩;have aiC:=kH ht;have aiD:=kH G;have abf:=kH (Ka.out.trans G);refine hK.out _ _ abf.out (fun hx=>?_);refine aue (rs:=[0]) (by kernel_rfl) (by simp) ?_;refine aua rfl (fun K hK=>?_) aud;go_simp;refine hK.out _ _ (abf.out.alloc _) (fun hx=>?_);refine aT (fun W=>W.heap[w83.heap.size]?=some (.cells #[.string ⟨#[114,97,110]⟩] 9 (0,0))/\Gr w83 W) ⟨at5 w83 _,(Gr.refl _).alloc _⟩ ?_;rintro w89 ⟨hb,G⟩;have aiF:=kH hb;have aeF:=kH G;have aeG:=kH (abf.out.trans G);refine aue (rs:=[8]) (by kernel_rfl) (by simp) ?_;refine aua rfl (fun K hK=>?_) aud;go_simp;refine hK.out _ _ (aeG.out.alloc _) (fun hx=>?_);refine aT (fun W=>W.heap[w89.heap.size]?=some (.cells #[.slice (some ⟨w83.heap.size,0,none⟩) 1 1,.slice a61 1 k62,.slice a84 n k85] 22 (0,0))/\Gr w89 W) ⟨at5 w89 _,(Gr.refl _).alloc _⟩ ?_;rintro w93 ⟨hb,G⟩;have aiG:=kH hb;have abg:=kH G;have aiH:=kH (aeG.out.trans G);refine aue (rs:=[9]) (by kernel_rfl) (by simp) ?_;refine aua rfl (fun K hK=>?_) aud;go_simp;refine(HJ.out _ _ (gs3 (cu (Gr.refl _) aiG.out) (fP ⟨oP aiF.out,fun h=>by cases h⟩ abg.out) (fP aeD.out ((aiD.out.trans aeF.out).trans abg.out)) (fP aiC.out (aeF.out.trans abg.out)))).mono ?_;rintro e w97 ⟨rfl,G⟩;have ane:=kH G;have VN:=kH (aiH.out.trans G);refine hK.out _ _ VN.out (fun hx=>?_);refine tK 10 V VN.out ?_;refine auy (by kernel_rfl) ?_ _;go_wp2_with fail;go_ret;exact⟨rfl,cu VN.out HB1.out,PU.out.gr VN.out⟩
end Vp
namespace Vp
open Go.ChangeShapes Go.WideShapes Go.ChangeAt Go.RowKit Mm Hh Hc Mc Ud As En

variable {w w' :World} {B :Nat} {M H P :Value} {p :Pl}
def Tz (B:Nat) (w:World):Prop:=(∃w0:World,w0.heap.size=B/\nI B w0/\gz w0/\Li w0/\Gr w0 w)/\Hc.mb<w.heap.size
theorem Tz.below (T:Tz B w)(h:Below B w w'):Tz B w':=by obtain⟨⟨w0,rfl,h1,h2,h3,G⟩,hm⟩:=T;exact⟨⟨w0,rfl,h1,h2,h3,auI G h⟩,apq hm h.size⟩
theorem Tz.le (T:Tz B w):B<=w.heap.size:=by obtain⟨⟨w0,rfl,h1,h2,h3,G⟩,hm⟩:=T;exact G.size
theorem Tz.gr (T:Tz B w)(G:Gr w w'):Tz B w':=T.below (aun G T.le)
theorem Tz.PX (T:Tz B w):gz w:=by obtain⟨⟨w0,rfl,h1,h2,h3,G⟩,hm⟩:=T;exact h2.of G
theorem Tz.ers (T:Tz B w):Li w:=by obtain⟨⟨w0,rfl,h1,h2,h3,G⟩,hm⟩:=T;exact h3.of G
theorem Tz.aeH (T:Tz B w):nI w.heap.size w:=by obtain⟨⟨w0,rfl,h1,h2,h3,G⟩,hm⟩:=T;have h:=h1.below G;have s:=G.size;exact⟨h.tt' s,h.tr,apq h.trb s,h.ts' s,h.tq,apq h.tqb s⟩
structure Ry (w:World) (K:Nat) (M H:Value) (oa:Option Addr) (S:Sh):Prop where
 mx:Mx w K M H S.m S.hs
 out:Wm w oa S.out.length S.out
theorem Ry.gr {K:Nat}{oa:Option Addr}{S:Sh}(R:Ry w K M H oa S)(G:Gr w w'):Ry w' K M H oa S:=⟨R.mx.of G,R.out.of G⟩
def Nb (w:World) (b:Nat):Prop:=∀i v,w.cell? ⟨b,i,none⟩=some v->∀z,v≠.int .u8 z/\v≠.int .u32 z
theorem abh {b:Nat}{oa:Option Addr}{n:Nat}{os:List Int}(hs:Nb w b)(hk:∀k,k<w.heap.size->k≠b->w'.heap[k]?=w.heap[k]?)(W:Wm w oa n os):Wm w' oa n os:=⟨W.len,W.nil,fun ad e t ht=>uY hs hk (.inr rfl) (W.cell ad e t ht)⟩
theorem Ry.row {K b:Nat}{oa:Option Addr}{S:Sh}{o cs:Array Value}{t:Nat}(R:Ry w K M H oa S)(hb:w.heap[b]?=some (.cells o t (0,0)))(t1:t≠5)(t2:t≠43)(hs:Nb w b):Ry (w.setRow b cs) K M H oa S:=⟨R.mx.to fun k q t' f ht e=>sV (by rcases ht with rfl|rfl;exact aa e hb t1.symm;exact aa e hb t2.symm),abh hs (fun k _ hk=>sV hk) R.out⟩
theorem abj {b n:Nat}{ua:Option Addr}{us:List Uv}{cs:Array Value}(R:Un w ua n us)(hs:Nb w b):Un (w.setRow b cs) ua n us:=
 R.keep (aaU hs (fun k _ hk=>sV hk) (by simp) R.us) fun b' o e hn=>by
  obtain⟨b2,o2,e2,hb2,hc⟩:=R.us.spot hn;rw[e]at e2;injection e2 with e2;injection e2 with e3 e4;subst e3 e4;obtain⟨u0,hu0⟩:=aaV (l:=us) (by have:=R.us.len;omega);obtain⟨x,⟨ba,bn,bc,la,ln,lc,ex,ou,_⟩,h2⟩:=hc 0 u0 hu0;have h0:=h2 1 (.int .u32 (Hh.rg u0.was 0)) (by rw[ex];exact(q9 ou.was (j:=0) (by omega)).trans (lC ou.was (by omega)));exact sV (zF hs (fun k _ hk=>sV (cs:=cs) hk) (.inr rfl) h0)
theorem ru {K:Nat}{m:List UInt8}{hs:List Hv}(X:Mx w K M H m hs):∃ma mc ha hc,M=.slice ma m.length mc/\H=.slice ha hs.length hc:=by obtain⟨_,_,ma,mc,e1⟩:=az X.mem;obtain⟨_,_,ha,hc,e2⟩:=az X.hrt;exact⟨ma,mc,ha,hc,e1,e2⟩
theorem PY {ma ha pa:Option Addr}{hn pn:Nat}(mc hc pc:Nat){m:List UInt8}{hs:List Hv}{ps:List (Int×Int)}(mn:Nat)(T:Tz B w)(Mm:Mem w ma mn m)(hcap:ma=none->mc=0)(H:Hs w ha hn hs)(P:Ps w pa pn ps)(hy:wrong m hs ps=0):Calls prog 10 #[.agg #[.slice ma mn mc,.slice ha hn hc],.slice pa pn pc] w fun e w'=>∃xB mc' ha' hc' oa oc ua uc,e=.returned (.tuple #[.agg #[.slice xB (aL ⟨hs,m,[],0⟩ (nums ps)).m.length mc',.slice ha' (aL ⟨hs,m,[],0⟩ (nums ps)).hs.length hc',.slice oa (aL ⟨hs,m,[],0⟩ (nums ps)).out.length oc,.int .i64 (aL ⟨hs,m,[],0⟩ (nums ps)).steps],.slice ua (gD ⟨hs,m,[],0⟩ (jS ⟨hs,m,[],0⟩ (nums ps))).length uc,.int .i64 0])/\ Ry w' w.heap.size (.slice xB (aL ⟨hs,m,[],0⟩ (nums ps)).m.length mc') (.slice ha' (aL ⟨hs,m,[],0⟩ (nums ps)).hs.length hc') oa (aL ⟨hs,m,[],0⟩ (nums ps))/\Un w' ua (gD ⟨hs,m,[],0⟩ (jS ⟨hs,m,[],0⟩ (nums ps))).length (gD ⟨hs,m,[],0⟩ (jS ⟨hs,m,[],0⟩ (nums ps)))/\(gD ⟨hs,m,[],0⟩ (jS ⟨hs,m,[],0⟩ (nums ps))).length<=uc/\Gr w w':=by
 have hmb:=T.2;have tt:=T.aeH.tt;have H0:Calls prog 10 #[.agg #[.slice ma mn mc,.slice ha hn hc],.slice pa pn pc] w fun e w'=>∃xB mc' ha' hc' oa oc ua uc,e=.returned (.tuple #[.agg #[.slice xB (aL ⟨hs,m,[],0⟩ (nums ps)).m.length mc',.slice ha' (aL ⟨hs,m,[],0⟩ (nums ps)).hs.length hc',.slice oa (aL ⟨hs,m,[],0⟩ (nums ps)).out.length oc,.int .i64 (aL ⟨hs,m,[],0⟩ (nums ps)).steps],.slice ua (gD ⟨hs,m,[],0⟩ (jS ⟨hs,m,[],0⟩ (nums ps))).length uc,.int .i64 0])/\Ry w' w.heap.size (.slice xB (aL ⟨hs,m,[],0⟩ (nums ps)).m.length mc') (.slice ha' (aL ⟨hs,m,[],0⟩ (nums ps)).hs.length hc') oa (aL ⟨hs,m,[],0⟩ (nums ps))/\(Us w' ua (gD ⟨hs,m,[],0⟩ (jS ⟨hs,m,[],0⟩ (nums ps))).length (gD ⟨hs,m,[],0⟩ (jS ⟨hs,m,[],0⟩ (nums ps)))/\UsL w' w.heap.size ua (gD ⟨hs,m,[],0⟩ (jS ⟨hs,m,[],0⟩ (nums ps))).length)/\(gD ⟨hs,m,[],0⟩ (jS ⟨hs,m,[],0⟩ (nums ps))).length<=uc/\Gr w w':=by
  letI:Inhabited Hc.bN:=⟨⟨w.heap.size⟩⟩
  refine(Py mc hc pc mn tt Mm hcap H P hy (apn _)).mono ?_;rintro e w' ⟨v,ua,un,uc,rfl,h1,h2,h3,G⟩;obtain⟨M',H',oa,oc,rfl,X,W⟩:=PG h1;obtain⟨xB,mc',ha',hc',rfl,rfl⟩:=ru X;have hl:=h2.1.len;subst hl;exact⟨_,_,_,_,oa,oc,ua,uc,rfl,⟨X,W⟩,h2,h3,G⟩
 refine H0.mono ?_;rintro e w' ⟨xB,mc',ha',hc',oa,oc,ua,uc,he,R,⟨h2,h2L⟩,h3,G⟩;exact⟨xB,mc',ha',hc',oa,oc,ua,uc,he,R,⟨h2,fun b o e j hj=>by
  obtain⟨q1,q2,q3⟩:=h2L b o e j hj;refine⟨by omega,fun ba bn bc hc _ ad hb=>?_,fun la ln lc hc _ ad hb=>?_⟩
  ·have h:=q2 ba bn bc hc ad hb;omega
  ·have h:=q3 la ln lc hc ad hb;omega⟩,h3,G⟩
theorem PZ {ma ha pa:Option Addr}{hn pn:Nat}(mc hc pc:Nat){m:List UInt8}{hs:List Hv}{ps:List (Int×Int)}(mn:Nat){room:Int}(T:Tz B w)(Mm:Mem w ma mn m)(hcap:ma=none->mc=0)(H:Hs w ha hn hs)(P:Ps w pa pn ps)(hy:wrong m hs ps=0)(r0:0<=room)(r1:room<=64):Calls prog 12 #[.agg #[.slice ma mn mc,.slice ha hn hc],.slice pa pn pc,.int .i64 room] w fun e w'=>∃xB mc' ha' hc' oa oc c1 c2 c3 c4 c5 c6,e=.returned (.tuple #[.agg #[.slice xB (aL ⟨hs,m,[],0⟩ (nums ps)).m.length mc',.slice ha' (aL ⟨hs,m,[],0⟩ (nums ps)).hs.length hc',.slice oa (aL ⟨hs,m,[],0⟩ (nums ps)).out.length oc,.int .i64 (aL ⟨hs,m,[],0⟩ (nums ps)).steps],.agg #[.int .i64 c1,.slice c2 c3 c4,.int .i64 c5,.int .i64 c6],.int .i64 0])/\ Ry w' w.heap.size (.slice xB (aL ⟨hs,m,[],0⟩ (nums ps)).m.length mc') (.slice ha' (aL ⟨hs,m,[],0⟩ (nums ps)).hs.length hc') oa (aL ⟨hs,m,[],0⟩ (nums ps))/\Gr w w':=by
 have tt:=T.aeH
 letI:Inhabited Hc.bN:=⟨⟨w.heap.size⟩⟩
 refine(UJ mc hc pc mn room tt Mm hcap H P hy r0 r1 (apn _) w (Gr.refl _)).mono ?_;rintro e w' ⟨v,a,n,c,pu,sl,L,rfl,h1,_,G⟩;obtain⟨M',H',oa,oc,rfl,X,W⟩:=PG h1;obtain⟨xB,mc',ha',hc',rfl,rfl⟩:=ru X;exact⟨_,_,_,_,oa,oc,_,_,_,_,_,_,rfl,⟨X,W⟩,G⟩
def ET (p:Pl) (room:Nat):Nat:=if wrong p.m p.hs p.ps=0 then(if 64<room then 3 else 0)else(wrong p.m p.hs p.ps).toNat
end Vp
end Go.Proofs.YtiadhbmnfjfioaaGreatDoor
