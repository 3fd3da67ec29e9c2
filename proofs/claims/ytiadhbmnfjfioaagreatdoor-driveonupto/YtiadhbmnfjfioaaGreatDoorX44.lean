/- ours -/
import Derived.Test.YtiadhbmnfjfioaaGreatDoorX43
import Derived.Test.YtiadhbmnfjfioaaGreatDoorX41
import Derived.Test.YtiadhbmnfjfioaaGreatDoorX42
set_option linter.unusedVariables false
set_option linter.unusedSimpArgs false
set_option maxHeartbeats 8000000
set_option maxRecDepth 100000
set_option linter.unusedSectionVars false
namespace Go.Proofs.YtiadhbmnfjfioaaGreatDoor
open Go.Proofs.Tryz hiding d0
open Go.ChangeShapes Go.WideShapes Go.ChangeAt Go.RowKit
variable [Inhabited Hc.bN]
namespace Vp
open Mm Hh Hc Mc Ud As

variable {w w' :World} {g B :Nat} {M H P U :Value} {p :Pl}
theorem zN {l:List UInt8}{pc:Int}(h0:0<=pc)(h1:pc<4294967296):(¬Bk.jR l pc=0->Bk.blk l pc 16 0=[])/\(Bk.jR l pc=0->∃r,Bk.blk l pc 16 0=aN l 13 pc::r):=by
 have e:Bk.at4 pc 0=pc:=by unfold Bk.at4 Wd.lo;omega
 refine⟨fun h=>Bk.pg (n:=15) (k:=0) (by rw[e];exact h),fun h=>?_⟩;rw[Bk.blk,e,at7 h];exact⟨_,rfl⟩
theorem Ic {x:Int}(h0:0<=x)(h1:x<4294967296)(h:¬Dc.aO x=0):Re.XI (Dc.aO x) (Dc.iF (Dc.aJ (Dc.aO x)) x) (Dc.bZ (Dc.aJ (Dc.aO x)) x) (Dc.bV (Dc.aJ (Dc.aO x)) x) (Dc.bS (Dc.aJ (Dc.aO x)) x):=by
 have hb:=Dc.kI h0 h1;have:0<=Dc.aO x:=by unfold Dc.aO;split<;>omega
 exact Dw.uJ h0 h1 ⟨by unfold Dw.fZ;simpa using h,rfl,rfl,rfl,rfl,rfl⟩
theorem abx {pc:Nat}(hp:pc<4294967296)(X:Pr 71 B w g M H P U p)(T:Tz B w)(hf:Bk.jR p.m pc=0):Calls prog 53 #[.pointer (some ⟨g,0,none⟩),.int .u32 pc] w (fE 71 B w g M H P (p,mF p [pc])):=by
 obtain⟨r,hr⟩:=(zN (l:=p.m) (pc:=(pc:Int)) (by omega) (by omega)).2 hf;have e:mF p [pc]=zw (aN p.m 13 pc):=by unfold mF;simp only[hr]
 rw[e];obtain⟨ma,mc,ha,hc0,pa,pc',ua,un,uc,rfl,rfl,rfl,rfl,Mm1,_⟩:=X.open;have z0:=iE X.blk;have m4:=X.ok.m4;have wx:=W.aN p.m 13 (pc:Int);have hd:¬Dc.aO (aN p.m 13 pc)=0:=by
  unfold Bk.jR at hf;split at hf
  ·split at hf
   ·cases hf
   ·assumption
  ·cases hf
 have HF:Hid (Calls prog 29 #[.slice ma p.m.length mc,.int .u32 pc] w fun e w'=>e=.returned (.tuple #[Dw.kP (aN p.m 13 pc),.int .i64 0])/\Gr w w'):=by
  have:=Hf.ng mc (pc:Int) Mm1 T.PX.tb (by omega) (by omega) (by omega);rwa[hf]at this
 have hP:=Ic wx.1 wx.2 hd;have ib:=yF (Dc.aJ (Dc.aO (aN p.m 13 pc))) wx.1 wx.2;have HP:Hid (∀W:World,Gr w W->Calls prog 16 #[Dw.kP (aN p.m 13 pc)] W fun e w'=>e=.returned (.tuple #[str (zw (aN p.m 13 pc)),.int .i64 0])/\Gr W w'):=fun W G=>KA ib.1 ib.2 hP (T.gr G).PX
 have HB:Hid (∀e w',Gr w w'->e=.returned (str (zw (aN p.m 13 pc)))->fE 71 B w g (.slice ma p.m.length mc) (.slice ha p.hs.length hc0) (.slice pa p.ps.length pc') (p,zw (aN p.m 13 pc)) e w'):=fun e w' G he=>⟨he,_,_,_,_,X.gr G,Fx.bD G⟩
 unfold Dw.kP Dw.df at HF HP;generalize str (zw (aN p.m 13 pc))=V at *
 generalize zw (aN p.m 13 pc)=V0 at *
 generalize Dc.iF (Dc.aJ (Dc.aO (aN p.m 13 pc))) (aN p.m 13 pc)=x1 at *
 generalize Dc.bZ (Dc.aJ (Dc.aO (aN p.m 13 pc))) (aN p.m 13 pc)=x2 at *
 generalize Dc.bV (Dc.aJ (Dc.aO (aN p.m 13 pc))) (aN p.m 13 pc)=x3 at *
 generalize Dc.bS (Dc.aJ (Dc.aO (aN p.m 13 pc))) (aN p.m 13 pc)=x4 at *
 generalize Dc.aO (aN p.m 13 pc)=x0 at *
 go_enter func53,ntmps53;go_wp2_with fail;refine HF.out.mono ?_;rintro e w1 ⟨rfl,G1⟩;have aU:=kH G1
 go_wp2_with (first
  |(refine auf rfl 59 _ _ rfl w1.heap.size #[.int .i64 x0,.int .i64 x1,.int .i64 x2,.int .i64 x3,.int .i32 x4] rfl (by simp[Act.eval,Act.put]) 59 #[.int .i64 0,.int .i64 0,.int .i64 0,.int .i64 0,.int .i32 0] ?r3 Hf.iI rfl (Hf.mZ _ _ _ _ _) ?_;(case r3=>exact at5 w1 _))
  |(refine auL rfl 59 _ rfl w1.heap.size rfl 59 #[.int .i64 x0,.int .i64 x1,.int .i64 x2,.int .i64 x3,.int .i32 x4] (0,0) _ ?z1 underlying59 rfl Hf.iI ?_;(case z1=>exact aup _ _ _ _ _ (0,0) (at5 w1 _))))
 refine(HP.out _ (ag (aU.out.alloc _) aU.out.size _)).mono ?_;rintro e w5 ⟨rfl,G5⟩;have lu:=kH ((ag (aU.out.alloc _) aU.out.size _).trans G5);go_wp2_with fail;go_ret;exact HB.out _ _ lu.out rfl
theorem aby {pc:Nat}(hp:pc<4294967296)(X:Pr 71 B w g M H P U p)(T:Tz B w)(hf:¬Bk.jR p.m pc=0):Calls prog 53 #[.pointer (some ⟨g,0,none⟩),.int .u32 pc] w (fE 71 B w g M H P (p,mF p [pc])):=by
 have hr:=(zN (l:=p.m) (pc:=(pc:Int)) (by omega) (by omega)).1 hf;have e:mF p [pc]=aNo:=by unfold mF;simp only[hr]
 rw[e];obtain⟨ma,mc,ha,hc0,pa,pc',ua,un,uc,rfl,rfl,rfl,rfl,Mm1,_⟩:=X.open;have z0:=iE X.blk;have m4:=X.ok.m4;have HF:=kH (Hf.ng mc (pc:Int) Mm1 T.PX.tb (by omega) (by omega) (by omega));have HB:Hid (∀e w',Gr w w'->e=.returned (str aNo)->fE 71 B w g (.slice ma p.m.length mc) (.slice ha p.hs.length hc0) (.slice pa p.ps.length pc') (p,aNo) e w'):=fun e w' G he=>⟨he,_,_,_,_,X.gr G,Fx.bD G⟩
 unfold Dw.kP Dw.df at HF;generalize Bk.jR p.m pc=E at *
 generalize Dc.iF (Dc.aJ (Dc.aO (aN p.m 13 pc))) (aN p.m 13 pc)=x1 at *
 generalize Dc.bZ (Dc.aJ (Dc.aO (aN p.m 13 pc))) (aN p.m 13 pc)=x2 at *
 generalize Dc.bV (Dc.aJ (Dc.aO (aN p.m 13 pc))) (aN p.m 13 pc)=x3 at *
 generalize Dc.bS (Dc.aJ (Dc.aO (aN p.m 13 pc))) (aN p.m 13 pc)=x4 at *
 generalize Dc.aO (aN p.m 13 pc)=x0 at *
 go_enter func53,ntmps53;go_wp2_with fail;refine HF.out.mono ?_;rintro e w1 ⟨rfl,G1⟩;have aU:=kH G1;go_wp2_with (refine auf rfl 59 _ _ rfl w1.heap.size #[.int .i64 x0,.int .i64 x1,.int .i64 x2,.int .i64 x3,.int .i32 x4] rfl (by simp[Act.eval,Act.put]) 59 #[.int .i64 0,.int .i64 0,.int .i64 0,.int .i64 0,.int .i32 0] ?r3 Hf.iI rfl (Hf.mZ _ _ _ _ _) ?_;(case r3=>exact at5 w1 _));go_ret;exact HB.out _ _ (ag (aU.out.alloc _) aU.out.size _) rfl
theorem QG {pc:Nat}(hp:pc<4294967296)(X:Pr 71 B w g M H P U p)(T:Tz B w):Calls prog 53 #[.pointer (some ⟨g,0,none⟩),.int .u32 pc] w (fE 71 B w g M H P (p,mF p [pc])):=by
 by_cases hf:Bk.jR p.m pc=0
 ·exact abx hp X T hf
 ·exact aby hp X T hf
end Vp
namespace Vp
open Mm Hh Hc Mc Ud As

variable {w w' :World} {g B :Nat} {M H P U :Value} {p :Pl} {V :Value}
def Rd (w:World) (V:Value) (s:ByteArray) (l:List Nat):Prop:=Calls prog 42 #[V] w fun e w'=>∃a c,e=.returned (.tuple #[.string s,.slice a l.length c,.bool true])/\(Ns .u32 w' a l.length l/\∀b o,a=some ⟨b,o,none⟩->w.heap.size<=b)/\Gr w w'
def Cm (w:World) (g B:Nat) (M H P:Value) (f:Nat) (args:Array Value) (r:Pl×List Nat):Prop:=∀W:World,Gr w W->Calls prog f args W (fE 71 B w g M H P r)
theorem Cm.mk {f:Nat}{args:Array Value}{r:Pl×List Nat}(h:∀W:World,Gr w W->Calls prog f args W (fE 71 B W g M H P r)):Cm w g B M H P f args r:=fun W G=>(h W G).mono fun e w' q=>fE.pre (D:=(_,_,_)) (Fx.bD G) q
theorem V6 {x0:Nat}{r:Pl×List Nat}(R:Rd w V ⟨#[104,97,114,116]⟩ [x0])(C:Cm w g B M H P 44 #[.pointer (some ⟨g,0,none⟩),.int .u32 (x0:Int)] r):Calls prog 20 #[.pointer (some ⟨g,0,none⟩),V] w (fE 71 B w g M H P r):=by have HR:=kH R;have HC:Hid _:=C;clear R C;go_enter func20,ntmps20;go_wp2_with fail;refine HR.out.mono ?_;rintro e w1 ⟨a,c,rfl,⟨N,_⟩,G⟩;have HG:Hid (Gr w w1):=G;obtain⟨b,o,rfl,_,hc⟩:=N.spot (by simp);have c0:w1.cell? ⟨b,o,none⟩=some (.int .u32 (x0:Int)):=hc 0 x0 rfl;clear hc N G;go_wp2_with fail;refine(HC.out _ HG.out).mono ?_;rintro e w2 ⟨rfl,h⟩;go_wp2_with fail;go_ret;exact⟨rfl,h⟩
theorem QH {x0 x1 x2:Nat}{r:Pl×List Nat}(R:Rd w V ⟨#[115,101,116]⟩ [x0,x1,x2])(C:Cm w g B M H P 45 #[.pointer (some ⟨g,0,none⟩),.int .u32 (x0:Int),.int .u32 (x1:Int),.int .u32 (x2:Int)] r):Calls prog 20 #[.pointer (some ⟨g,0,none⟩),V] w (fE 71 B w g M H P r):=by
 have HR:Hid _:=R;have HC:Hid _:=C;clear R C;go_enter func20,ntmps20;go_wp2_with fail;refine HR.out.mono ?_;rintro e w1 ⟨a,c,rfl,⟨N,_⟩,G⟩;have HG:Hid (Gr w w1):=G;obtain⟨b,o,rfl,_,hc⟩:=N.spot (by simp);have c0:w1.cell? ⟨b,o,none⟩=some (.int .u32 (x0:Int)):=hc 0 x0 rfl;have c1:w1.cell? ⟨b,o+1,none⟩=some (.int .u32 (x1:Int)):=hc 1 x1 rfl;have c2:w1.cell? ⟨b,o+2,none⟩=some (.int .u32 (x2:Int)):=hc 2 x2 rfl;clear hc N G;go_wp2_with fail;go_region_with (go_at_call 45;refine(HC.out _ (HG.out.trans (Gr.refl _).drew)).mono ?_;rintro e w2 ⟨rfl,h⟩)
 all_goals
  go_wp2_with fail;go_ret;exact⟨rfl,h⟩
theorem V7 {x0 x1:Nat}{r:Pl×List Nat}(R:Rd w V ⟨#[112,105,99,107]⟩ [x0,x1])(C:Cm w g B M H P 46 #[.pointer (some ⟨g,0,none⟩),.int .u32 (x0:Int),.int .u32 (x1:Int)] r):Calls prog 20 #[.pointer (some ⟨g,0,none⟩),V] w (fE 71 B w g M H P r):=by
 have HR:Hid _:=R;have HC:Hid _:=C;clear R C;go_enter func20,ntmps20;go_wp2_with fail;refine HR.out.mono ?_;rintro e w1 ⟨a,c,rfl,⟨N,_⟩,G⟩;have HG:Hid (Gr w w1):=G;obtain⟨b,o,rfl,_,hc⟩:=N.spot (by simp);have c0:w1.cell? ⟨b,o,none⟩=some (.int .u32 (x0:Int)):=hc 0 x0 rfl;have c1:w1.cell? ⟨b,o+1,none⟩=some (.int .u32 (x1:Int)):=hc 1 x1 rfl;clear hc N G;go_wp2_with fail;go_region_with (go_at_call 46;refine(HC.out _ (HG.out.trans (Gr.refl _).drew)).mono ?_;rintro e w2 ⟨rfl,h⟩)
 all_goals
  go_wp2_with fail;go_ret;exact⟨rfl,h⟩
theorem abz {r:Pl×List Nat}(R:Rd w V ⟨#[114,117,110]⟩ [])(C:Cm w g B M H P 47 #[.pointer (some ⟨g,0,none⟩)] r):Calls prog 20 #[.pointer (some ⟨g,0,none⟩),V] w (fE 71 B w g M H P r):=by have HR:=kH R;have HC:=kH C;go_enter func20,ntmps20;go_wp2_with fail;refine HR.out.mono ?_;rintro e w1 ⟨a,c,rfl,⟨N,_⟩,G⟩;have HG:=kH G;go_wp2_with fail;refine(HC.out _ HG.out).mono ?_;rintro e w2 ⟨rfl,h⟩;go_wp2_with fail;go_ret;exact⟨rfl,h⟩
theorem V8 {x0:Nat}{r:Pl×List Nat}(R:Rd w V ⟨#[102,97,115,116]⟩ [x0])(C:Cm w g B M H P 48 #[.pointer (some ⟨g,0,none⟩),.int .u32 (x0:Int)] r):Calls prog 20 #[.pointer (some ⟨g,0,none⟩),V] w (fE 71 B w g M H P r):=by have HR:=kH R;have HC:Hid _:=C;clear R C;go_enter func20,ntmps20;go_wp2_with fail;refine HR.out.mono ?_;rintro e w1 ⟨a,c,rfl,⟨N,_⟩,G⟩;have HG:Hid (Gr w w1):=G;obtain⟨b,o,rfl,_,hc⟩:=N.spot (by simp);have c0:w1.cell? ⟨b,o,none⟩=some (.int .u32 (x0:Int)):=hc 0 x0 rfl;clear hc N G;go_wp2_with fail;refine(HC.out _ HG.out).mono ?_;rintro e w2 ⟨rfl,h⟩;go_wp2_with fail;go_ret;exact⟨rfl,h⟩
theorem abA {x0:Nat}{r:Pl×List Nat}(R:Rd w V ⟨#[104,97,114,116,63]⟩ [x0])(C:Cm w g B M H P 49 #[.pointer (some ⟨g,0,none⟩),.int .u32 (x0:Int)] r):Calls prog 20 #[.pointer (some ⟨g,0,none⟩),V] w (fE 71 B w g M H P r):=by have HR:=kH R;have HC:Hid _:=C;clear R C;go_enter func20,ntmps20;go_wp2_with fail;refine HR.out.mono ?_;rintro e w1 ⟨a,c,rfl,⟨N,_⟩,G⟩;have HG:Hid (Gr w w1):=G;obtain⟨b,o,rfl,_,hc⟩:=N.spot (by simp);have c0:w1.cell? ⟨b,o,none⟩=some (.int .u32 (x0:Int)):=hc 0 x0 rfl;clear hc N G;go_wp2_with fail;refine(HC.out _ HG.out).mono ?_;rintro e w2 ⟨rfl,h⟩;go_wp2_with fail;go_ret;exact⟨rfl,h⟩
theorem V9 {x0:Nat}{r:Pl×List Nat}(R:Rd w V ⟨#[115,104,111,119]⟩ [x0])(C:Cm w g B M H P 53 #[.pointer (some ⟨g,0,none⟩),.int .u32 (x0:Int)] r):Calls prog 20 #[.pointer (some ⟨g,0,none⟩),V] w (fE 71 B w g M H P r):=by have HR:=kH R;have HC:Hid _:=C;clear R C;go_enter func20,ntmps20;go_wp2_with fail;refine HR.out.mono ?_;rintro e w1 ⟨a,c,rfl,⟨N,_⟩,G⟩;have HG:Hid (Gr w w1):=G;obtain⟨b,o,rfl,_,hc⟩:=N.spot (by simp);have c0:w1.cell? ⟨b,o,none⟩=some (.int .u32 (x0:Int)):=hc 0 x0 rfl;clear hc N G;go_wp2_with fail;refine(HC.out _ HG.out).mono ?_;rintro e w2 ⟨rfl,h⟩;go_wp2_with fail;go_ret;exact⟨rfl,h⟩
theorem We {x0:Nat}{r:Pl×List Nat}(R:Rd w V ⟨#[98,97,99,107]⟩ [x0])(C:Cm w g B M H P 54 #[.pointer (some ⟨g,0,none⟩),.int .u32 (x0:Int)] r):Calls prog 20 #[.pointer (some ⟨g,0,none⟩),V] w (fE 71 B w g M H P r):=by have HR:=kH R;have HC:Hid _:=C;clear R C;go_enter func20,ntmps20;go_wp2_with fail;refine HR.out.mono ?_;rintro e w1 ⟨a,c,rfl,⟨N,_⟩,G⟩;have HG:Hid (Gr w w1):=G;obtain⟨b,o,rfl,_,hc⟩:=N.spot (by simp);have c0:w1.cell? ⟨b,o,none⟩=some (.int .u32 (x0:Int)):=hc 0 x0 rfl;clear hc N G;go_wp2_with fail;refine(HC.out _ HG.out).mono ?_;rintro e w2 ⟨rfl,h⟩;go_wp2_with fail;go_ret;exact⟨rfl,h⟩
theorem Wh {x0:Nat}{r:Pl×List Nat}(R:Rd w V ⟨#[119,104,97,116]⟩ [x0])(C:Cm w g B M H P 50 #[.int .u32 (x0:Int)] r):Calls prog 20 #[.pointer (some ⟨g,0,none⟩),V] w (fE 71 B w g M H P r):=by have HR:=kH R;have HC:Hid _:=C;clear R C;go_enter func20,ntmps20;go_wp2_with fail;refine HR.out.mono ?_;rintro e w1 ⟨a,c,rfl,⟨N,_⟩,G⟩;have HG:Hid (Gr w w1):=G;obtain⟨b,o,rfl,_,hc⟩:=N.spot (by simp);have c0:w1.cell? ⟨b,o,none⟩=some (.int .u32 (x0:Int)):=hc 0 x0 rfl;clear hc N G;go_wp2_with fail;refine(HC.out _ HG.out).mono ?_;rintro e w2 ⟨rfl,h⟩;go_wp2_with fail;go_ret;exact⟨rfl,h⟩
theorem gs1 {b:Nat}{a1:Option Addr}{n1 c1:Nat}{L1:List (List Nat)}{t:Nat}{f:Nat×Nat}(h:w.heap[b]?=some (.cells #[.slice a1 n1 c1] t f))(h1:Ts w a1 n1 L1/\(a1=none->c1=0)):Gs w b 1 [L1]:=
 ⟨rfl,(gs h).1,fun i L hi=>by
  obtain rfl:i=0:=by
   have:=(apj.1 hi).1;simp at this;omega
  simp only[apw,auj]at hi;subst hi;exact⟨_,_,_,iE h,h1.1,h1.2⟩⟩
theorem aeS {b x:Nat}(S:Gs w b 1 [[dg x]])(hx:x<9223372036854775808):Calls prog 51 #[.slice (some ⟨b,0,none⟩) 1 1] w fun e w'=>e=.returned (str (dg x))/\Gr w w':=by
 have:=jv (c:=1) S (by simp) (by omega) (by simp) (fun y hy=>by
  simp only[aqz,aqT,apz,apE]at hy;subst hy;exact nR hx)
 have e:jn [[dg x]].flatten=dg x:=by simp[jn]
 rwa[e]at this
theorem QI {x0:Nat}(hx:x0<4294967296)(R:Rd w V ⟨#[98,108,111,99,107]⟩ [x0])(X:Pr 71 B w g M H P U p)(T:Tz B w):Calls prog 20 #[.pointer (some ⟨g,0,none⟩),V] w (fE 71 B w g M H P (p,EI p [x0])):=by
 have e:EI p [x0]=dg (Bk.blk p.m x0 16 0).length:=rfl;rw[e];have HB:Hid (∀e w',Gr w w'->e=.returned (str (dg (Bk.blk p.m x0 16 0).length))->fE 71 B w g M H P (p,dg (Bk.blk p.m x0 16 0).length) e w'):=fun e w' G he=>⟨he,_,_,_,_,X.gr G,Fx.bD G⟩
 obtain⟨ma,mc,ha,hc0,pa,pc',ua,un,uc,rfl,rfl,rfl,rfl,Mm1,_⟩:=X.open;have z0:=iE X.blk;have m4:=X.ok.m4;have h16:(Bk.blk p.m x0 16 0).length<=16:=(Ts.fM p.m x0 16 0).1;have HM:Hid (∀W:World,Gr w W->Calls prog 15 #[.slice ma p.m.length mc,.int .u32 (x0:Int)] W fun e w'=>∃va vc,e=.returned (.agg #[.int .u32 (x0:Int),.slice va (Bk.blk p.m x0 16 0).length vc])/\Gr W w'):=fun W G=>by
  have:=Bk.BI mc (x0:Int) (Mm1.of G) (T.gr G).PX.tb (by omega) (by omega) (by omega);have e1:Bk.bkP p.m.length (x0:Int)=x0:=ak;have e2:Bk.bkX p.m.length p.m (x0:Int)=Bk.blk p.m x0 16 0:=ak;rw[e1,e2]at this;refine this.mono ?_;rintro e w' ⟨v,rfl,OW,G'⟩;obtain⟨va,vc,rfl⟩:=Bk.qZ OW;exact⟨va,vc,rfl,G'⟩
 have HT:Hid (∀(W:World) (b:Nat) (t:Nat) (f:Nat×Nat),Gr w W->W.heap[b]?=some (.cells #[.int .i64 ((Bk.blk p.m x0 16 0).length:Int)] t f)->Calls prog 52 #[.slice (some ⟨b,0,none⟩) 1 1] W fun e w'=>∃a k,e=.returned (.slice a 1 k)/\(Ts w' a 1 [dg (Bk.blk p.m x0 16 0).length]/\(a=none->k=0))/\Gr W w'):=fun W b t f G h=>Hm (c:=1) (rq h) (fun y hy=>by rw[apE.1 hy];omega) (by omega) (T.gr G).PX
 have HJ:Hid (∀(W:World) (b:Nat) (t:Nat) (f:Nat×Nat) (a:Option Addr) (k:Nat),(Ts W a 1 [dg (Bk.blk p.m x0 16 0).length]/\(a=none->k=0))->W.heap[b]?=some (.cells #[.slice a 1 k] t f)->Calls prog 51 #[.slice (some ⟨b,0,none⟩) 1 1] W fun e w'=>e=.returned (str (dg (Bk.blk p.m x0 16 0).length))/\Gr W w'):=fun W b t f a k h1 h=>aeS (gs1 h h1) (by omega)
 have hgl:=(gs X.blk).1;have HR:Hid _:=R;clear R X T Mm1 m4 h16 e;generalize str (dg (Bk.blk p.m x0 16 0).length)=V0 at *
 generalize dg (Bk.blk p.m x0 16 0).length=D0 at *
 generalize(Bk.blk p.m x0 16 0).length=N0 at *
 go_enter func20,ntmps20;go_wp2_with fail;refine HR.out.mono ?_;rintro e wr ⟨a,c,rfl,⟨N,_⟩,G⟩;have HG:Hid (Gr w wr):=G;obtain⟨b,o,rfl,_,hc⟩:=N.spot (by simp);have c0:wr.cell? ⟨b,o,none⟩=some (.int .u32 (x0:Int)):=hc 0 x0 rfl;have d0:=(G.cell _ (by exact hgl)).trans z0;clear hc N G HR z0 hgl;go_wp2_with fail;refine aut (S:=fun W=>Gr wr W) (by kernel_rfl) (Gr.refl wr).drew (fun hHeld=>?_);refine aT (fun W=>Gr wr W) hHeld ?_;clear hHeld;rintro w5 G5;have rO:Hid (Gr wr w5):=G5;clear G5;refine tK 0 (.pointer (some ⟨g,0,none⟩)) rO.out ?_;refine tK 1 (.pointer (some ⟨g,0,none⟩)) rO.out ?_;refine tK 2 (.pointer (some ⟨g,0,none⟩)) rO.out ?_;refine tK 3 (.pointer (some ⟨g,0,none⟩)) rO.out ?_;refine auF (i:=4) (v:=.slice ma p.m.length mc) rfl (by kernel_rfl) (by kernel_rfl) (by kernel_rfl) (fun _ _ _ h=>h) (Or.inl ⟨by rfl,fun W hW=>by have q0:=(hW.cell _ (by exact aug _ _ (by rw[d0]))).trans d0;go_simp⟩) rO.out ?_;simp only[apN,apP,apQ,Act.put,apl,apC,apy];refine tK 5 (.slice (some ⟨b,o,none⟩) 1 c) rO.out ?_;refine tK 6 (.pointer (some ⟨b,o,none⟩)) rO.out ?_;refine auF (i:=7) (v:=.int .u32 (x0:Int)) rfl (by kernel_rfl) (by kernel_rfl) (by kernel_rfl) (fun _ _ _ h=>h) (Or.inl ⟨by rfl,fun W hW=>by have q1:=(hW.cell _ (by exact aug _ _ (by rw[c0]))).trans c0;go_simp⟩) rO.out ?_;simp only[apN,apP,apQ,Act.put,apl,apC,apy];refine aue (rs:=[8]) (by kernel_rfl) (by simp) ?_;refine aua rfl (fun K hK=>?_) aud;go_simp;refine(HM.out w5 (HG.out.trans rO.out)).mono ?_;rintro e w11 ⟨va,vc,rfl,G⟩;have aez:Hid (Gr w5 w11):=G;have kv:Hid (Gr wr w11):=rO.out.trans G;clear G;refine hK.out _ _ kv.out (fun hx=>?_);clear hK K hx;refine auF (i:=9) (v:=.slice va N0 vc) rfl (by kernel_rfl) (by kernel_rfl) (by kernel_rfl) (fun _ _ _ h=>h) (Or.inl ⟨by rfl,fun W hW=>by rfl⟩) kv.out ?_;simp only[apN,apP,apQ,Act.put,apl,apC,apy];refine tK 10 (.int .i64 (N0:Int)) kv.out ?_;refine aue (rs:=[11]) (by kernel_rfl) (by simp) ?_;refine aua rfl (fun K hK=>?_) aud;go_simp;refine hK.out _ _ (kv.out.alloc _) (fun hx=>?_);clear hK K hx;refine aT (fun W=>W.heap[w11.heap.size]?=some (.cells #[.int .i64 (N0:Int)] 3 (0,0))/\Gr w11 W) ⟨at5 w11 _,(Gr.refl _).alloc _⟩ ?_;rintro w14 ⟨hb,G⟩;have aiT:Hid (w14.heap[w11.heap.size]?=some (.cells #[.int .i64 (N0:Int)] 3 (0,0))):=hb;have anp:Hid (Gr w11 w14):=G;have aeT:Hid (Gr wr w14):=kv.out.trans G;clear hb G;refine aue (rs:=[12]) (by kernel_rfl) (by simp) ?_;refine aua rfl (fun K hK=>?_) aud;go_simp;refine(HT.out w14 _ _ _ (HG.out.trans aeT.out) (cu (Gr.refl _) aiT.out)).mono ?_;rintro e XA ⟨va1,vk1,rfl,hf,G⟩;have HC:Hid (Ts XA va1 1 [D0]/\(va1=none->vk1=0)):=hf;have anq:Hid (Gr w14 XA):=G;have abC:Hid (Gr wr XA):=aeT.out.trans G;clear G hf;refine hK.out _ _ abC.out (fun hx=>?_);clear hK K hx;refine aue (rs:=[13]) (by kernel_rfl) (by simp) ?_;refine aua rfl (fun K hK=>?_) aud;go_simp;refine hK.out _ _ (abC.out.alloc _) (fun hx=>?_);clear hK K hx;refine aT (fun W=>W.heap[XA.heap.size]?=some (.cells #[.slice va1 1 vk1] 22 (0,0))/\Gr XA W) ⟨at5 XA _,(Gr.refl _).alloc _⟩ ?_;rintro w21 ⟨hb,G⟩;have aiV:Hid (w21.heap[XA.heap.size]?=some (.cells #[.slice va1 1 vk1] 22 (0,0))):=hb;have VH:Hid (Gr XA w21):=G;have PW:Hid (Gr wr w21):=abC.out.trans G;clear hb G;refine aue (rs:=[14]) (by kernel_rfl) (by simp) ?_;refine aua rfl (fun K hK=>?_) aud;go_simp;refine(HJ.out w21 _ _ _ _ _ (fP HC.out VH.out) (cu (Gr.refl _) aiV.out)).mono ?_;rintro e w25 ⟨rfl,G⟩;have anr:Hid (Gr w21 w25):=G;have abD:Hid (Gr wr w25):=PW.out.trans G;clear G;refine hK.out _ _ abD.out (fun hx=>?_);clear hK K hx;refine tK 15 V0 abD.out ?_;refine auy (by kernel_rfl) ?_ _;go_wp2_with fail;go_ret;exact HB.out _ _ (HG.out.trans abD.out) rfl
theorem QJ {l:List Nat}(hl:∀x∈l,x<4294967296)(R:Rd w V ⟨#[119,111,114,100,115]⟩ l)(X:Pr 71 B w g M H P U p)(T:Tz B w):Calls prog 20 #[.pointer (some ⟨g,0,none⟩),V] w (fE 71 B w g M H P (iL p l)):=by
 have HC:Hid (∀(W:World) (a:Option Addr) (c:Nat),Gr w W->(Ns .u32 W a l.length l/\∀b o,a=some ⟨b,o,none⟩->w.heap.size<=b)->Calls prog 43 #[.pointer (some ⟨g,0,none⟩),.slice a l.length c] W (fE 71 B w g M H P (iL p l))):=fun W a c G ⟨N,hN⟩=>by
  have h:Calls prog 43 #[.pointer (some ⟨g,0,none⟩),.slice a l.length c] W (fE 71 B W g M H P (iL p l)):=by
   by_cases h4:p.m.length+4*l.length<=4096
   ·exact J9 (X.gr G) N hl (fun b o e hd=>by
     have h1:=hN b o e;have h2:=(X.dom b hd).2;omega) (fun h=>((T.gr G).below h).PX) h4
   ·exact PS (X.gr G) (by omega)
  exact h.mono fun e w' q=>fE.pre (D:=(_,_,_)) (Fx.bD G) q
 have HR:=kH R;generalize iL p l=RES at *
 go_enter func20,ntmps20;go_wp2_with fail;refine HR.out.mono ?_;rintro e wr ⟨a,c,rfl,hN,G⟩;have HG:=kH G;have HN:=kH hN;go_wp2_with fail;refine(HC.out _ _ _ HG.out HN.out).mono ?_;rintro e w2 ⟨rfl,h⟩;go_wp2_with fail;go_ret;exact⟨rfl,h⟩
theorem Wj (R:Calls prog 42 #[V] w fun e w'=>e=.returned (.tuple #[.string ⟨#[]⟩,.slice none 0 0,.bool false])/\Gr w w')(X:Pr 71 B w g M H P U p):Calls prog 20 #[.pointer (some ⟨g,0,none⟩),V] w (fE 71 B w g M H P (p,aQ)):=by
 have HB:Hid (∀e w',Gr w w'->e=.returned (str aQ)->fE 71 B w g M H P (p,aQ) e w'):=fun e w' G he=>⟨he,_,_,_,_,X.gr G,Fx.bD G⟩
 have HR:=kH R;go_enter func20,ntmps20;go_wp2_with fail;refine HR.out.mono ?_;rintro e wr ⟨rfl,G⟩;have HG:=kH G;go_wp2_with fail;go_ret;exact HB.out _ _ HG.out rfl
def Cy:List (List Nat×Nat):=[(OG,1),(aaj,3),(OH,2),(aak,0),(OI,1),(aal,1),(OJ,1),(EH,1),(OM,1),(OO,1)]
def abE:List (List UInt8×Int):=Cy.map fun q=>(q.1.map UInt8.ofNat,(q.2:Int))
theorem abF {s:ByteArray}{l:List Nat}(R:Rd w V s l)(X:Pr 71 B w g M H P U p)(hw:¬s.toList=[119,111,114,100,115])(hb:∀q k,(q,k)∈abE->s.toList=q->(l.length:Int)=k->False):Calls prog 20 #[.pointer (some ⟨g,0,none⟩),V] w (fE 71 B w g M H P (p,aQ)):=by
 have HB:Hid (∀e w',Gr w w'->e=.returned (str aQ)->fE 71 B w g M H P (p,aQ) e w'):=fun e w' G he=>⟨he,_,_,_,_,X.gr G,Fx.bD G⟩
 have HR:=kH R;have hw':(s.toList ==[119,111,114,100,115])=false:=by simpa using hw
 have HD:=kH hb;go_enter func20,ntmps20;go_wp2_with fail;refine HR.out.mono ?_;rintro e wr ⟨a,c,rfl,⟨N,_⟩,G⟩;have HG:=kH G;generalize l.length=n at *
 go_wp2_with fail
 all_goals first
  |(go_ret;exact HB.out _ _ HG.out rfl)
  |(refine(HD.out _ 1 ?_ (by assumption) (by omega)).elim;decide)
  |(refine(HD.out _ 3 ?_ (by assumption) (by omega)).elim;decide)
  |(refine(HD.out _ 2 ?_ (by assumption) (by omega)).elim;decide)
  |(refine(HD.out _ 0 ?_ (by assumption) (by omega)).elim;decide)
theorem KC {wd:List Nat}(hd:∀d∈wd,d<256)(h:wd≠uU):¬(bs wd).toList=[119,111,114,100,115]:=fun e=>h (CY hd (by decide) (nU (by rw[<-aqs,e];rfl)))
theorem Wl {wd:List Nat}{l:List Nat}(hd:∀d∈wd,d<256)(h:∀q k,(q,k)∈Cy->wd=q->l.length=k->False):∀q k,(q,k)∈abE->(bs wd).toList=q->(l.length:Int)=k->False:=by
 intro q k hm e1 e2;unfold abE at hm;rw[apK]at hm;obtain⟨⟨a,n⟩,h1,h2⟩:=hm;simp only[auX]at h2;obtain⟨rfl,rfl⟩:=h2;have ha:∀d∈a,d<256:=by
  have:∀q∈Cy,∀d∈q.1,d<256:=by decide
  exact this _ h1
 refine h a n h1 (CY hd ha (nU ?_)) (by omega);rw[<-aqs,e1,bU]
theorem xV {wd:List Nat}{l:List Nat}{k:Nat}(R:Rd w V (bs wd) l)(X:Pr 71 B w g M H P U p)(hd:∀d∈wd,d<256)(hw:wd≠uU)(h:∀q k,(q,k)∈Cy->wd=q->l.length=k->False):Calls prog 20 #[.pointer (some ⟨g,0,none⟩),V] w (fE 71 B w g M H P (p,aQ)):=abF R X (KC hd hw) (Wl hd h)
theorem cnt {wd:List Nat}{l:List Nat}(n:Nat)(hn:∀x∈Cy,wd=x.1->x.2=n)(hl:l.length≠n):∀q k,(q,k)∈Cy->wd=q->l.length=k->False:=fun q k h1 h2 h3=>hl (h3.trans (hn (q,k) h1 h2))
theorem Wn {wd l:List Nat}(R:Rd w V (bs wd) l)(hd:∀d∈wd,d<256)(hl:∀x∈l,x<4294967296)(X:Pr 71 B w g M H P U p)(T:Tz B w):Calls prog 20 #[.pointer (some ⟨g,0,none⟩),V] w (fE 71 B w g M H P (OP p wd l)):=by
 have TT:∀{W:World},Gr w W->∀{W2:World},Below B W W2->gz W2:=fun G _ h=>((T.gr G).below h).PX
 have bad:∀n,(∀x∈Cy,wd=x.1->x.2=n)->l.length≠n->wd≠uU->Calls prog 20 #[.pointer (some ⟨g,0,none⟩),V] w (fE 71 B w g M H P (p,aQ)):=fun n h1 h2 h3=>xV (k:=n) R X hd h3 (cnt n h1 h2)
 unfold OP;by_cases h:wd=uU
 ·subst h;rw[at7 rfl];exact QJ hl R X T
 rw[at6 h];by_cases h0:wd=OG
 ·subst h0;rw[at7 rfl]
  match l,R,hl,bad with
  | [x],R,hl,bad=>exact V6 R (Cm.mk fun W G=>PN (hl _ (by simp)) (X.gr G) (TT G))
  | [],R,hl,bad=>exact bad 1 (by decide) (by simp) h
  |_::_::_,R,hl,bad=>exact bad 1 (by decide) (by simp) h
 rw[at6 h0];by_cases h1:wd=aaj
 ·subst h1;rw[at7 rfl]
  match l,R,hl,bad with
  | [x,y,z],R,hl,bad=>exact(by
    by_cases hk:x<p.hs.length/\1<=y/\y<=31
    ·exact QH R (Cm.mk fun W G=>Vy (hl _ (by simp)) (X.gr G) hk.1 hk.2.1 hk.2.2)
    ·exact QH R (Cm.mk fun W G=>aa3 (X.gr G) hk))
  | [],R,hl,bad=>exact bad 3 (by decide) (by simp) h
  | [_],R,hl,bad=>exact bad 3 (by decide) (by simp) h
  | [_,_],R,hl,bad=>exact bad 3 (by decide) (by simp) h
  |_::_::_::_::_,R,hl,bad=>exact bad 3 (by decide) (by simp) h
 rw[at6 h1];by_cases h2:wd=OH
 ·subst h2;rw[at7 rfl]
  match l,R,hl,bad with
  | [x,y],R,hl,bad=>exact V7 R (Cm.mk fun W G=>PQ (hl _ (by simp)) (hl _ (by simp)) (X.gr G) (TT G))
  | [],R,hl,bad=>exact bad 2 (by decide) (by simp) h
  | [_],R,hl,bad=>exact bad 2 (by decide) (by simp) h
  |_::_::_::_,R,hl,bad=>exact bad 2 (by decide) (by simp) h
 rw[at6 h2];by_cases h3:wd=aak
 ·subst h3;rw[at7 rfl]
  match l,R,hl,bad with
  | [],R,hl,bad=>exact abz R (Cm.mk fun W G=>zb (X.gr G) (T.gr G))
  |_::_,R,hl,bad=>exact bad 0 (by decide) (by simp) h
 rw[at6 h3];by_cases h4:wd=OI
 ·subst h4;rw[at7 rfl]
  match l,R,hl,bad with
  | [x],R,hl,bad=>exact V8 R (Cm.mk fun W G=>Qf (hl _ (by simp)) (X.gr G) (T.gr G))
  | [],R,hl,bad=>exact bad 1 (by decide) (by simp) h
  |_::_::_,R,hl,bad=>exact bad 1 (by decide) (by simp) h
 rw[at6 h4];by_cases h5:wd=aal
 ·subst h5;rw[at7 rfl]
  match l,R,hl,bad with
  | [x],R,hl,bad=>exact abA R (Cm.mk fun W G=>Kb (X.gr G) (TT G))
  | [],R,hl,bad=>exact bad 1 (by decide) (by simp) h
  |_::_::_,R,hl,bad=>exact bad 1 (by decide) (by simp) h
 rw[at6 h5];by_cases h6:wd=OJ
 ·subst h6;rw[at7 rfl]
  match l,R,hl,bad with
  | [x],R,hl,bad=>exact Wh R (Cm.mk fun W G=>(Qj (hl _ (by simp)) fun G2=>(T.gr (G.trans G2)).PX).mono fun e w' ⟨he,G2⟩=>⟨he,_,_,_,_,(X.gr G).gr G2,Fx.bD G2⟩)
  | [],R,hl,bad=>exact bad 1 (by decide) (by simp) h
  |_::_::_,R,hl,bad=>exact bad 1 (by decide) (by simp) h
 rw[at6 h6];by_cases h7:wd=OM
 ·subst h7;rw[at7 rfl]
  match l,R,hl,bad with
  | [x],R,hl,bad=>exact V9 R (Cm.mk fun W G=>QG (hl _ (by simp)) (X.gr G) (T.gr G))
  | [],R,hl,bad=>exact bad 1 (by decide) (by simp) h
  |_::_::_,R,hl,bad=>exact bad 1 (by decide) (by simp) h
 rw[at6 h7];by_cases h8:wd=OO
 ·subst h8;rw[at7 rfl]
  match l,R,hl,bad with
  | [x],R,hl,bad=>exact We R (Cm.mk fun W G=>Qg (hl _ (by simp)) (X.gr G))
  | [],R,hl,bad=>exact bad 1 (by decide) (by simp) h
  |_::_::_,R,hl,bad=>exact bad 1 (by decide) (by simp) h
 rw[at6 h8];by_cases h9:wd=EH
 ·subst h9;rw[at7 rfl]
  match l,R,hl,bad with
  | [x],R,hl,bad=>exact QI (hl _ (by simp)) R X T
  | [],R,hl,bad=>exact bad 1 (by decide) (by simp) h
  |_::_::_,R,hl,bad=>exact bad 1 (by decide) (by simp) h
 rw[at6 h9];refine xV (k:=0) R X hd h fun q k hm e _=>?_
 subst e;simp only[Cy,apx,auX,apB,auw]at hm;rcases hm with hm|hm|hm|hm|hm|hm|hm|hm|hm|hm
 ·exact h0 hm.1
 ·exact h1 hm.1
 ·exact h2 hm.1
 ·exact h3 hm.1
 ·exact h4 hm.1
 ·exact h5 hm.1
 ·exact h6 hm.1
 ·exact h9 hm.1
 ·exact h7 hm.1
 ·exact h8 hm.1
theorem EX {L:List Nat}(hl:∀d∈L,d<256)(hs:L.length<=4000000)(X:Pr 71 B w g M H P U p)(T:Tz B w):Calls prog 20 #[.pointer (some ⟨g,0,none⟩),str L] w (fE 71 B w g M H P (nQ p L)):=by
 have R:=ug hl hs T.ers;unfold nQ;cases hn:gu (splitN 32 L).tail with
 |none=>
  refine Wj (R.mono fun e w' ⟨q,G⟩=>?_) X;unfold RdA at q;rw[hn]at q;exact⟨q,G⟩
 |some l=>
  have hd:∀d∈(splitN 32 L).headD [],d<256:=by
   obtain⟨s1,s2,_⟩:=mG (c:=32) (by omega) hl;rw[<-s1];exact s2
  refine Wn (R.mono fun e w' ⟨q,G⟩=>?_) hd (zx hn) X T;unfold RdA at q;rw[hn]at q;obtain⟨a,c,h1,h2⟩:=q;exact⟨a,c,h1,h2,G⟩
end Vp
end Go.Proofs.YtiadhbmnfjfioaaGreatDoor
