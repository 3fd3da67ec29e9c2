/- ours -/
import Derived.Test.YtiadhbmnfjfioaaGreatDoorX01
set_option linter.unusedVariables false
set_option linter.unusedSimpArgs false
set_option maxHeartbeats 8000000
set_option maxRecDepth 100000
set_option linter.unusedSectionVars false
namespace Go.Proofs.YtiadhbmnfjfioaaGreatDoor
open Go.Proofs.Tryz hiding d0 d1
open Go.ChangeShapes Go.WideShapes Go.ChangeAt Go.RowKit
namespace Dw

variable {a b :Int}
theorem au {k:IntKind}(h:a=b):Ending.returned (.int k a)=.returned (.int k b):=by rw[h]
theorem aM {a b:Bool}(h:a=b):Ending.returned (.bool a)=.returned (.bool b):=by rw[h]
theorem wrap_u32' (n:Int):IntKind.u32.wrap n=n%4294967296:=by rfl
theorem ofInt32 (a:Nat)(ha:(a:Int)<4294967296):(BitVec.ofInt 32 (a:Int)).toNat=a:=by rw[BitVec.ofInt_natCast,BitVec.toNat_ofNat];exact Nat.mod_eq_of_lt (by omega)
theorem eX (a b:Int)(ha:0<=a)(ha':a<4294967296)(hb:0<=b)(hb':b<4294967296):bits .and .u32 a b=Wd.iw a b:=by
 obtain⟨a,rfl⟩:=apt ha;obtain⟨b,rfl⟩:=apt hb;have hx:a &&& b<2^32:=ari _ (by omega);show IntKind.u32.wrap ((BitVec.ofInt 32 (a:Int) &&& BitVec.ofInt 32 (b:Int)).toNat:Int)=_
 rw[avk,ofInt32 a ha',ofInt32 b hb',wrap_u32'];simp only[Wd.iw,apG];omega
theorem cO (a b:Int)(ha:0<=a)(ha':a<4294967296)(hb:0<=b)(hb':b<4294967296):bits .or .u32 a b=Wd.rW a b:=by
 obtain⟨a,rfl⟩:=apt ha;obtain⟨b,rfl⟩:=apt hb;have hx:a |||b<2^32:=arn (by omega) (by omega)
 show IntKind.u32.wrap ((BitVec.ofInt 32 (a:Int) |||BitVec.ofInt 32 (b:Int)).toNat:Int)=_
 rw[BitVec.toNat_or,ofInt32 a ha',ofInt32 b hb',wrap_u32'];simp only[Wd.rW,apG];omega
theorem aG (a b c:Int)(w:World):Calls prog 61 #[.int .i64 a,.int .i64 b,.int .i64 c] w fun e w'=>e=.returned (.bool (decide (b<=a) && decide (a<=c)))/\w'=w:=by
 by_cases h:b<=a
 all_goals
  go_enter func61,ntmps61;go_wp2;go_ret;exact⟨aM (by simp[h];try omega),rfl⟩
theorem MF (x:Int)(n:Nat)(h0:0<=x)(h1:x<4294967296)(hn:n<=31):bits .and .u32 x ((2^n-1)%4294967296)=x%2^n:=by
 have hp:(2:Int) ^ n=((2^n:Nat):Int):=by simp
 have hb:(2:Nat) ^ n<=2^31:=aqE (by omega) hn;have hb0:0<(2:Nat) ^ n:=aq4 _;obtain⟨x,rfl⟩:=apt h0;have e:((2:Int) ^ n-1)%4294967296=((2^n-1:Nat):Int):=by rw[hp];omega
 rw[e,eX _ _ h0 h1 (by omega) (by omega)];unfold Wd.iw;rw[apG,apG,aqL,hp];omega
theorem Dp (x y:Int)(i:Nat)(hx:0<=x)(hy:0<=y)(h:x<2^i):Wd.rW x (y*2^i)=x+y*2^i:=by
 obtain⟨x,rfl⟩:=apt hx;obtain⟨y,rfl⟩:=apt hy;have e:(y:Int)*2^i=((y*2^i:Nat):Int):=by simp
 have h':x<2^i:=by
  have:((2:Int) ^ i)=((2^i:Nat):Int):=by simp
  rw[this]at h;omega
 rw[e];unfold Wd.rW;rw[apG,apG,arB,Dc.jA _ _ _ h'];omega
theorem MG (x y:Int):Wd.rW x y=Wd.rW y x:=by unfold Wd.rW;rw[arB]
theorem YG (x y:Int)(i:Nat)(hx:0<=x)(hy:0<=y)(h:x<2^i):Wd.rW (y*2^i) x=y*2^i+x:=by rw[MG,Dp x y i hx hy h];omega
theorem IG (a at' n:Int)(w:World)(ha:0<=a)(ha':a<4294967296)(h1:0<=at')(h2:at'<=31)(h3:0<=n)(h4:n<=31):Calls prog 63 #[.int .u32 a,.int .i64 at',.int .i64 n] w fun e w'=>e=.returned (.int .u32 (a/2^at'.toNat%2^n.toNat))/\∃m,w'=w.drewN m:=by
 go_enter func63,ntmps63;go_wp2;refine auB (by kernel_rfl) (by kernel_rfl) ?_;iterate 8 go_big_quiet_step (fail)
 refine auO ?_;intro _ h;obtain⟨nq,h2⟩:=h;subst h2;go_wp2;go_ret;refine⟨au (MF _ _ (ary ha (Int.pow_nonneg (by omega))) ?_ (by omega)),_,rfl⟩;exact Int.lt_of_le_of_lt (Int.ediv_le_self _ ha) ha'
theorem lM (a at' n r:Int)(w:World)(ha:0<=a)(ha':a<4294967296)(h1:0<=at')(h2:at'<=31)(h3:0<=n)(h4:n<=31)(hr:a/2^at'.toNat%2^n.toNat=r):Calls prog 63 #[.int .u32 a,.int .i64 at',.int .i64 n] w fun e w'=>e=.returned (.int .u32 r)/\∃m,w'=w.drewN m:=hr ▸ IG a at' n w ha ha' h1 h2 h3 h4
theorem Sz (low m u:Int)(h1:0<=low)(h2:low<4096)(h3:0<=m)(h4:m<8)(h5:0<=u)(h6:u<128):bits .or .u32 (bits .or .u32 low (m*4096)) (u*33554432)=low+m*4096+u*33554432:=by rw[show m*4096=m*2^12 by omega,show u*33554432=u*2^25 by omega];rw[cO low _ h1 (by omega) (by omega) (by omega),Dp low m 12 h1 h3 (by omega)];rw[cO _ _ (by omega) (by omega) (by omega) (by omega),Dp _ u 25 (by omega) h5 (by omega)]
theorem gW (op first low:Int)(b:Nat)(ms:List Int)(w:World)(T:nK w)(hm:∀i n,ms[i]?=some n→w.cell? ⟨b,i,none⟩=some (.int .u32 n))(hms:∀n∈ms,0≤n∧n<8)(h1:first<=op)(h2:op-first<ms.length)(h3:0<=op)(h4:op<60)(h5:0<=low)(h6:low<128)(h7 : -1<=first)(h8:ms.length<=20):Calls prog 60 #[.int .i64 op,.int .i64 first,.int .u32 low,.slice (some ⟨b,0,none⟩) ms.length ms.length] w fun e w'=>e=.returned (.int .u32 (Dc.rowOf op first low ms))/\Gr w w':=by
 obtain⟨m,hm1⟩:∃m,ms[(op-first).toNat]?=some m:=⟨_,api (by omega)⟩;have hl:Dc.uppers.length=60:=by decide
 obtain⟨u,hu1⟩:∃u,Dc.uppers[op.toNat]?=some u:=⟨_,api (by omega)⟩;have hmb:=hms m (aps hm1);have hub:0<=u/\u<128:=by
  have:∀u∈Dc.uppers,0<=u/\u<128:=by decide
  exact this u (aps hu1)
 have c1:=hm _ _ hm1;have c2:=T.uppers _ _ hu1;have E:Hid (Dc.rowOf op first low ms=low+m*4096+u*33554432):=by
  show _=_
  unfold Dc.rowOf Dc.nth;rw[List.getD,hm1,List.getD,hu1];rfl
 go_enter func60,ntmps60;go_wp2;refine auB (by kernel_rfl) (by kernel_rfl) ?_;iterate 15 go_big_quiet_step (fail)
 refine auO ?_;intro _ h;obtain⟨nq,h2⟩:=h;subst h2;go_wp2;go_ret;rw[E.out];exact⟨au (Sz low m u h5 (by omega) hmb.1 hmb.2 hub.1 hub.2),(Gr.refl w).drewN _⟩
theorem aF (a b c:Int)(w:World)(h:b<=a/\a<=c):Calls prog 61 #[.int .i64 a,.int .i64 b,.int .i64 c] w fun e w'=>e=.returned (.bool true)/\w'=w:=by refine(aG a b c w).mono ?_;rintro e w' ⟨rfl,rfl⟩;exact⟨aM (by simp[h]),rfl⟩
theorem ai (a b c:Int)(w:World)(h:¬(b<=a/\a<=c)):Calls prog 61 #[.int .i64 a,.int .i64 b,.int .i64 c] w fun e w'=>e=.returned (.bool false)/\w'=w:=by refine(aG a b c w).mono ?_;rintro e w' ⟨rfl,rfl⟩;exact⟨aM (by rw[<-Bool.decide_and];simpa using h),rfl⟩
theorem dQ (w:World)(ms:List Int)(t:TypeId):∀i n,ms[i]?=some n->(w.alloc (.cells (ms.map (Value.int .u32)).toArray t)).cell? ⟨w.heap.size,i,none⟩=some (.int .u32 n):=by intro i n h;rw[World.cell?_alloc_new];simp[h]
def Told (op:Int):Prop:=∀w:World,nK w->Calls prog 27 #[.int .i64 op] w fun e w'=>e=.returned (.tuple #[.int .i64 (Dc.aJ op),.int .u32 (Dc.bK op)])/\Gr w w'
theorem gX {c d:Int}(h:a=c)(h':b=d):Ending.returned (.tuple #[.int .i64 a,.int .u32 b])=.returned (.tuple #[.int .i64 c,.int .u32 d]):=by rw[h,h']
theorem YH (op:Int)(h1:4<=op)(h2:op<=4):Told op:=by
 intro w T;have F:Hid (Dc.aJ op=3):=by
  show _=_
  unfold Dc.aJ;repeat (first|rw[dU]|rw[ak])
 have B:Hid (Dc.bK op=Dc.rowOf op 4 103 [0]):=by
  show _=_
  unfold Dc.bK;repeat (first|rw[dU]|rw[ak])
 have e1:(op ==1)=false:=by simp;omega
 have e2:(op ==2)=false:=by simp;omega
 have e3:(op ==3)=false:=by simp;omega
 have e4:(op ==4)=true:=by simp;omega
 have e57:(op ==57)=false:=by simp;omega
 have e58:(op ==58)=false:=by simp;omega
 have e59:(op ==59)=false:=by simp;omega
 go_enter func27,ntmps27;go_wp2_with (go_at_call 60;refine(gW _ _ _ _ [0] _ (T.of ((Gr.refl _).alloc _ _)) (dQ _ [0] _) (by decide) (by omega) (by simp<;>omega) (by omega) (by omega) (by omega) (by omega) (by omega) (by decide)).mono ?_;rintro e w' ⟨rfl,g⟩);go_ret2;exact⟨gX F.out.symm B.out.symm,((Gr.refl _).alloc _ _).trans g⟩
theorem YI (op:Int)(h1:5<=op)(h2:op<=10):Told op:=by
 intro w T;have F:Hid (Dc.aJ op=5):=by
  show _=_
  unfold Dc.aJ;repeat (first|rw[dU]|rw[ak])
 have B:Hid (Dc.bK op=Dc.rowOf op 5 99 [0,1,4,5,6,7]):=by
  show _=_
  unfold Dc.bK;repeat (first|rw[dU]|rw[ak])
 have e1:(op ==1)=false:=by simp;omega
 have e2:(op ==2)=false:=by simp;omega
 have e3:(op ==3)=false:=by simp;omega
 have e4:(op ==4)=false:=by simp;omega
 have e57:(op ==57)=false:=by simp;omega
 have e58:(op ==58)=false:=by simp;omega
 have e59:(op ==59)=false:=by simp;omega
 go_enter func27,ntmps27;go_wp2_with (first|(go_at_call 61;first|(refine(aF _ _ _ _ (by omega)).mono ?_;rintro e w' ⟨rfl,rfl⟩)|(refine(ai _ _ _ _ (by omega)).mono ?_;rintro e w' ⟨rfl,rfl⟩))|(go_at_call 60;refine(gW _ _ _ _ [0,1,4,5,6,7] _ (T.of ((Gr.refl _).alloc _ _)) (dQ _ [0,1,4,5,6,7] _) (by decide) (by omega) (by simp<;>omega) (by omega) (by omega) (by omega) (by omega) (by omega) (by decide)).mono ?_;rintro e w' ⟨rfl,g⟩));go_ret2;exact⟨gX F.out.symm B.out.symm,((Gr.refl _).alloc _ _).trans g⟩
theorem SA (op:Int)(h1:11<=op)(h2:op<=15):Told op:=by
 intro w T;have F:Hid (Dc.aJ op=3):=by
  show _=_
  unfold Dc.aJ;repeat (first|rw[dU]|rw[ak])
 have B:Hid (Dc.bK op=Dc.rowOf op 11 3 [0,1,2,4,5]):=by
  show _=_
  unfold Dc.bK;repeat (first|rw[dU]|rw[ak])
 have e1:(op ==1)=false:=by simp;omega
 have e2:(op ==2)=false:=by simp;omega
 have e3:(op ==3)=false:=by simp;omega
 have e4:(op ==4)=false:=by simp;omega
 have e57:(op ==57)=false:=by simp;omega
 have e58:(op ==58)=false:=by simp;omega
 have e59:(op ==59)=false:=by simp;omega
 go_enter func27,ntmps27;go_wp2_with (first|(go_at_call 61;first|(refine(aF _ _ _ _ (by omega)).mono ?_;rintro e w' ⟨rfl,rfl⟩)|(refine(ai _ _ _ _ (by omega)).mono ?_;rintro e w' ⟨rfl,rfl⟩))|(go_at_call 60;refine(gW _ _ _ _ [0,1,2,4,5] _ (T.of ((Gr.refl _).alloc _ _)) (dQ _ [0,1,2,4,5] _) (by decide) (by omega) (by simp<;>omega) (by omega) (by omega) (by omega) (by omega) (by omega) (by decide)).mono ?_;rintro e w' ⟨rfl,g⟩));go_ret2;exact⟨gX F.out.symm B.out.symm,((Gr.refl _).alloc _ _).trans g⟩
theorem SB (op:Int)(h1:16<=op)(h2:op<=18):Told op:=by
 intro w T;have F:Hid (Dc.aJ op=6):=by
  show _=_
  unfold Dc.aJ;repeat (first|rw[dU]|rw[ak])
 have B:Hid (Dc.bK op=Dc.rowOf op 16 35 [0,1,2]):=by
  show _=_
  unfold Dc.bK;repeat (first|rw[dU]|rw[ak])
 have e1:(op ==1)=false:=by simp;omega
 have e2:(op ==2)=false:=by simp;omega
 have e3:(op ==3)=false:=by simp;omega
 have e4:(op ==4)=false:=by simp;omega
 have e57:(op ==57)=false:=by simp;omega
 have e58:(op ==58)=false:=by simp;omega
 have e59:(op ==59)=false:=by simp;omega
 go_enter func27,ntmps27;go_wp2_with (first|(go_at_call 61;first|(refine(aF _ _ _ _ (by omega)).mono ?_;rintro e w' ⟨rfl,rfl⟩)|(refine(ai _ _ _ _ (by omega)).mono ?_;rintro e w' ⟨rfl,rfl⟩))|(go_at_call 60;refine(gW _ _ _ _ [0,1,2] _ (T.of ((Gr.refl _).alloc _ _)) (dQ _ [0,1,2] _) (by decide) (by omega) (by simp<;>omega) (by omega) (by omega) (by omega) (by omega) (by omega) (by decide)).mono ?_;rintro e w' ⟨rfl,g⟩));go_ret2;exact⟨gX F.out.symm B.out.symm,((Gr.refl _).alloc _ _).trans g⟩
theorem SC (op:Int)(h1:19<=op)(h2:op<=24):Told op:=by
 intro w T;have F:Hid (Dc.aJ op=3):=by
  show _=_
  unfold Dc.aJ;repeat (first|rw[dU]|rw[ak])
 have B:Hid (Dc.bK op=Dc.rowOf op 19 19 [0,2,3,4,6,7]):=by
  show _=_
  unfold Dc.bK;repeat (first|rw[dU]|rw[ak])
 have e1:(op ==1)=false:=by simp;omega
 have e2:(op ==2)=false:=by simp;omega
 have e3:(op ==3)=false:=by simp;omega
 have e4:(op ==4)=false:=by simp;omega
 have e57:(op ==57)=false:=by simp;omega
 have e58:(op ==58)=false:=by simp;omega
 have e59:(op ==59)=false:=by simp;omega
 go_enter func27,ntmps27;go_wp2_with (first|(go_at_call 61;first|(refine(aF _ _ _ _ (by omega)).mono ?_;rintro e w' ⟨rfl,rfl⟩)|(refine(ai _ _ _ _ (by omega)).mono ?_;rintro e w' ⟨rfl,rfl⟩))|(go_at_call 60;refine(gW _ _ _ _ [0,2,3,4,6,7] _ (T.of ((Gr.refl _).alloc _ _)) (dQ _ [0,2,3,4,6,7] _) (by decide) (by omega) (by simp<;>omega) (by omega) (by omega) (by omega) (by omega) (by omega) (by decide)).mono ?_;rintro e w' ⟨rfl,g⟩));go_ret2;exact⟨gX F.out.symm B.out.symm,((Gr.refl _).alloc _ _).trans g⟩
theorem SE (op:Int)(h1:25<=op)(h2:op<=27):Told op:=by
 intro w T;have F:Hid (Dc.aJ op=4):=by
  show _=_
  unfold Dc.aJ;repeat (first|rw[dU]|rw[ak])
 have B:Hid (Dc.bK op=Dc.rowOf op 25 19 [1,5,5]):=by
  show _=_
  unfold Dc.bK;repeat (first|rw[dU]|rw[ak])
 have e1:(op ==1)=false:=by simp;omega
 have e2:(op ==2)=false:=by simp;omega
 have e3:(op ==3)=false:=by simp;omega
 have e4:(op ==4)=false:=by simp;omega
 have e57:(op ==57)=false:=by simp;omega
 have e58:(op ==58)=false:=by simp;omega
 have e59:(op ==59)=false:=by simp;omega
 go_enter func27,ntmps27;go_wp2_with (first|(go_at_call 61;first|(refine(aF _ _ _ _ (by omega)).mono ?_;rintro e w' ⟨rfl,rfl⟩)|(refine(ai _ _ _ _ (by omega)).mono ?_;rintro e w' ⟨rfl,rfl⟩))|(go_at_call 60;refine(gW _ _ _ _ [1,5,5] _ (T.of ((Gr.refl _).alloc _ _)) (dQ _ [1,5,5] _) (by decide) (by omega) (by simp<;>omega) (by omega) (by omega) (by omega) (by omega) (by omega) (by decide)).mono ?_;rintro e w' ⟨rfl,g⟩));go_ret2;exact⟨gX F.out.symm B.out.symm,((Gr.refl _).alloc _ _).trans g⟩
theorem SF (op:Int)(h1:28<=op)(h2:op<=37):Told op:=by
 intro w T;have F:Hid (Dc.aJ op=7):=by
  show _=_
  unfold Dc.aJ;repeat (first|rw[dU]|rw[ak])
 have B:Hid (Dc.bK op=Dc.rowOf op 28 51 [0,0,1,2,3,4,5,5,6,7]):=by
  show _=_
  unfold Dc.bK;repeat (first|rw[dU]|rw[ak])
 have e1:(op ==1)=false:=by simp;omega
 have e2:(op ==2)=false:=by simp;omega
 have e3:(op ==3)=false:=by simp;omega
 have e4:(op ==4)=false:=by simp;omega
 have e57:(op ==57)=false:=by simp;omega
 have e58:(op ==58)=false:=by simp;omega
 have e59:(op ==59)=false:=by simp;omega
 go_enter func27,ntmps27;go_wp2_with (first|(go_at_call 61;first|(refine(aF _ _ _ _ (by omega)).mono ?_;rintro e w' ⟨rfl,rfl⟩)|(refine(ai _ _ _ _ (by omega)).mono ?_;rintro e w' ⟨rfl,rfl⟩))|(go_at_call 60;refine(gW _ _ _ _ [0,0,1,2,3,4,5,5,6,7] _ (T.of ((Gr.refl _).alloc _ _)) (dQ _ [0,0,1,2,3,4,5,5,6,7] _) (by decide) (by omega) (by simp<;>omega) (by omega) (by omega) (by omega) (by omega) (by omega) (by decide)).mono ?_;rintro e w' ⟨rfl,g⟩));go_ret2;exact⟨gX F.out.symm B.out.symm,((Gr.refl _).alloc _ _).trans g⟩
theorem SG (op:Int)(h1:38<=op)(h2:op<=45):Told op:=by
 intro w T;have F:Hid (Dc.aJ op=7):=by
  show _=_
  unfold Dc.aJ;repeat (first|rw[dU]|rw[ak])
 have B:Hid (Dc.bK op=Dc.rowOf op 38 51 [0,1,2,3,4,5,6,7]):=by
  show _=_
  unfold Dc.bK;repeat (first|rw[dU]|rw[ak])
 have e1:(op ==1)=false:=by simp;omega
 have e2:(op ==2)=false:=by simp;omega
 have e3:(op ==3)=false:=by simp;omega
 have e4:(op ==4)=false:=by simp;omega
 have e57:(op ==57)=false:=by simp;omega
 have e58:(op ==58)=false:=by simp;omega
 have e59:(op ==59)=false:=by simp;omega
 go_enter func27,ntmps27;go_wp2_with (first|(go_at_call 61;first|(refine(aF _ _ _ _ (by omega)).mono ?_;rintro e w' ⟨rfl,rfl⟩)|(refine(ai _ _ _ _ (by omega)).mono ?_;rintro e w' ⟨rfl,rfl⟩))|(go_at_call 60;refine(gW _ _ _ _ [0,1,2,3,4,5,6,7] _ (T.of ((Gr.refl _).alloc _ _)) (dQ _ [0,1,2,3,4,5,6,7] _) (by decide) (by omega) (by simp<;>omega) (by omega) (by omega) (by omega) (by omega) (by omega) (by decide)).mono ?_;rintro e w' ⟨rfl,g⟩));go_ret2;exact⟨gX F.out.symm B.out.symm,((Gr.refl _).alloc _ _).trans g⟩
theorem SI (op:Int)(h1:46<=op)(h2:op<=56):Told op:=by
 intro w T;have F:Hid (Dc.aJ op=8):=by
  show _=_
  unfold Dc.aJ;repeat (first|rw[dU]|rw[ak])
 have B:Hid (Dc.bK op=Dc.rowOf op op 47 [2]):=by
  show _=_
  unfold Dc.bK;repeat (first|rw[dU]|rw[ak])
 have e1:(op ==1)=false:=by simp;omega
 have e2:(op ==2)=false:=by simp;omega
 have e3:(op ==3)=false:=by simp;omega
 have e4:(op ==4)=false:=by simp;omega
 have e57:(op ==57)=false:=by simp;omega
 have e58:(op ==58)=false:=by simp;omega
 have e59:(op ==59)=false:=by simp;omega
 go_enter func27,ntmps27;go_wp2_with (first|(go_at_call 61;first|(refine(aF _ _ _ _ (by omega)).mono ?_;rintro e w' ⟨rfl,rfl⟩)|(refine(ai _ _ _ _ (by omega)).mono ?_;rintro e w' ⟨rfl,rfl⟩))|(go_at_call 60;refine(gW _ _ _ _ [2] _ (T.of ((Gr.refl _).alloc _ _)) (dQ _ [2] _) (by decide) (by omega) (by simp<;>omega) (by omega) (by omega) (by omega) (by omega) (by omega) (by decide)).mono ?_;rintro e w' ⟨rfl,g⟩));go_ret2;exact⟨gX F.out.symm B.out.symm,((Gr.refl _).alloc _ _).trans g⟩
theorem SK:Told 57:=by intro w T;go_enter func27,ntmps27;go_wp2_with (first|(go_at_call 61;first|(refine(aF _ _ _ _ (by omega)).mono ?_;rintro e w' ⟨rfl,rfl⟩)|(refine(ai _ _ _ _ (by omega)).mono ?_;rintro e w' ⟨rfl,rfl⟩))|(go_at_call 60;refine(gW 57 57 15 _ [0] _ (T.of ((Gr.refl _).alloc _ _)) (dQ _ [0] _) (by decide) (by omega) (by simp<;>omega) (by omega) (by omega) (by omega) (by omega) (by omega) (by decide)).mono ?_;rintro e w' ⟨rfl,g⟩));go_ret2;exact⟨rfl,((Gr.refl _).alloc _ _).trans g⟩
theorem YJ:Told 1:=by intro w T;go_enter func27,ntmps27;go_wp2_with fail;go_ret2;exact⟨rfl,Gr.refl _⟩
theorem YK:Told 2:=by intro w T;go_enter func27,ntmps27;go_wp2_with fail;go_ret2;exact⟨rfl,Gr.refl _⟩
theorem YL:Told 3:=by intro w T;go_enter func27,ntmps27;go_wp2_with fail;go_ret2;exact⟨rfl,Gr.refl _⟩
theorem SL:Told 58:=by intro w T;go_enter func27,ntmps27;go_wp2_with (go_at_call 61;(refine(ai _ _ _ _ (by omega)).mono ?_;rintro e w' ⟨rfl,rfl⟩));go_ret2;exact⟨rfl,Gr.refl _⟩
theorem SN:Told 59:=by intro w T;go_enter func27,ntmps27;go_wp2_with (go_at_call 61;(refine(ai _ _ _ _ (by omega)).mono ?_;rintro e w' ⟨rfl,rfl⟩));go_ret2;exact⟨rfl,Gr.refl _⟩
theorem told_none (op:Int)(h:op<1\/59<op):Told op:=by
 intro w T;have F:Hid (Dc.aJ op=0):=by
  show _=_
  unfold Dc.aJ;repeat (first|rw[dU]|rw[ak])
 have B:Hid (Dc.bK op=0):=by
  show _=_
  unfold Dc.bK;repeat (first|rw[ak])
 have e1:(op ==1)=false:=by simp;omega
 have e2:(op ==2)=false:=by simp;omega
 have e3:(op ==3)=false:=by simp;omega
 have e4:(op ==4)=false:=by simp;omega
 have e57:(op ==57)=false:=by simp;omega
 have e58:(op ==58)=false:=by simp;omega
 have e59:(op ==59)=false:=by simp;omega
 go_enter func27,ntmps27;go_wp2_with (go_at_call 61;(refine(ai _ _ _ _ (by omega)).mono ?_;rintro e w' ⟨rfl,rfl⟩));go_ret2;exact⟨gX F.out.symm B.out.symm,Gr.refl _⟩
theorem pI (op:Int):Told op:=by
 by_cases h0:op<1\/59<op
 ·exact told_none op h0
 by_cases e1:op=1
 ·subst e1;exact YJ
 by_cases e2:op=2
 ·subst e2;exact YK
 by_cases e3:op=3
 ·subst e3;exact YL
 by_cases e58:op=58
 ·subst e58;exact SL
 by_cases e59:op=59
 ·subst e59;exact SN
 by_cases h4:op<=4
 ·exact YH op (by omega) h4
 by_cases h5:op<=10
 ·exact YI op (by omega) h5
 by_cases h11:op<=15
 ·exact SA op (by omega) h11
 by_cases h16:op<=18
 ·exact SB op (by omega) h16
 by_cases h19:op<=24
 ·exact SC op (by omega) h19
 by_cases h25:op<=27
 ·exact SE op (by omega) h25
 by_cases h28:op<=37
 ·exact SF op (by omega) h28
 by_cases h38:op<=45
 ·exact SG op (by omega) h38
 by_cases h46:op<=56
 ·exact SI op (by omega) h46
 obtain rfl:op=57:=by omega
 exact SK
theorem MH (a:Int)(w:World)(h0:0<=a)(h1:a<4294967296):Calls prog 26 #[.int .u32 a] w fun e w'=>e=.returned (.tuple #[.int .i64 (Dc.sp1 (a%128)),.int .i64 (Dc.sp2 (a%128))])/\w'=w:=by
 have B:=(eX a 127 h0 h1 (by omega) (by omega)).trans (Dc.Wy h0 h1);by_cases e55:a%128=55
 ·have b55:(a%128 ==55)=true:=by simp[e55]
  have S1:Hid (Dc.sp1 (a%128)=1):=by show _=_;rw[e55];rfl
  have S2:Hid (Dc.sp2 (a%128)=1):=by show _=_;rw[e55];rfl
  go_enter func26,ntmps26;go_wp2;go_ret2;rw[S1.out,S2.out];exact⟨rfl,rfl⟩
 have b55:(a%128 ==55)=false:=by simp[e55]
 by_cases e23:a%128=23
 ·have b23:(a%128 ==23)=true:=by simp[e23]
  have S1:Hid (Dc.sp1 (a%128)=2):=by show _=_;rw[e23];rfl
  have S2:Hid (Dc.sp2 (a%128)=2):=by show _=_;rw[e23];rfl
  go_enter func26,ntmps26;go_wp2;go_ret2;rw[S1.out,S2.out];exact⟨rfl,rfl⟩
 have b23:(a%128 ==23)=false:=by simp[e23]
 by_cases II:a%128=111
 ·have agr:(a%128 ==111)=true:=by simp[II]
  have S1:Hid (Dc.sp1 (a%128)=3):=by show _=_;rw[II];rfl
  have S2:Hid (Dc.sp2 (a%128)=3):=by show _=_;rw[II];rfl
  go_enter func26,ntmps26;go_wp2;go_ret2;rw[S1.out,S2.out];exact⟨rfl,rfl⟩
 have agr:(a%128 ==111)=false:=by simp[II]
 by_cases IJ:a%128=103
 ·have ags:(a%128 ==103)=true:=by simp[IJ]
  have S1:Hid (Dc.sp1 (a%128)=4):=by show _=_;rw[IJ];rfl
  have S2:Hid (Dc.sp2 (a%128)=4):=by show _=_;rw[IJ];rfl
  go_enter func26,ntmps26;go_wp2;go_ret2;rw[S1.out,S2.out];exact⟨rfl,rfl⟩
 have ags:(a%128 ==103)=false:=by simp[IJ]
 by_cases e99:a%128=99
 ·have b99:(a%128 ==99)=true:=by simp[e99]
  have S1:Hid (Dc.sp1 (a%128)=5):=by show _=_;rw[e99];rfl
  have S2:Hid (Dc.sp2 (a%128)=10):=by show _=_;rw[e99];rfl
  go_enter func26,ntmps26;go_wp2;go_ret2;rw[S1.out,S2.out];exact⟨rfl,rfl⟩
 have b99:(a%128 ==99)=false:=by simp[e99]
 by_cases e3:a%128=3
 ·have b3:(a%128 ==3)=true:=by simp[e3]
  have S1:Hid (Dc.sp1 (a%128)=11):=by show _=_;rw[e3];rfl
  have S2:Hid (Dc.sp2 (a%128)=15):=by show _=_;rw[e3];rfl
  go_enter func26,ntmps26;go_wp2;go_ret2;rw[S1.out,S2.out];exact⟨rfl,rfl⟩
 have b3:(a%128 ==3)=false:=by simp[e3]
 by_cases e35:a%128=35
 ·have b35:(a%128 ==35)=true:=by simp[e35]
  have S1:Hid (Dc.sp1 (a%128)=16):=by show _=_;rw[e35];rfl
  have S2:Hid (Dc.sp2 (a%128)=18):=by show _=_;rw[e35];rfl
  go_enter func26,ntmps26;go_wp2;go_ret2;rw[S1.out,S2.out];exact⟨rfl,rfl⟩
 have b35:(a%128 ==35)=false:=by simp[e35]
 by_cases e19:a%128=19
 ·have b19:(a%128 ==19)=true:=by simp[e19]
  have S1:Hid (Dc.sp1 (a%128)=19):=by show _=_;rw[e19];rfl
  have S2:Hid (Dc.sp2 (a%128)=27):=by show _=_;rw[e19];rfl
  go_enter func26,ntmps26;go_wp2;go_ret2;rw[S1.out,S2.out];exact⟨rfl,rfl⟩
 have b19:(a%128 ==19)=false:=by simp[e19]
 by_cases e51:a%128=51
 ·have b51:(a%128 ==51)=true:=by simp[e51]
  have S1:Hid (Dc.sp1 (a%128)=28):=by show _=_;rw[e51];rfl
  have S2:Hid (Dc.sp2 (a%128)=45):=by show _=_;rw[e51];rfl
  go_enter func26,ntmps26;go_wp2;go_ret2;rw[S1.out,S2.out];exact⟨rfl,rfl⟩
 have b51:(a%128 ==51)=false:=by simp[e51]
 by_cases e47:a%128=47
 ·have b47:(a%128 ==47)=true:=by simp[e47]
  have S1:Hid (Dc.sp1 (a%128)=46):=by show _=_;rw[e47];rfl
  have S2:Hid (Dc.sp2 (a%128)=56):=by show _=_;rw[e47];rfl
  go_enter func26,ntmps26;go_wp2;go_ret2;rw[S1.out,S2.out];exact⟨rfl,rfl⟩
 have b47:(a%128 ==47)=false:=by simp[e47]
 by_cases e15:a%128=15
 ·have b15:(a%128 ==15)=true:=by simp[e15]
  have S1:Hid (Dc.sp1 (a%128)=57):=by show _=_;rw[e15];rfl
  have S2:Hid (Dc.sp2 (a%128)=57):=by show _=_;rw[e15];rfl
  go_enter func26,ntmps26;go_wp2;go_ret2;rw[S1.out,S2.out];exact⟨rfl,rfl⟩
 have b15:(a%128 ==15)=false:=by simp[e15]
 by_cases e115:a%128=115
 ·have agt:(a%128 ==115)=true:=by simp[e115]
  have S1:Hid (Dc.sp1 (a%128)=58):=by show _=_;rw[e115];rfl
  have S2:Hid (Dc.sp2 (a%128)=59):=by show _=_;rw[e115];rfl
  go_enter func26,ntmps26;go_wp2;go_ret2;rw[S1.out,S2.out];exact⟨rfl,rfl⟩
 have agt:(a%128 ==115)=false:=by simp[e115]
 have S1:Hid (Dc.sp1 (a%128)=0):=by show _=_;unfold Dc.sp1;simp[e55,e23,II,IJ,e99,e3,e35,e19,e51,e47,e15,e115]
 have S2:Hid (Dc.sp2 (a%128) = -1):=by show _=_;unfold Dc.sp2;simp[e55,e23,II,IJ,e99,e3,e35,e19,e51,e47,e15,e115]
 go_enter func26,ntmps26;go_wp2;go_ret2;rw[S1.out,S2.out];exact⟨rfl,rfl⟩
end Dw
namespace Dw

variable {u s :Int} {p :Nat -> Int × Int × Int} {j k :Nat}
theorem YM (n x:Int)(i:Nat)(h0:0<=n)(hx:0<=x)(hm:n%2^i=0)(hl:x<2^i)(hb:n+x<4294967296):bits .or .u32 n x=n+x:=by
 rw[cO n x h0 (by omega) hx (by omega)];have e:n=n/2^i*2^i:=by
  have:=Int.mul_ediv_add_emod n (2^i);rw[hm,Int.mul_comm]at this;omega
 have hn:0<=n/2^i:=ary h0 (Int.pow_nonneg (by omega));have:=YG x (n/2^i) i hx hn hl;rwa[<-e]at this
theorem acR (a:Int)(h0:0<=a)(h1:a<4294967296):0=Dc.bS 0 a:=rfl
theorem acS (a:Int)(h0:0<=a)(h1:a<4294967296):wrap32 (a/4096*4096)=Dc.bS 1 a:=by
 show _=Wd.sg a-a%4096
 unfold wrap32 Wd.sg;split<;>omega
theorem acT (a:Int)(h0:0<=a)(h1:a<4294967296):wrap32 ((a/2147483648*1048576+a/4096%256*4096+a/1048576%2*2048+a/2097152%1024*2)*2048)/2048=Dc.bS 2 a:=by
 show _=Dc.iT 1048576 (a/2147483648*1048576+a/4096%256*4096+a/1048576%2*2048+a/2097152%1024*2)
 unfold wrap32 Dc.iT;split<;>omega
theorem acU (a:Int)(h0:0<=a)(h1:a<4294967296):wrap32 (a/1048576*1048576)/1048576=Dc.bS 3 a:=by
 show _=Dc.iT 2048 (a/1048576)
 unfold wrap32 Dc.iT;split<;>omega
theorem acV (a:Int)(h0:0<=a)(h1:a<4294967296):a/1048576%32=Dc.bS 4 a:=rfl
theorem acW (a:Int)(h0:0<=a)(h1:a<4294967296):wrap32 ((a/2147483648*4096+a/128%2*2048+a/33554432%64*32+a/256%16*2)*524288)/524288=Dc.bS 5 a:=by
 show _=Dc.iT 4096 (a/2147483648*4096+a/128%2*2048+a/33554432%64*32+a/256%16*2)
 unfold wrap32 Dc.iT;split<;>omega
theorem acX (a:Int)(h0:0<=a)(h1:a<4294967296):wrap32 ((a/33554432*32+a/128%32)*1048576)/1048576=Dc.bS 6 a:=by
 show _=Dc.iT 2048 (a/33554432*32+a/128%32)
 unfold wrap32 Dc.iT;split<;>omega
theorem acY (a:Int)(h0:0<=a)(h1:a<4294967296):0=Dc.bS 7 a:=rfl
theorem acZ (a:Int)(h0:0<=a)(h1:a<4294967296):a/33554432%4=Dc.bS 8 a:=rfl
theorem ac0 (a:Int)(h0:0<=a)(h1:a<4294967296):0=Dc.bS 9 a:=rfl
theorem qN (a b c:Int):Wd.rW (Wd.rW a b) c=Wd.rW a (Wd.rW b c):=by unfold Wd.rW;rw[apG,apG,Nat.or_assoc]
theorem SQ (n y i c:Nat)(hz:n/2^i%2^c=0)(hy:y<2^c):n |||y*2^i=n+y*2^i:=by
 have e1:n=n/2 ^ (i+c)*2 ^ (i+c)+n%2^i:=by
  have a1:=arw n (2^i);have a2:=arw (n/2^i) (2^c);rw[Nat.div_div_eq_div_mul,<-Nat.pow_add,hz,aqt]at a2;rw[<-a2,<-Nat.mul_assoc,<-Nat.pow_add,aqH]at a1;exact a1.symm
 have hl:n%2^i<2^i:=Nat.mod_lt _ (aq4 _);generalize n%2^i=l at *
 generalize n/2 ^ (i+c)=h at *
 have hx:y*2^i+l<2 ^ (i+c):=by
  have:(y+1)*2^i<=2^c*2^i:=aqQ _ hy;rw[Nat.add_mul,Nat.one_mul]at this;rw[Nat.pow_add,aqH (2^i)];omega
 have hl':l<2 ^ (i+c):=by omega
 rw[e1,<-Dc.jA l h (i+c) hl',Nat.or_assoc,arB l,Dc.jA l y i hl,Dc.jA _ h (i+c) hx,Dc.jA l h (i+c) hl'];omega
theorem iX (n y:Int)(i c:Nat)(h0:0<=n)(hy:0<=y)(hz:n/2^i%2^c=0)(hl:y<2^c):Wd.rW n (y*2^i)=n+y*2^i:=by
 obtain⟨n,rfl⟩:=apt h0;obtain⟨y,rfl⟩:=apt hy;have p1:((2:Int) ^ i)=((2^i:Nat):Int):=by simp
 have p2:((2:Int) ^ c)=((2^c:Nat):Int):=by simp
 rw[p1,p2]at hz;rw[p2]at hl;have hz':n/2^i%2^c=0:=by exact_mod_cast hz
 have:=SQ n y i c hz' (by omega);rw[p1];unfold Wd.rW;rw[show(y:Int)*((2^i:Nat):Int)=((y*2^i:Nat):Int)by simp,apG,apG,this];omega
theorem oz (n y:Int)(i c:Nat)(h0:0<=n)(hy:0<=y)(hz:n/2^i%2^c=0)(hl:y<2^c)(hb:n<4294967296)(hx:y*2^i<4294967296)(hx0:0<=y*2^i):bits .or .u32 n (y*2^i)=n+y*2^i:=by rw[cO n _ h0 hb hx0 hx];exact iX n y i c h0 hy hz hl
theorem z_2 (x y z:Int)(a1:0<=x)(a2:x<2)(b1:0<=y)(b2:y<256)(c1:0<=z)(c2:z<2):(x*2147483648+y*4096+z*1048576)/2^21%2^10=0:=by
 have:(x*2147483648+y*4096+z*1048576)/2^21=x*1024:=by omega
 rw[this];omega
theorem z_5 (x y z:Int)(a1:0<=x)(a2:x<2)(b1:0<=y)(b2:y<2)(c1:0<=z)(c2:z<64):(x*2147483648+y*128+z*33554432)/2^8%2^4=0:=by
 have:(x*2147483648+y*128+z*33554432)/2^8=x*8388608+z*131072:=by omega
 rw[this];omega
def gY (f:Int):Prop:=∀(a:Int) (w:World),nK w->0<=a->a<4294967296->Calls prog 62 #[.int .i64 f,.int .u32 a] w fun e w'=>e=.returned (.int .i32 (Dc.bS f a))/\Gr w w'
def kX (u:Int) (p:Nat→Int×Int×Int):Nat→Int
 |0=>0
 |j+1=>bits .or .u32 (kX u p j) (u/2 ^ (p j).1.toNat%2 ^ (p j).2.1.toNat*2 ^ (p j).2.2.toNat%4294967296)
theorem aB (h:kX u p j=s)(hs:0<=s/\s<4294967296)(hc:(p j).2.1=0):kX u p (j+1)=s:=by
 rw[kX,h,hc];have e:u/2 ^ (p j).1.toNat%2 ^ (0:Int).toNat*2 ^ (p j).2.2.toNat%4294967296=0*2^0:=by
  rw[show(2:Int) ^ (0:Int).toNat=1 from rfl,Int.emod_one,Int.zero_mul];rfl
 rw[e,oz s 0 0 0 hs.1 (by omega) (by omega) (by omega) hs.2 (by omega) (by omega)];omega
theorem bC (h:kX u p j=s)(b c a:Nat)(hp:p j=((b:Int),(c:Int),(a:Int)))(hs:0<=s/\s<4294967296)(hz:s/2^a%2^c=0)(hc:(2:Int) ^ c*2^a<=4294967296)(h2:(0:Int)<2^a)(h3:(0:Int)<2^c):kX u p (j+1)=s+u/2^b%2^c*2^a:=by
 rw[kX,h,hp];simp only[apG];have y0:0<=u/2^b%2^c:=Int.emod_nonneg _ (by omega);have y1:u/2^b%2^c<2^c:=Int.emod_lt_of_pos _ h3;generalize u/2^b%2^c=y at *
 have y2:0<=y*2^a:=Int.mul_nonneg y0 (by omega);have y3:y*2^a<4294967296:=Int.lt_of_lt_of_le (Int.mul_lt_mul_of_pos_right y1 h2) hc;rw[aqr y2 y3,oz s y a c hs.1 y0 hz y1 hs.2 y3 y2]
def twelve (q:Nat->Int):Array Value:=#[.int .i64 (q 0),.int .i64 (q 1),.int .i64 (q 2),.int .i64 (q 3),.int .i64 (q 4),.int .i64 (q 5),.int .i64 (q 6),.int .i64 (q 7),.int .i64 (q 8),.int .i64 (q 9),.int .i64 (q 10),.int .i64 (q 11)]
theorem WS (q:Nat→Int)(w:World):∀j,j<4→(Instr.index 101 (.agg (twelve q)) (.int .i64 (j:Nat))).run prog w=.ok (.agg #[.int .i64 (q (3*j)),.int .i64 (q (3*j+1)),.int .i64 (q (3*j+2))]) w
 |0,_=>by kernel_rfl
 |1,_=>by kernel_rfl
 |2,_=>by kernel_rfl
 |3,_=>by kernel_rfl
 |j+4,h=>absurd h (by omega)
def oC (k i:Nat):Int:=(pieces k).getD i 0
theorem YN (k:Nat)(hk:k<10)(i:Nat)(hi:i<12):shapes[k*17+4+i]?=some (.int .i64 (oC k i)):=by
 have hk':k=0\/k=1\/k=2\/k=3\/k=4\/k=5\/k=6\/k=7\/k=8\/k=9:=by omega
 have hi':i=0\/i=1\/i=2\/i=3\/i=4\/i=5\/i=6\/i=7\/i=8\/i=9\/i=10\/i=11:=by omega
 rcases hk' with rfl|rfl|rfl|rfl|rfl|rfl|rfl|rfl|rfl|rfl<;>rcases hi' with rfl|rfl|rfl|rfl|rfl|rfl|rfl|rfl|rfl|rfl|rfl|rfl<;>rfl
theorem MI (k:Nat)(hk:k<10):shapes[k*17+16]?=some (.int .i64 (spare k))/\0<=spare k/\spare k<=31:=by
 have hk':k=0\/k=1\/k=2\/k=3\/k=4\/k=5\/k=6\/k=7\/k=8\/k=9:=by omega
 rcases hk' with rfl|rfl|rfl|rfl|rfl|rfl|rfl|rfl|rfl|rfl<;>exact⟨rfl,by decide,by decide⟩
theorem MJ (k:Nat)(hk:k<10)(i:Nat):0<=oC k i/\oC k i<=31:=by
 have h:∀x∈pieces k,0<=x/\x<=31:=by
  have hk':k=0\/k=1\/k=2\/k=3\/k=4\/k=5\/k=6\/k=7\/k=8\/k=9:=by omega
  rcases hk' with rfl|rfl|rfl|rfl|rfl|rfl|rfl|rfl|rfl|rfl<;>decide
 unfold oC;rw[apV];cases e:(pieces k)[i]? with
 |none=>simp
 |some x=>exact h x (aps e)
theorem FR (hk:k<10){w:World}(T:nK w):w.rangeAt 0 (k*17+4) (twelve (oC k)).toList:=fun j v hv=>by
 have hj:j<12:=(apj.1 hv).1;have:(twelve (oC k)).toList[j]?=some (.int .i64 (oC k j)):=by
  have hj':j=0\/j=1\/j=2\/j=3\/j=4\/j=5\/j=6\/j=7\/j=8\/j=9\/j=10\/j=11:=by omega
  rcases hj' with rfl|rfl|rfl|rfl|rfl|rfl|rfl|rfl|rfl|rfl|rfl|rfl<;>rfl
 rw[this]at hv;injection hv with hv;rw[<-hv];exact T.shapes _ _ (YN k hk j hj)
theorem MK (x:Int):wrap32 (x%4294967296)=wrap32 x:=by unfold wrap32;omega
def pR (k j:Nat):Int×Int×Int:=(oC k (3*j),oC k (3*j+2),oC k (3*j+1))
theorem jK (hk:k<10)(a:Int)(w:World)(T:nK w)(u0:0<=a)(u1:a<4294967296):Calls prog 62 #[.int .i64 k,.int .u32 a] w fun e w'=>e=.returned (.int .i32 (wrap32 (kX a (pR k) 4*2 ^ (spare k).toNat)/2 ^ (spare k).toNat))/\Gr w w':=by
 have HX:Hid (∀j,j<4->∀w:World,_):=fun j h w=>WS (oC k) w j h
 have HR:=FR hk T;have hsz:(prog.info? 101).map (·.size)=some (twelve (oC k)).toList.length:=by kernel_rfl
 have HT:=kH T;have hb:=MJ k hk;obtain⟨s1,s2,s3⟩:=MI k hk;have fO:=kH s1;have HP:Hid (∀j,kX a (pR k) (j+1)=bits .or .u32 (kX a (pR k) j) (a/2 ^ (oC k (3*j)).toNat%2 ^ (oC k (3*j+2)).toNat*2 ^ (oC k (3*j+1)).toNat%4294967296)):=fun j=>rfl
 generalize spare k=sp at *
 go_enter func62,ntmps62;go_wp2_with (refine auA rfl 101 _ rfl 0 (k*17+4) rfl (twelve (oC k)).toList _ HR underlying101 rfl hsz ?_);go_loopw [5,13] (fun s i wr=>Gr w wr/\∃j:Nat,j<=4/\i=.int .i64 j/\s=.int .u32 (kX a (pR k) j)) (fun _ i _=>4-(intOf i).toNat)
 case atStart=>exact⟨Gr.refl _,0,apF _,rfl,rfl⟩
 case round=>
  obtain⟨g,j,hj,rfl,rfl⟩:=hrel;by_cases hlt:j<4
  ·have x:=HX.out j hlt;obtain⟨b0,b1⟩:=hb (3*j);obtain⟨d0,d1⟩:=hb (3*j+1);obtain⟨e0,e1⟩:=hb (3*j+2);have HO:=kH (HP.out j);generalize kX a (pR k) j=s at *
   generalize oC k (3*j)=qa at *
   generalize oC k (3*j+1)=qb at *
   generalize oC k (3*j+2)=qc at *
   obtain⟨y,hy⟩:∃y,a/2^qa.toNat%2^qc.toNat=y:=⟨_,rfl⟩;rw[hy]at HO;have HY:=kH hy;go_wp2;refine auB (by kernel_rfl) (by kernel_rfl) ?_;iterate 6 go_big_quiet_step (fail)
   go_big_quiet_step (exact Calls.quiet_of (lM a qa qc y _ u0 u1 b0 b1 e0 e1 HY.out));iterate 5 go_big_quiet_step (fail)
   refine auO ?_;intro _ h;obtain⟨nq,h2⟩:=h;subst h2;go_wp2;go_roundw
   case rel=>exact⟨(g.alloc _ _).drewN _,j+1,by omega,by go_num,by rw[HO.out]⟩
   case measure=>simp[intOf];omega
  ·have ej:j=4:=by omega
   subst ej;have c16:=(HT.out.of g).shapes _ _ fO.out;go_wp2;go_ret;exact⟨au (by rw[MK]),g⟩
theorem IK:gY 0:=by
 intro a w T h0 h1;refine(jK (k:=0) (by omega) a w T h0 h1).mono fun e w' ⟨he,hg⟩=>⟨he.trans (au ?_),hg⟩
 have e0:kX a (pR 0) 0=0:=rfl;have e1:=aB e0 ⟨by omega,by omega⟩ rfl;have e2:=aB e1 ⟨by omega,by omega⟩ rfl;have e3:=aB e2 ⟨by omega,by omega⟩ rfl;have e4:=aB e3 ⟨by omega,by omega⟩ rfl;rw[e4];refine auT ?_ (acR a h0 h1);show wrap32 (_*1)/1=_
 rw[aq2,aqW];unfold wrap32;omega
theorem IL:gY 1:=by
 intro a w T h0 h1;refine(jK (k:=1) (by omega) a w T h0 h1).mono fun e w' ⟨he,hg⟩=>⟨he.trans (au ?_),hg⟩
 have e0:kX a (pR 1) 0=0:=rfl;have e1:=bC e0 12 20 12 rfl ⟨by omega,by omega⟩ (by omega) (by decide) (by decide) (by decide);have e2:=aB e1 ⟨by omega,by omega⟩ rfl;have e3:=aB e2 ⟨by omega,by omega⟩ rfl;have e4:=aB e3 ⟨by omega,by omega⟩ rfl;rw[e4];refine auT ?_ (acS a h0 h1);show wrap32 (_*1)/1=_
 rw[aq2,aqW];congr 1;omega
theorem IM:gY 2:=by
 intro a w T h0 h1;refine(jK (k:=2) (by omega) a w T h0 h1).mono fun e w' ⟨he,hg⟩=>⟨he.trans (au ?_),hg⟩
 have e0:kX a (pR 2) 0=0:=rfl;have e1:=bC e0 31 1 20 rfl ⟨by omega,by omega⟩ (by omega) (by decide) (by decide) (by decide);have e2:=bC e1 12 8 12 rfl ⟨by omega,by omega⟩ (by omega) (by decide) (by decide) (by decide);have e3:=bC e2 20 1 11 rfl ⟨by omega,by omega⟩ (by omega) (by decide) (by decide) (by decide);have e4:=bC e3 21 10 1 rfl ⟨by omega,by omega⟩ (by omega) (by decide) (by decide) (by decide);rw[e4];refine auT ?_ (acT a h0 h1);show wrap32 (_*2048)/2048=_
 congr 3;omega
theorem IP:gY 3:=by
 intro a w T h0 h1;refine(jK (k:=3) (by omega) a w T h0 h1).mono fun e w' ⟨he,hg⟩=>⟨he.trans (au ?_),hg⟩
 have e0:kX a (pR 3) 0=0:=rfl;have e1:=bC e0 20 12 0 rfl ⟨by omega,by omega⟩ (by omega) (by decide) (by decide) (by decide);have e2:=aB e1 ⟨by omega,by omega⟩ rfl;have e3:=aB e2 ⟨by omega,by omega⟩ rfl;have e4:=aB e3 ⟨by omega,by omega⟩ rfl;rw[e4];refine auT ?_ (acU a h0 h1);show wrap32 (_*1048576)/1048576=_
 congr 2;omega
theorem IQ:gY 4:=by
 intro a w T h0 h1;refine(jK (k:=4) (by omega) a w T h0 h1).mono fun e w' ⟨he,hg⟩=>⟨he.trans (au ?_),hg⟩
 have e0:kX a (pR 4) 0=0:=rfl;have e1:=bC e0 20 5 0 rfl ⟨by omega,by omega⟩ (by omega) (by decide) (by decide) (by decide);have e2:=aB e1 ⟨by omega,by omega⟩ rfl;have e3:=aB e2 ⟨by omega,by omega⟩ rfl;have e4:=aB e3 ⟨by omega,by omega⟩ rfl;rw[e4];refine auT ?_ (acV a h0 h1);show wrap32 (_*1)/1=_
 rw[aq2,aqW];unfold wrap32;omega
theorem IU:gY 5:=by
 intro a w T h0 h1;refine(jK (k:=5) (by omega) a w T h0 h1).mono fun e w' ⟨he,hg⟩=>⟨he.trans (au ?_),hg⟩
 have e0:kX a (pR 5) 0=0:=rfl;have e1:=bC e0 31 1 12 rfl ⟨by omega,by omega⟩ (by omega) (by decide) (by decide) (by decide);have e2:=bC e1 7 1 11 rfl ⟨by omega,by omega⟩ (by omega) (by decide) (by decide) (by decide);have e3:=bC e2 25 6 5 rfl ⟨by omega,by omega⟩ (by omega) (by decide) (by decide) (by decide);have e4:=bC e3 8 4 1 rfl ⟨by omega,by omega⟩ (by omega) (by decide) (by decide) (by decide);rw[e4];refine auT ?_ (acW a h0 h1);show wrap32 (_*524288)/524288=_
 congr 3;omega
theorem IV:gY 6:=by
 intro a w T h0 h1;refine(jK (k:=6) (by omega) a w T h0 h1).mono fun e w' ⟨he,hg⟩=>⟨he.trans (au ?_),hg⟩
 have e0:kX a (pR 6) 0=0:=rfl;have e1:=bC e0 25 7 5 rfl ⟨by omega,by omega⟩ (by omega) (by decide) (by decide) (by decide);have e2:=bC e1 7 5 0 rfl ⟨by omega,by omega⟩ (by omega) (by decide) (by decide) (by decide);have e3:=aB e2 ⟨by omega,by omega⟩ rfl;have e4:=aB e3 ⟨by omega,by omega⟩ rfl;rw[e4];refine auT ?_ (acX a h0 h1);show wrap32 (_*1048576)/1048576=_
 congr 3;omega
theorem IW:gY 7:=by
 intro a w T h0 h1;refine(jK (k:=7) (by omega) a w T h0 h1).mono fun e w' ⟨he,hg⟩=>⟨he.trans (au ?_),hg⟩
 have e0:kX a (pR 7) 0=0:=rfl;have e1:=aB e0 ⟨by omega,by omega⟩ rfl;have e2:=aB e1 ⟨by omega,by omega⟩ rfl;have e3:=aB e2 ⟨by omega,by omega⟩ rfl;have e4:=aB e3 ⟨by omega,by omega⟩ rfl;rw[e4];refine auT ?_ (acY a h0 h1);show wrap32 (_*1)/1=_
 rw[aq2,aqW];unfold wrap32;omega
theorem IY:gY 8:=by
 intro a w T h0 h1;refine(jK (k:=8) (by omega) a w T h0 h1).mono fun e w' ⟨he,hg⟩=>⟨he.trans (au ?_),hg⟩
 have e0:kX a (pR 8) 0=0:=rfl;have e1:=bC e0 25 2 0 rfl ⟨by omega,by omega⟩ (by omega) (by decide) (by decide) (by decide);have e2:=aB e1 ⟨by omega,by omega⟩ rfl;have e3:=aB e2 ⟨by omega,by omega⟩ rfl;have e4:=aB e3 ⟨by omega,by omega⟩ rfl;rw[e4];refine auT ?_ (acZ a h0 h1);show wrap32 (_*1)/1=_
 rw[aq2,aqW];unfold wrap32;omega
theorem IZ:gY 9:=by
 intro a w T h0 h1;refine(jK (k:=9) (by omega) a w T h0 h1).mono fun e w' ⟨he,hg⟩=>⟨he.trans (au ?_),hg⟩
 have e0:kX a (pR 9) 0=0:=rfl;have e1:=aB e0 ⟨by omega,by omega⟩ rfl;have e2:=aB e1 ⟨by omega,by omega⟩ rfl;have e3:=aB e2 ⟨by omega,by omega⟩ rfl;have e4:=aB e3 ⟨by omega,by omega⟩ rfl;rw[e4];refine auT ?_ (ac0 a h0 h1);show wrap32 (_*1)/1=_
 rw[aq2,aqW];unfold wrap32;omega
end Dw
end Go.Proofs.YtiadhbmnfjfioaaGreatDoor
