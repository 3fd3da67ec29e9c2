/- ours -/
import Derived.Test.YtiadhbmnfjfioaaGreatDoorX03
set_option linter.unusedVariables false
set_option linter.unusedSimpArgs false
set_option maxHeartbeats 8000000
set_option maxRecDepth 100000
set_option linter.unusedSectionVars false
namespace Go.Proofs.YtiadhbmnfjfioaaGreatDoor
open Go.Proofs.Tryz hiding d0 d1
open Go.ChangeShapes Go.WideShapes Go.ChangeAt Go.RowKit
variable{c:Array Value}{nm x op a b pc steps:Int}{p:Int×Int}{l:List UInt8}{k n j:Nat}{w:World}
namespace Dw
theorem au {k:IntKind}(h:a=b):Ending.returned (.int k a)=.returned (.int k b):=by rw[h]
theorem aM {a b:Bool}(h:a=b):Ending.returned (.bool a)=.returned (.bool b):=by rw[h]
theorem wrap_u32' (n:Int):IntKind.u32.wrap n=n%4294967296:=by rfl
theorem ofInt32 (a:Nat)(ha:(a:Int)<4294967296):(BitVec.ofInt 32 (a:Int)).toNat=a:=by rw[BitVec.ofInt_natCast,BitVec.toNat_ofNat];exact Nat.mod_eq_of_lt ab
theorem eX (a b:Int)(ha:0<=a)(ha':a<4294967296)(hb:0<=b)(hb':b<4294967296):bits .and .u32 a b=Wd.iw a b:=by
 obtain⟨a,rfl⟩:=apt ha;obtain⟨b,rfl⟩:=apt hb;have hx:a &&& b<2^32:=ari _ ab;show IntKind.u32.wrap ((BitVec.ofInt 32 (a:Int) &&& BitVec.ofInt 32 (b:Int)).toNat:Int)=_
 rw[avk,ofInt32 a ha',ofInt32 b hb',wrap_u32'];simp only[Wd.iw,apG];omega
theorem cO (a b:Int)(ha:0<=a)(ha':a<4294967296)(hb:0<=b)(hb':b<4294967296):bits .or .u32 a b=Wd.rW a b:=by
 obtain⟨a,rfl⟩:=apt ha;obtain⟨b,rfl⟩:=apt hb;have hx:a |||b<2^32:=arn ab ab
 show IntKind.u32.wrap ((BitVec.ofInt 32 (a:Int) |||BitVec.ofInt 32 (b:Int)).toNat:Int)=_
 rw[BitVec.toNat_or,ofInt32 a ha',ofInt32 b hb',wrap_u32'];simp only[Wd.rW,apG];omega
theorem aG (a b c:Int)(w:World):Calls prog 61 #[.int .i64 a,.int .i64 b,.int .i64 c] w fun e w'=>e=.returned (.bool (decide (b<=a) && decide (a<=c)))/\w'=w:=by
 by_cases h:b<=a
 all_goals
  go_enter func61,ntmps61;go_wp2;go_ret;exact⟨aM (by simp[h];try omega),rfl⟩
theorem MG (x:Int)(n:Nat)(h0:0<=x)(h1:x<4294967296)(hn:n<=31):bits .and .u32 x ((2^n-1)%4294967296)=x%2^n:=by
 have hp:(2:Int) ^ n=((2^n:Nat):Int):=aq;have hb:(2:Nat) ^ n<=2^31:=aqE ab hn;have hb0:0<(2:Nat) ^ n:=aq4 _;obtain⟨x,rfl⟩:=apt h0;have e:((2:Int) ^ n-1)%4294967296=((2^n-1:Nat):Int):=by rw[hp];omega
 rw[e,eX _ _ h0 h1 ab ab];unfold Wd.iw;rw[apG,apG,aqL,hp];omega
theorem Dt (x y:Int)(i:Nat)(hx:0<=x)(hy:0<=y)(h:x<2^i):Wd.rW x (y*2^i)=x+y*2^i:=by
 obtain⟨x,rfl⟩:=apt hx;obtain⟨y,rfl⟩:=apt hy;have e:(y:Int)*2^i=((y*2^i:Nat):Int):=aq;have h':x<2^i:=by
  have:((2:Int) ^ i)=((2^i:Nat):Int):=aq;rw[this]at h;omega
 rw[e];unfold Wd.rW;rw[apG,apG,arB,Dc.jA _ _ _ h'];omega
theorem MH (x y:Int):Wd.rW x y=Wd.rW y x:=by unfold Wd.rW;rw[arB]
theorem YI (x y:Int)(i:Nat)(hx:0<=x)(hy:0<=y)(h:x<2^i):Wd.rW (y*2^i) x=y*2^i+x:=by rw[MH,Dt x y i hx hy h];omega
theorem II (a at' n:Int)(w:World)(ha:0<=a)(ha':a<4294967296)(h1:0<=at')(h2:at'<=31)(h3:0<=n)(h4:n<=31):Calls prog 63 #[.int .u32 a,.int .i64 at',.int .i64 n] w fun e w'=>e=.returned (.int .u32 (a/2^at'.toNat%2^n.toNat))/\∃m,w'=w.drewN m:=by
 go_enter func63,ntmps63;go_wp2;refine auB al al ?_;iterate 8 go_big_quiet_step (fail)
 refine auO ?_;intro _ h;obtain⟨nq,h2⟩:=h;subst h2;go_wp2;go_ret;refine⟨au (MG _ _ (ary ha (Int.pow_nonneg ab)) ?_ ab),_,rfl⟩;exact Int.lt_of_le_of_lt (Int.ediv_le_self _ ha) ha'
theorem lM (a at' n r:Int)(w:World)(ha:0<=a)(ha':a<4294967296)(h1:0<=at')(h2:at'<=31)(h3:0<=n)(h4:n<=31)(hr:a/2^at'.toNat%2^n.toNat=r):Calls prog 63 #[.int .u32 a,.int .i64 at',.int .i64 n] w fun e w'=>e=.returned (.int .u32 r)/\∃m,w'=w.drewN m:=hr ▸ II a at' n w ha ha' h1 h2 h3 h4
theorem SB (low m u:Int)(h1:0<=low)(h2:low<4096)(h3:0<=m)(h4:m<8)(h5:0<=u)(h6:u<128):bits .or .u32 (bits .or .u32 low (m*4096)) (u*33554432)=low+m*4096+u*33554432:=by rw[show m*4096=m*2^12 by omega,show u*33554432=u*2^25 by omega];rw[cO low _ h1 ab ab ab,Dt low m 12 h1 h3 ab];rw[cO _ _ ab ab ab ab,Dt _ u 25 ab h5 ab]
theorem gW (op first low:Int)(b:Nat)(ms:List Int)(w:World)(T:nK w)(hm:∀i n,ms[i]?=some n→w.cell? ⟨b,i,none⟩=some (.int .u32 n))(hms:∀n∈ms,0≤n∧n<8)(h1:first<=op)(h2:op-first<ms.length)(h3:0<=op)(h4:op<60)(h5:0<=low)(h6:low<128)(h7 : -1<=first)(h8:ms.length<=20):Calls prog 60 #[.int .i64 op,.int .i64 first,.int .u32 low,.slice (some ⟨b,0,none⟩) ms.length ms.length] w fun e w'=>e=.returned (.int .u32 (Dc.rowOf op first low ms))/\Gr w w':=by
 obtain⟨m,hm1⟩:∃m,ms[(op-first).toNat]?=some m:=⟨_,api ab⟩;have hl:Dc.uppers.length=60:=an;obtain⟨u,hu1⟩:∃u,Dc.uppers[op.toNat]?=some u:=⟨_,api ab⟩;have hmb:=hms m (aps hm1);have hub:0<=u/\u<128:=by
  have:∀u∈Dc.uppers,0<=u/\u<128:=an;exact this u (aps hu1)
 have c1:=hm _ _ hm1;have c2:=T.uppers _ _ hu1;have E:Hid (Dc.rowOf op first low ms=low+m*4096+u*33554432):=by
  show _=_
  unfold Dc.rowOf Dc.nth;rw[List.getD,hm1,List.getD,hu1];rfl
 go_enter func60,ntmps60;go_wp2;refine auB al al ?_;iterate 15 go_big_quiet_step (fail)
 refine auO ?_;intro _ h;obtain⟨nq,h2⟩:=h;subst h2;go_wp2;go_ret;rw[E.out];exact⟨au (SB low m u h5 ab hmb.1 hmb.2 hub.1 hub.2),(Gr.refl w).drewN _⟩
theorem aF (a b c:Int)(w:World)(h:b<=a/\a<=c):Calls prog 61 #[.int .i64 a,.int .i64 b,.int .i64 c] w fun e w'=>e=.returned (.bool true)/\w'=w:=by refine(aG a b c w).mono ?_;rintro e w' ⟨rfl,rfl⟩;exact⟨aM (by simp[h]),rfl⟩
theorem ai (a b c:Int)(w:World)(h:¬(b<=a/\a<=c)):Calls prog 61 #[.int .i64 a,.int .i64 b,.int .i64 c] w fun e w'=>e=.returned (.bool false)/\w'=w:=by refine(aG a b c w).mono ?_;rintro e w' ⟨rfl,rfl⟩;exact⟨aM (by rw[<-Bool.decide_and];simpa using h),rfl⟩
theorem dQ (w:World)(ms:List Int)(t:TypeId):∀i n,ms[i]?=some n->(w.alloc (.cells (ms.map (Value.int .u32)).toArray t)).cell? ⟨w.heap.size,i,none⟩=some (.int .u32 n):=by intro i n h;rw[World.cell?_alloc_new];simp[h]
def Told (op:Int):Prop:=∀w:World,nK w->Calls prog 27 #[.int .i64 op] w fun e w'=>e=.returned (.tuple #[.int .i64 (Dc.aJ op),.int .u32 (Dc.bK op)])/\Gr w w'
theorem gX {c d:Int}(h:a=c)(h':b=d):Ending.returned (.tuple #[.int .i64 a,.int .u32 b])=.returned (.tuple #[.int .i64 c,.int .u32 d]):=by rw[h,h']
theorem YJ (op:Int)(h1:4<=op)(h2:op<=4):Told op:=by
 intro w T;have F:Hid (Dc.aJ op=3):=by
  show _=_
  unfold Dc.aJ;repeat (first|rw[dU]|rw[ak])
 have B:Hid (Dc.bK op=Dc.rowOf op 4 103 [0]):=by
  show _=_
  unfold Dc.bK;repeat (first|rw[dU]|rw[ak])
 have e1:(op ==1)=false:=by simp;omega
 have e2:(op ==2)=false:=by simp;omega
 have e3:(op ==3)=false:=by simp;omega
 have e4:(op ==4)=true:=by simp;omega
 have e57:(op ==57)=false:=by simp;omega
 have e58:(op ==58)=false:=by simp;omega
 have e59:(op ==59)=false:=by simp;omega
 go_enter func27,ntmps27;go_wp2_with (go_at_call 60;refine(gW _ _ _ _ [0] _ (T.of ((Gr.refl _).alloc _ _)) (dQ _ [0] _) an ab (by simp<;>omega) ab ab ab ab ab an).mono ?_;rintro e w' ⟨rfl,g⟩);go_ret2;exact⟨gX F.symm B.symm,((Gr.refl _).alloc _ _).trans g⟩
theorem YK (op:Int)(h1:5<=op)(h2:op<=10):Told op:=by
 intro w T;have F:Hid (Dc.aJ op=5):=by
  show _=_
  unfold Dc.aJ;repeat (first|rw[dU]|rw[ak])
 have B:Hid (Dc.bK op=Dc.rowOf op 5 99 [0,1,4,5,6,7]):=by
  show _=_
  unfold Dc.bK;repeat (first|rw[dU]|rw[ak])
 have e1:(op ==1)=false:=by simp;omega
 have e2:(op ==2)=false:=by simp;omega
 have e3:(op ==3)=false:=by simp;omega
 have e4:(op ==4)=false:=by simp;omega
 have e57:(op ==57)=false:=by simp;omega
 have e58:(op ==58)=false:=by simp;omega
 have e59:(op ==59)=false:=by simp;omega
 go_enter func27,ntmps27;go_wp2_with (first|(go_at_call 61;first|(refine(aF _ _ _ _ ab).mono ?_;rintro e w' ⟨rfl,rfl⟩)|(refine(ai _ _ _ _ ab).mono ?_;rintro e w' ⟨rfl,rfl⟩))|(go_at_call 60;refine(gW _ _ _ _ [0,1,4,5,6,7] _ (T.of ((Gr.refl _).alloc _ _)) (dQ _ [0,1,4,5,6,7] _) an ab (by simp<;>omega) ab ab ab ab ab an).mono ?_;rintro e w' ⟨rfl,g⟩));go_ret2;exact⟨gX F.symm B.symm,((Gr.refl _).alloc _ _).trans g⟩
theorem SC (op:Int)(h1:11<=op)(h2:op<=15):Told op:=by
 intro w T;have F:Hid (Dc.aJ op=3):=by
  show _=_
  unfold Dc.aJ;repeat (first|rw[dU]|rw[ak])
 have B:Hid (Dc.bK op=Dc.rowOf op 11 3 [0,1,2,4,5]):=by
  show _=_
  unfold Dc.bK;repeat (first|rw[dU]|rw[ak])
 have e1:(op ==1)=false:=by simp;omega
 have e2:(op ==2)=false:=by simp;omega
 have e3:(op ==3)=false:=by simp;omega
 have e4:(op ==4)=false:=by simp;omega
 have e57:(op ==57)=false:=by simp;omega
 have e58:(op ==58)=false:=by simp;omega
 have e59:(op ==59)=false:=by simp;omega
 go_enter func27,ntmps27;go_wp2_with (first|(go_at_call 61;first|(refine(aF _ _ _ _ ab).mono ?_;rintro e w' ⟨rfl,rfl⟩)|(refine(ai _ _ _ _ ab).mono ?_;rintro e w' ⟨rfl,rfl⟩))|(go_at_call 60;refine(gW _ _ _ _ [0,1,2,4,5] _ (T.of ((Gr.refl _).alloc _ _)) (dQ _ [0,1,2,4,5] _) an ab (by simp<;>omega) ab ab ab ab ab an).mono ?_;rintro e w' ⟨rfl,g⟩));go_ret2;exact⟨gX F.symm B.symm,((Gr.refl _).alloc _ _).trans g⟩
theorem SE (op:Int)(h1:16<=op)(h2:op<=18):Told op:=by
 intro w T;have F:Hid (Dc.aJ op=6):=by
  show _=_
  unfold Dc.aJ;repeat (first|rw[dU]|rw[ak])
 have B:Hid (Dc.bK op=Dc.rowOf op 16 35 [0,1,2]):=by
  show _=_
  unfold Dc.bK;repeat (first|rw[dU]|rw[ak])
 have e1:(op ==1)=false:=by simp;omega
 have e2:(op ==2)=false:=by simp;omega
 have e3:(op ==3)=false:=by simp;omega
 have e4:(op ==4)=false:=by simp;omega
 have e57:(op ==57)=false:=by simp;omega
 have e58:(op ==58)=false:=by simp;omega
 have e59:(op ==59)=false:=by simp;omega
 go_enter func27,ntmps27;go_wp2_with (first|(go_at_call 61;first|(refine(aF _ _ _ _ ab).mono ?_;rintro e w' ⟨rfl,rfl⟩)|(refine(ai _ _ _ _ ab).mono ?_;rintro e w' ⟨rfl,rfl⟩))|(go_at_call 60;refine(gW _ _ _ _ [0,1,2] _ (T.of ((Gr.refl _).alloc _ _)) (dQ _ [0,1,2] _) an ab (by simp<;>omega) ab ab ab ab ab an).mono ?_;rintro e w' ⟨rfl,g⟩));go_ret2;exact⟨gX F.symm B.symm,((Gr.refl _).alloc _ _).trans g⟩
theorem SF (op:Int)(h1:19<=op)(h2:op<=24):Told op:=by
 intro w T;have F:Hid (Dc.aJ op=3):=by
  show _=_
  unfold Dc.aJ;repeat (first|rw[dU]|rw[ak])
 have B:Hid (Dc.bK op=Dc.rowOf op 19 19 [0,2,3,4,6,7]):=by
  show _=_
  unfold Dc.bK;repeat (first|rw[dU]|rw[ak])
 have e1:(op ==1)=false:=by simp;omega
 have e2:(op ==2)=false:=by simp;omega
 have e3:(op ==3)=false:=by simp;omega
 have e4:(op ==4)=false:=by simp;omega
 have e57:(op ==57)=false:=by simp;omega
 have e58:(op ==58)=false:=by simp;omega
 have e59:(op ==59)=false:=by simp;omega
 go_enter func27,ntmps27;go_wp2_with (first|(go_at_call 61;first|(refine(aF _ _ _ _ ab).mono ?_;rintro e w' ⟨rfl,rfl⟩)|(refine(ai _ _ _ _ ab).mono ?_;rintro e w' ⟨rfl,rfl⟩))|(go_at_call 60;refine(gW _ _ _ _ [0,2,3,4,6,7] _ (T.of ((Gr.refl _).alloc _ _)) (dQ _ [0,2,3,4,6,7] _) an ab (by simp<;>omega) ab ab ab ab ab an).mono ?_;rintro e w' ⟨rfl,g⟩));go_ret2;exact⟨gX F.symm B.symm,((Gr.refl _).alloc _ _).trans g⟩
theorem SG (op:Int)(h1:25<=op)(h2:op<=27):Told op:=by
 intro w T;have F:Hid (Dc.aJ op=4):=by
  show _=_
  unfold Dc.aJ;repeat (first|rw[dU]|rw[ak])
 have B:Hid (Dc.bK op=Dc.rowOf op 25 19 [1,5,5]):=by
  show _=_
  unfold Dc.bK;repeat (first|rw[dU]|rw[ak])
 have e1:(op ==1)=false:=by simp;omega
 have e2:(op ==2)=false:=by simp;omega
 have e3:(op ==3)=false:=by simp;omega
 have e4:(op ==4)=false:=by simp;omega
 have e57:(op ==57)=false:=by simp;omega
 have e58:(op ==58)=false:=by simp;omega
 have e59:(op ==59)=false:=by simp;omega
 go_enter func27,ntmps27;go_wp2_with (first|(go_at_call 61;first|(refine(aF _ _ _ _ ab).mono ?_;rintro e w' ⟨rfl,rfl⟩)|(refine(ai _ _ _ _ ab).mono ?_;rintro e w' ⟨rfl,rfl⟩))|(go_at_call 60;refine(gW _ _ _ _ [1,5,5] _ (T.of ((Gr.refl _).alloc _ _)) (dQ _ [1,5,5] _) an ab (by simp<;>omega) ab ab ab ab ab an).mono ?_;rintro e w' ⟨rfl,g⟩));go_ret2;exact⟨gX F.symm B.symm,((Gr.refl _).alloc _ _).trans g⟩
theorem SI (op:Int)(h1:28<=op)(h2:op<=37):Told op:=by
 intro w T;have F:Hid (Dc.aJ op=7):=by
  show _=_
  unfold Dc.aJ;repeat (first|rw[dU]|rw[ak])
 have B:Hid (Dc.bK op=Dc.rowOf op 28 51 [0,0,1,2,3,4,5,5,6,7]):=by
  show _=_
  unfold Dc.bK;repeat (first|rw[dU]|rw[ak])
 have e1:(op ==1)=false:=by simp;omega
 have e2:(op ==2)=false:=by simp;omega
 have e3:(op ==3)=false:=by simp;omega
 have e4:(op ==4)=false:=by simp;omega
 have e57:(op ==57)=false:=by simp;omega
 have e58:(op ==58)=false:=by simp;omega
 have e59:(op ==59)=false:=by simp;omega
 go_enter func27,ntmps27;go_wp2_with (first|(go_at_call 61;first|(refine(aF _ _ _ _ ab).mono ?_;rintro e w' ⟨rfl,rfl⟩)|(refine(ai _ _ _ _ ab).mono ?_;rintro e w' ⟨rfl,rfl⟩))|(go_at_call 60;refine(gW _ _ _ _ [0,0,1,2,3,4,5,5,6,7] _ (T.of ((Gr.refl _).alloc _ _)) (dQ _ [0,0,1,2,3,4,5,5,6,7] _) an ab (by simp<;>omega) ab ab ab ab ab an).mono ?_;rintro e w' ⟨rfl,g⟩));go_ret2;exact⟨gX F.symm B.symm,((Gr.refl _).alloc _ _).trans g⟩
theorem SK (op:Int)(h1:38<=op)(h2:op<=45):Told op:=by
 intro w T;have F:Hid (Dc.aJ op=7):=by
  show _=_
  unfold Dc.aJ;repeat (first|rw[dU]|rw[ak])
 have B:Hid (Dc.bK op=Dc.rowOf op 38 51 [0,1,2,3,4,5,6,7]):=by
  show _=_
  unfold Dc.bK;repeat (first|rw[dU]|rw[ak])
 have e1:(op ==1)=false:=by simp;omega
 have e2:(op ==2)=false:=by simp;omega
 have e3:(op ==3)=false:=by simp;omega
 have e4:(op ==4)=false:=by simp;omega
 have e57:(op ==57)=false:=by simp;omega
 have e58:(op ==58)=false:=by simp;omega
 have e59:(op ==59)=false:=by simp;omega
 go_enter func27,ntmps27;go_wp2_with (first|(go_at_call 61;first|(refine(aF _ _ _ _ ab).mono ?_;rintro e w' ⟨rfl,rfl⟩)|(refine(ai _ _ _ _ ab).mono ?_;rintro e w' ⟨rfl,rfl⟩))|(go_at_call 60;refine(gW _ _ _ _ [0,1,2,3,4,5,6,7] _ (T.of ((Gr.refl _).alloc _ _)) (dQ _ [0,1,2,3,4,5,6,7] _) an ab (by simp<;>omega) ab ab ab ab ab an).mono ?_;rintro e w' ⟨rfl,g⟩));go_ret2;exact⟨gX F.symm B.symm,((Gr.refl _).alloc _ _).trans g⟩
theorem SL (op:Int)(h1:46<=op)(h2:op<=56):Told op:=by
 intro w T;have F:Hid (Dc.aJ op=8):=by
  show _=_
  unfold Dc.aJ;repeat (first|rw[dU]|rw[ak])
 have B:Hid (Dc.bK op=Dc.rowOf op op 47 [2]):=by
  show _=_
  unfold Dc.bK;repeat (first|rw[dU]|rw[ak])
 have e1:(op ==1)=false:=by simp;omega
 have e2:(op ==2)=false:=by simp;omega
 have e3:(op ==3)=false:=by simp;omega
 have e4:(op ==4)=false:=by simp;omega
 have e57:(op ==57)=false:=by simp;omega
 have e58:(op ==58)=false:=by simp;omega
 have e59:(op ==59)=false:=by simp;omega
 go_enter func27,ntmps27;go_wp2_with (first|(go_at_call 61;first|(refine(aF _ _ _ _ ab).mono ?_;rintro e w' ⟨rfl,rfl⟩)|(refine(ai _ _ _ _ ab).mono ?_;rintro e w' ⟨rfl,rfl⟩))|(go_at_call 60;refine(gW _ _ _ _ [2] _ (T.of ((Gr.refl _).alloc _ _)) (dQ _ [2] _) an ab (by simp<;>omega) ab ab ab ab ab an).mono ?_;rintro e w' ⟨rfl,g⟩));go_ret2;exact⟨gX F.symm B.symm,((Gr.refl _).alloc _ _).trans g⟩
theorem SN:Told 57:=by intro w T;go_enter func27,ntmps27;go_wp2_with (first|(go_at_call 61;first|(refine(aF _ _ _ _ ab).mono ?_;rintro e w' ⟨rfl,rfl⟩)|(refine(ai _ _ _ _ ab).mono ?_;rintro e w' ⟨rfl,rfl⟩))|(go_at_call 60;refine(gW 57 57 15 _ [0] _ (T.of ((Gr.refl _).alloc _ _)) (dQ _ [0] _) an ab (by simp<;>omega) ab ab ab ab ab an).mono ?_;rintro e w' ⟨rfl,g⟩));go_ret2;exact⟨rfl,((Gr.refl _).alloc _ _).trans g⟩
theorem YL:Told 1:=by intro w T;go_enter func27,ntmps27;go_wp2_with fail;go_ret2;exact⟨rfl,Gr.refl _⟩
theorem YM:Told 2:=by intro w T;go_enter func27,ntmps27;go_wp2_with fail;go_ret2;exact⟨rfl,Gr.refl _⟩
theorem YN:Told 3:=by intro w T;go_enter func27,ntmps27;go_wp2_with fail;go_ret2;exact⟨rfl,Gr.refl _⟩
theorem SQ:Told 58:=by intro w T;go_enter func27,ntmps27;go_wp2_with (go_at_call 61;(refine(ai _ _ _ _ ab).mono ?_;rintro e w' ⟨rfl,rfl⟩));go_ret2;exact⟨rfl,Gr.refl _⟩
theorem SS:Told 59:=by intro w T;go_enter func27,ntmps27;go_wp2_with (go_at_call 61;(refine(ai _ _ _ _ ab).mono ?_;rintro e w' ⟨rfl,rfl⟩));go_ret2;exact⟨rfl,Gr.refl _⟩
theorem told_none (op:Int)(h:op<1\/59<op):Told op:=by
 intro w T;have F:Hid (Dc.aJ op=0):=by
  show _=_
  unfold Dc.aJ;repeat (first|rw[dU]|rw[ak])
 have B:Hid (Dc.bK op=0):=by
  show _=_
  unfold Dc.bK;repeat (first|rw[ak])
 have e1:(op ==1)=false:=by simp;omega
 have e2:(op ==2)=false:=by simp;omega
 have e3:(op ==3)=false:=by simp;omega
 have e4:(op ==4)=false:=by simp;omega
 have e57:(op ==57)=false:=by simp;omega
 have e58:(op ==58)=false:=by simp;omega
 have e59:(op ==59)=false:=by simp;omega
 go_enter func27,ntmps27;go_wp2_with (go_at_call 61;(refine(ai _ _ _ _ ab).mono ?_;rintro e w' ⟨rfl,rfl⟩));go_ret2;exact⟨gX F.symm B.symm,Gr.refl _⟩
theorem pI (op:Int):Told op:=by
 by_cases h0:op<1\/59<op
 ·exact told_none op h0
 by_cases e1:op=1
 ·subst e1;exact YL
 by_cases e2:op=2
 ·subst e2;exact YM
 by_cases e3:op=3
 ·subst e3;exact YN
 by_cases e58:op=58
 ·subst e58;exact SQ
 by_cases e59:op=59
 ·subst e59;exact SS
 by_cases h4:op<=4
 ·exact YJ op ab h4
 by_cases h5:op<=10
 ·exact YK op ab h5
 by_cases h11:op<=15
 ·exact SC op ab h11
 by_cases h16:op<=18
 ·exact SE op ab h16
 by_cases h19:op<=24
 ·exact SF op ab h19
 by_cases h25:op<=27
 ·exact SG op ab h25
 by_cases h28:op<=37
 ·exact SI op ab h28
 by_cases h38:op<=45
 ·exact SK op ab h38
 by_cases h46:op<=56
 ·exact SL op ab h46
 obtain rfl:op=57:=ab;exact SN
theorem MI (a:Int)(w:World)(h0:0<=a)(h1:a<4294967296):Calls prog 26 #[.int .u32 a] w fun e w'=>e=.returned (.tuple #[.int .i64 (Dc.sp1 (a%128)),.int .i64 (Dc.sp2 (a%128))])/\w'=w:=by
 have B:=(eX a 127 h0 h1 ab ab).trans (Dc.WA h0 h1);by_cases e55:a%128=55
 ·have b55:(a%128 ==55)=true:=by simp[e55]
  have S1:Hid (Dc.sp1 (a%128)=1):=by show _=_;rw[e55];rfl
  have S2:Hid (Dc.sp2 (a%128)=1):=by show _=_;rw[e55];rfl
  go_enter func26,ntmps26;go_wp2;go_ret2;rw[S1.out,S2.out];exact⟨rfl,rfl⟩
 have b55:(a%128 ==55)=false:=by simp[e55]
 by_cases e23:a%128=23
 ·have b23:(a%128 ==23)=true:=by simp[e23]
  have S1:Hid (Dc.sp1 (a%128)=2):=by show _=_;rw[e23];rfl
  have S2:Hid (Dc.sp2 (a%128)=2):=by show _=_;rw[e23];rfl
  go_enter func26,ntmps26;go_wp2;go_ret2;rw[S1.out,S2.out];exact⟨rfl,rfl⟩
 have b23:(a%128 ==23)=false:=by simp[e23]
 by_cases IJ:a%128=111
 ·have agx:(a%128 ==111)=true:=by simp[IJ]
  have S1:Hid (Dc.sp1 (a%128)=3):=by show _=_;rw[IJ];rfl
  have S2:Hid (Dc.sp2 (a%128)=3):=by show _=_;rw[IJ];rfl
  go_enter func26,ntmps26;go_wp2;go_ret2;rw[S1.out,S2.out];exact⟨rfl,rfl⟩
 have agx:(a%128 ==111)=false:=by simp[IJ]
 by_cases IK:a%128=103
 ·have agy:(a%128 ==103)=true:=by simp[IK]
  have S1:Hid (Dc.sp1 (a%128)=4):=by show _=_;rw[IK];rfl
  have S2:Hid (Dc.sp2 (a%128)=4):=by show _=_;rw[IK];rfl
  go_enter func26,ntmps26;go_wp2;go_ret2;rw[S1.out,S2.out];exact⟨rfl,rfl⟩
 have agy:(a%128 ==103)=false:=by simp[IK]
 by_cases e99:a%128=99
 ·have b99:(a%128 ==99)=true:=by simp[e99]
  have S1:Hid (Dc.sp1 (a%128)=5):=by show _=_;rw[e99];rfl
  have S2:Hid (Dc.sp2 (a%128)=10):=by show _=_;rw[e99];rfl
  go_enter func26,ntmps26;go_wp2;go_ret2;rw[S1.out,S2.out];exact⟨rfl,rfl⟩
 have b99:(a%128 ==99)=false:=by simp[e99]
 by_cases e3:a%128=3
 ·have b3:(a%128 ==3)=true:=by simp[e3]
  have S1:Hid (Dc.sp1 (a%128)=11):=by show _=_;rw[e3];rfl
  have S2:Hid (Dc.sp2 (a%128)=15):=by show _=_;rw[e3];rfl
  go_enter func26,ntmps26;go_wp2;go_ret2;rw[S1.out,S2.out];exact⟨rfl,rfl⟩
 have b3:(a%128 ==3)=false:=by simp[e3]
 by_cases e35:a%128=35
 ·have b35:(a%128 ==35)=true:=by simp[e35]
  have S1:Hid (Dc.sp1 (a%128)=16):=by show _=_;rw[e35];rfl
  have S2:Hid (Dc.sp2 (a%128)=18):=by show _=_;rw[e35];rfl
  go_enter func26,ntmps26;go_wp2;go_ret2;rw[S1.out,S2.out];exact⟨rfl,rfl⟩
 have b35:(a%128 ==35)=false:=by simp[e35]
 by_cases e19:a%128=19
 ·have b19:(a%128 ==19)=true:=by simp[e19]
  have S1:Hid (Dc.sp1 (a%128)=19):=by show _=_;rw[e19];rfl
  have S2:Hid (Dc.sp2 (a%128)=27):=by show _=_;rw[e19];rfl
  go_enter func26,ntmps26;go_wp2;go_ret2;rw[S1.out,S2.out];exact⟨rfl,rfl⟩
 have b19:(a%128 ==19)=false:=by simp[e19]
 by_cases e51:a%128=51
 ·have b51:(a%128 ==51)=true:=by simp[e51]
  have S1:Hid (Dc.sp1 (a%128)=28):=by show _=_;rw[e51];rfl
  have S2:Hid (Dc.sp2 (a%128)=45):=by show _=_;rw[e51];rfl
  go_enter func26,ntmps26;go_wp2;go_ret2;rw[S1.out,S2.out];exact⟨rfl,rfl⟩
 have b51:(a%128 ==51)=false:=by simp[e51]
 by_cases e47:a%128=47
 ·have b47:(a%128 ==47)=true:=by simp[e47]
  have S1:Hid (Dc.sp1 (a%128)=46):=by show _=_;rw[e47];rfl
  have S2:Hid (Dc.sp2 (a%128)=56):=by show _=_;rw[e47];rfl
  go_enter func26,ntmps26;go_wp2;go_ret2;rw[S1.out,S2.out];exact⟨rfl,rfl⟩
 have b47:(a%128 ==47)=false:=by simp[e47]
 by_cases e15:a%128=15
 ·have b15:(a%128 ==15)=true:=by simp[e15]
  have S1:Hid (Dc.sp1 (a%128)=57):=by show _=_;rw[e15];rfl
  have S2:Hid (Dc.sp2 (a%128)=57):=by show _=_;rw[e15];rfl
  go_enter func26,ntmps26;go_wp2;go_ret2;rw[S1.out,S2.out];exact⟨rfl,rfl⟩
 have b15:(a%128 ==15)=false:=by simp[e15]
 by_cases e115:a%128=115
 ·have agz:(a%128 ==115)=true:=by simp[e115]
  have S1:Hid (Dc.sp1 (a%128)=58):=by show _=_;rw[e115];rfl
  have S2:Hid (Dc.sp2 (a%128)=59):=by show _=_;rw[e115];rfl
  go_enter func26,ntmps26;go_wp2;go_ret2;rw[S1.out,S2.out];exact⟨rfl,rfl⟩
 have agz:(a%128 ==115)=false:=by simp[e115]
 have S1:Hid (Dc.sp1 (a%128)=0):=by show _=_;unfold Dc.sp1;simp[e55,e23,IJ,IK,e99,e3,e35,e19,e51,e47,e15,e115]
 have S2:Hid (Dc.sp2 (a%128) = -1):=by show _=_;unfold Dc.sp2;simp[e55,e23,IJ,IK,e99,e3,e35,e19,e51,e47,e15,e115]
 go_enter func26,ntmps26;go_wp2;go_ret2;rw[S1.out,S2.out];exact⟨rfl,rfl⟩
end Dw
namespace Dw
variable{u s:Int}{p:Nat->Int×Int×Int}
theorem YO (n x:Int)(i:Nat)(h0:0<=n)(hx:0<=x)(hm:n%2^i=0)(hl:x<2^i)(hb:n+x<4294967296):bits .or .u32 n x=n+x:=by
 rw[cO n x h0 ab hx ab];have e:n=n/2^i*2^i:=by
  have:=Int.mul_ediv_add_emod n (2^i);rw[hm,Int.mul_comm]at this;omega
 have hn:0<=n/2^i:=ary h0 (Int.pow_nonneg ab);have:=YI x (n/2^i) i hx hn hl;rwa[<-e]at this
theorem acV (a:Int)(h0:0<=a)(h1:a<4294967296):0=Dc.bS 0 a:=rfl
theorem acW (a:Int)(h0:0<=a)(h1:a<4294967296):wrap32 (a/4096*4096)=Dc.bS 1 a:=by
 show _=Wd.sg a-a%4096
 unfold wrap32 Wd.sg;split<;>omega
theorem acX (a:Int)(h0:0<=a)(h1:a<4294967296):wrap32 ((a/2147483648*1048576+a/4096%256*4096+a/1048576%2*2048+a/2097152%1024*2)*2048)/2048=Dc.bS 2 a:=by
 show _=Dc.iT 1048576 (a/2147483648*1048576+a/4096%256*4096+a/1048576%2*2048+a/2097152%1024*2)
 unfold wrap32 Dc.iT;split<;>omega
theorem acY (a:Int)(h0:0<=a)(h1:a<4294967296):wrap32 (a/1048576*1048576)/1048576=Dc.bS 3 a:=by
 show _=Dc.iT 2048 (a/1048576)
 unfold wrap32 Dc.iT;split<;>omega
theorem acZ (a:Int)(h0:0<=a)(h1:a<4294967296):a/1048576%32=Dc.bS 4 a:=rfl
theorem ac0 (a:Int)(h0:0<=a)(h1:a<4294967296):wrap32 ((a/2147483648*4096+a/128%2*2048+a/33554432%64*32+a/256%16*2)*524288)/524288=Dc.bS 5 a:=by
 show _=Dc.iT 4096 (a/2147483648*4096+a/128%2*2048+a/33554432%64*32+a/256%16*2)
 unfold wrap32 Dc.iT;split<;>omega
theorem ac1 (a:Int)(h0:0<=a)(h1:a<4294967296):wrap32 ((a/33554432*32+a/128%32)*1048576)/1048576=Dc.bS 6 a:=by
 show _=Dc.iT 2048 (a/33554432*32+a/128%32)
 unfold wrap32 Dc.iT;split<;>omega
theorem ac2 (a:Int)(h0:0<=a)(h1:a<4294967296):0=Dc.bS 7 a:=rfl
theorem ac3 (a:Int)(h0:0<=a)(h1:a<4294967296):a/33554432%4=Dc.bS 8 a:=rfl
theorem ac4 (a:Int)(h0:0<=a)(h1:a<4294967296):0=Dc.bS 9 a:=rfl
theorem qN (a b c:Int):Wd.rW (Wd.rW a b) c=Wd.rW a (Wd.rW b c):=by unfold Wd.rW;rw[apG,apG,Nat.or_assoc]
theorem SX (n y i c:Nat)(hz:n/2^i%2^c=0)(hy:y<2^c):n |||y*2^i=n+y*2^i:=by
 have e1:n=n/2 ^ (i+c)*2 ^ (i+c)+n%2^i:=by
  have a1:=arw n (2^i);have a2:=arw (n/2^i) (2^c);rw[Nat.div_div_eq_div_mul,<-Nat.pow_add,hz,aqt]at a2;rw[<-a2,<-Nat.mul_assoc,<-Nat.pow_add,aqH]at a1;exact a1.symm
 have hl:n%2^i<2^i:=Nat.mod_lt _ (aq4 _);generalize n%2^i=l at *
 generalize n/2 ^ (i+c)=h at *
 have hx:y*2^i+l<2 ^ (i+c):=by
  have:(y+1)*2^i<=2^c*2^i:=aqQ _ hy;rw[Nat.add_mul,Nat.one_mul]at this;rw[Nat.pow_add,aqH (2^i)];omega
 have hl':l<2 ^ (i+c):=ab;rw[e1,<-Dc.jA l h (i+c) hl',Nat.or_assoc,arB l,Dc.jA l y i hl,Dc.jA _ h (i+c) hx,Dc.jA l h (i+c) hl'];omega
theorem iX (n y:Int)(i c:Nat)(h0:0<=n)(hy:0<=y)(hz:n/2^i%2^c=0)(hl:y<2^c):Wd.rW n (y*2^i)=n+y*2^i:=by
 obtain⟨n,rfl⟩:=apt h0;obtain⟨y,rfl⟩:=apt hy;have p1:((2:Int) ^ i)=((2^i:Nat):Int):=aq;have p2:((2:Int) ^ c)=((2^c:Nat):Int):=aq;rw[p1,p2]at hz;rw[p2]at hl;have hz':n/2^i%2^c=0:=by exact_mod_cast hz
 have:=SX n y i c hz' ab;rw[p1];unfold Wd.rW;rw[show(y:Int)*((2^i:Nat):Int)=((y*2^i:Nat):Int)by simp,apG,apG,this];omega
theorem oz (n y:Int)(i c:Nat)(h0:0<=n)(hy:0<=y)(hz:n/2^i%2^c=0)(hl:y<2^c)(hb:n<4294967296)(hx:y*2^i<4294967296)(hx0:0<=y*2^i):bits .or .u32 n (y*2^i)=n+y*2^i:=by rw[cO n _ h0 hb hx0 hx];exact iX n y i c h0 hy hz hl
theorem z_2 (x y z:Int)(a1:0<=x)(a2:x<2)(b1:0<=y)(b2:y<256)(c1:0<=z)(c2:z<2):(x*2147483648+y*4096+z*1048576)/2^21%2^10=0:=by
 have:(x*2147483648+y*4096+z*1048576)/2^21=x*1024:=ab;rw[this];omega
theorem z_5 (x y z:Int)(a1:0<=x)(a2:x<2)(b1:0<=y)(b2:y<2)(c1:0<=z)(c2:z<64):(x*2147483648+y*128+z*33554432)/2^8%2^4=0:=by
 have:(x*2147483648+y*128+z*33554432)/2^8=x*8388608+z*131072:=ab;rw[this];omega
def gY (f:Int):Prop:=∀(a:Int) (w:World),nK w->0<=a->a<4294967296->Calls prog 62 #[.int .i64 f,.int .u32 a] w fun e w'=>e=.returned (.int .i32 (Dc.bS f a))/\Gr w w'
def kX (u:Int) (p:Nat→Int×Int×Int):Nat→Int
 |0=>0
 |j+1=>bits .or .u32 (kX u p j) (u/2 ^ (p j).1.toNat%2 ^ (p j).2.1.toNat*2 ^ (p j).2.2.toNat%4294967296)
theorem aB (h:kX u p j=s)(hs:0<=s/\s<4294967296)(hc:(p j).2.1=0):kX u p (j+1)=s:=by
 rw[kX,h,hc];have e:u/2 ^ (p j).1.toNat%2 ^ (0:Int).toNat*2 ^ (p j).2.2.toNat%4294967296=0*2^0:=by
  rw[show(2:Int) ^ (0:Int).toNat=1 from rfl,Int.emod_one,Int.zero_mul];rfl
 rw[e,oz s 0 0 0 hs.1 ab ab ab hs.2 ab ab];omega
theorem bC (h:kX u p j=s)(b c a:Nat)(hp:p j=((b:Int),(c:Int),(a:Int)))(hs:0<=s/\s<4294967296)(hz:s/2^a%2^c=0)(hc:(2:Int) ^ c*2^a<=4294967296)(h2:(0:Int)<2^a)(h3:(0:Int)<2^c):kX u p (j+1)=s+u/2^b%2^c*2^a:=by
 rw[kX,h,hp];simp only[apG];have y0:0<=u/2^b%2^c:=Int.emod_nonneg _ ab;have y1:u/2^b%2^c<2^c:=Int.emod_lt_of_pos _ h3;generalize u/2^b%2^c=y at *
 have y2:0<=y*2^a:=Int.mul_nonneg y0 ab;have y3:y*2^a<4294967296:=Int.lt_of_lt_of_le (Int.mul_lt_mul_of_pos_right y1 h2) hc;rw[aqr y2 y3,oz s y a c hs.1 y0 hz y1 hs.2 y3 y2]
def twelve (q:Nat->Int):Array Value:=#[.int .i64 (q 0),.int .i64 (q 1),.int .i64 (q 2),.int .i64 (q 3),.int .i64 (q 4),.int .i64 (q 5),.int .i64 (q 6),.int .i64 (q 7),.int .i64 (q 8),.int .i64 (q 9),.int .i64 (q 10),.int .i64 (q 11)]
theorem WU (q:Nat→Int)(w:World):∀j,j<4→(Instr.index 101 (.agg (twelve q)) (.int .i64 (j:Nat))).run prog w=.ok (.agg #[.int .i64 (q (3*j)),.int .i64 (q (3*j+1)),.int .i64 (q (3*j+2))]) w
 |0,_=>al
 |1,_=>al
 |2,_=>al
 |3,_=>al
 |j+4,h=>absurd h ab
def oC (k i:Nat):Int:=(pieces k).getD i 0
theorem YP (k:Nat)(hk:k<10)(i:Nat)(hi:i<12):shapes[k*17+4+i]?=some (.int .i64 (oC k i)):=by
 have hk':k=0\/k=1\/k=2\/k=3\/k=4\/k=5\/k=6\/k=7\/k=8\/k=9:=ab;have hi':i=0\/i=1\/i=2\/i=3\/i=4\/i=5\/i=6\/i=7\/i=8\/i=9\/i=10\/i=11:=ab;rcases hk' with rfl|rfl|rfl|rfl|rfl|rfl|rfl|rfl|rfl|rfl<;>rcases hi' with rfl|rfl|rfl|rfl|rfl|rfl|rfl|rfl|rfl|rfl|rfl|rfl<;>rfl
theorem MJ (k:Nat)(hk:k<10):shapes[k*17+16]?=some (.int .i64 (spare k))/\0<=spare k/\spare k<=31:=by
 have hk':k=0\/k=1\/k=2\/k=3\/k=4\/k=5\/k=6\/k=7\/k=8\/k=9:=ab;rcases hk' with rfl|rfl|rfl|rfl|rfl|rfl|rfl|rfl|rfl|rfl<;>exact⟨rfl,an,an⟩
theorem MK (k:Nat)(hk:k<10)(i:Nat):0<=oC k i/\oC k i<=31:=by
 have h:∀x∈pieces k,0<=x/\x<=31:=by
  have hk':k=0\/k=1\/k=2\/k=3\/k=4\/k=5\/k=6\/k=7\/k=8\/k=9:=ab;rcases hk' with rfl|rfl|rfl|rfl|rfl|rfl|rfl|rfl|rfl|rfl<;>decide
 unfold oC;rw[apV];cases e:(pieces k)[i]? with
 |none=>simp
 |some x=>exact h x (aps e)
theorem FT (hk:k<10)(T:nK w):w.rangeAt 0 (k*17+4) (twelve (oC k)).toList:=fun j v hv=>by
 have hj:j<12:=(apj.1 hv).1;have:(twelve (oC k)).toList[j]?=some (.int .i64 (oC k j)):=by
  have hj':j=0\/j=1\/j=2\/j=3\/j=4\/j=5\/j=6\/j=7\/j=8\/j=9\/j=10\/j=11:=ab;rcases hj' with rfl|rfl|rfl|rfl|rfl|rfl|rfl|rfl|rfl|rfl|rfl|rfl<;>rfl
 rw[this]at hv;injection hv with hv;rw[<-hv];exact T.shapes _ _ (YP k hk j hj)
theorem ML (x:Int):wrap32 (x%4294967296)=wrap32 x:=by unfold wrap32;omega
def pR (k j:Nat):Int×Int×Int:=(oC k (3*j),oC k (3*j+2),oC k (3*j+1))
theorem jK (hk:k<10)(a:Int)(w:World)(T:nK w)(u0:0<=a)(u1:a<4294967296):Calls prog 62 #[.int .i64 k,.int .u32 a] w fun e w'=>e=.returned (.int .i32 (wrap32 (kX a (pR k) 4*2 ^ (spare k).toNat)/2 ^ (spare k).toNat))/\Gr w w':=by
 have HX:Hid (∀j,j<4->∀w:World,_):=fun j h w=>WU (oC k) w j h
 have HR:=FT hk T;have hsz:(prog.info? 101).map (·.size)=some (twelve (oC k)).toList.length:=al;have HT:=kH T;have hb:=MK k hk;obtain⟨s1,s2,s3⟩:=MJ k hk;have fO:=kH s1;have HP:Hid (∀j,kX a (pR k) (j+1)=bits .or .u32 (kX a (pR k) j) (a/2 ^ (oC k (3*j)).toNat%2 ^ (oC k (3*j+2)).toNat*2 ^ (oC k (3*j+1)).toNat%4294967296)):=fun j=>rfl
 generalize spare k=sp at *
 go_enter func62,ntmps62;go_wp2_with (refine auA rfl 101 _ rfl 0 (k*17+4) rfl (twelve (oC k)).toList _ HR underlying101 rfl hsz ?_);go_loopw [5,13] (fun s i wr=>Gr w wr/\∃j:Nat,j<=4/\i=.int .i64 j/\s=.int .u32 (kX a (pR k) j)) (fun _ i _=>4-(intOf i).toNat)
 case atStart=>exact⟨Gr.refl _,0,apF _,rfl,rfl⟩
 case round=>
  obtain⟨g,j,hj,rfl,rfl⟩:=hrel;by_cases hlt:j<4
  ·have x:=HX j hlt;obtain⟨b0,b1⟩:=hb (3*j);obtain⟨d0,d1⟩:=hb (3*j+1);obtain⟨e0,e1⟩:=hb (3*j+2);have HO:=kH (HP j);generalize kX a (pR k) j=s at *
   generalize oC k (3*j)=qa at *
   generalize oC k (3*j+1)=qb at *
   generalize oC k (3*j+2)=qc at *
   obtain⟨y,hy⟩:∃y,a/2^qa.toNat%2^qc.toNat=y:=⟨_,rfl⟩;rw[hy]at HO;have HY:=kH hy;go_wp2;refine auB al al ?_;iterate 6 go_big_quiet_step (fail)
   go_big_quiet_step (exact Calls.quiet_of (lM a qa qc y _ u0 u1 b0 b1 e0 e1 HY));iterate 5 go_big_quiet_step (fail)
   refine auO ?_;intro _ h;obtain⟨nq,h2⟩:=h;subst h2;go_wp2;go_roundw
   case rel=>exact⟨(g.alloc _ _).drewN _,j+1,ab,by go_num,by rw[HO.out]⟩
   case measure=>simp[intOf];omega
  ·have ej:j=4:=ab;subst ej;have c16:=(HT.of g).shapes _ _ fO;go_wp2;go_ret;exact⟨au (by rw[ML]),g⟩
theorem IL:gY 0:=by
 intro a w T h0 h1;refine(jK (k:=0) ab a w T h0 h1).mono fun e w' ⟨he,hg⟩=>⟨he.trans (au ?_),hg⟩
 have e0:kX a (pR 0) 0=0:=rfl;have e1:=aB e0 ⟨ab,ab⟩ rfl;have e2:=aB e1 ⟨ab,ab⟩ rfl;have e3:=aB e2 ⟨ab,ab⟩ rfl;have e4:=aB e3 ⟨ab,ab⟩ rfl;rw[e4];refine auT ?_ (acV a h0 h1);show wrap32 (_*1)/1=_
 rw[aq2,aqW];unfold wrap32;omega
theorem IM:gY 1:=by
 intro a w T h0 h1;refine(jK (k:=1) ab a w T h0 h1).mono fun e w' ⟨he,hg⟩=>⟨he.trans (au ?_),hg⟩
 have e0:kX a (pR 1) 0=0:=rfl;have e1:=bC e0 12 20 12 rfl ⟨ab,ab⟩ ab an an an;have e2:=aB e1 ⟨ab,ab⟩ rfl;have e3:=aB e2 ⟨ab,ab⟩ rfl;have e4:=aB e3 ⟨ab,ab⟩ rfl;rw[e4];refine auT ?_ (acW a h0 h1);show wrap32 (_*1)/1=_
 rw[aq2,aqW];congr 1;omega
theorem IP:gY 2:=by
 intro a w T h0 h1;refine(jK (k:=2) ab a w T h0 h1).mono fun e w' ⟨he,hg⟩=>⟨he.trans (au ?_),hg⟩
 have e0:kX a (pR 2) 0=0:=rfl;have e1:=bC e0 31 1 20 rfl ⟨ab,ab⟩ ab an an an;have e2:=bC e1 12 8 12 rfl ⟨ab,ab⟩ ab an an an;have e3:=bC e2 20 1 11 rfl ⟨ab,ab⟩ ab an an an;have e4:=bC e3 21 10 1 rfl ⟨ab,ab⟩ ab an an an;rw[e4];refine auT ?_ (acX a h0 h1);show wrap32 (_*2048)/2048=_
 congr 3;omega
theorem IQ:gY 3:=by
 intro a w T h0 h1;refine(jK (k:=3) ab a w T h0 h1).mono fun e w' ⟨he,hg⟩=>⟨he.trans (au ?_),hg⟩
 have e0:kX a (pR 3) 0=0:=rfl;have e1:=bC e0 20 12 0 rfl ⟨ab,ab⟩ ab an an an;have e2:=aB e1 ⟨ab,ab⟩ rfl;have e3:=aB e2 ⟨ab,ab⟩ rfl;have e4:=aB e3 ⟨ab,ab⟩ rfl;rw[e4];refine auT ?_ (acY a h0 h1);show wrap32 (_*1048576)/1048576=_
 congr 2;omega
theorem IU:gY 4:=by
 intro a w T h0 h1;refine(jK (k:=4) ab a w T h0 h1).mono fun e w' ⟨he,hg⟩=>⟨he.trans (au ?_),hg⟩
 have e0:kX a (pR 4) 0=0:=rfl;have e1:=bC e0 20 5 0 rfl ⟨ab,ab⟩ ab an an an;have e2:=aB e1 ⟨ab,ab⟩ rfl;have e3:=aB e2 ⟨ab,ab⟩ rfl;have e4:=aB e3 ⟨ab,ab⟩ rfl;rw[e4];refine auT ?_ (acZ a h0 h1);show wrap32 (_*1)/1=_
 rw[aq2,aqW];unfold wrap32;omega
theorem IV:gY 5:=by
 intro a w T h0 h1;refine(jK (k:=5) ab a w T h0 h1).mono fun e w' ⟨he,hg⟩=>⟨he.trans (au ?_),hg⟩
 have e0:kX a (pR 5) 0=0:=rfl;have e1:=bC e0 31 1 12 rfl ⟨ab,ab⟩ ab an an an;have e2:=bC e1 7 1 11 rfl ⟨ab,ab⟩ ab an an an;have e3:=bC e2 25 6 5 rfl ⟨ab,ab⟩ ab an an an;have e4:=bC e3 8 4 1 rfl ⟨ab,ab⟩ ab an an an;rw[e4];refine auT ?_ (ac0 a h0 h1);show wrap32 (_*524288)/524288=_
 congr 3;omega
theorem IW:gY 6:=by
 intro a w T h0 h1;refine(jK (k:=6) ab a w T h0 h1).mono fun e w' ⟨he,hg⟩=>⟨he.trans (au ?_),hg⟩
 have e0:kX a (pR 6) 0=0:=rfl;have e1:=bC e0 25 7 5 rfl ⟨ab,ab⟩ ab an an an;have e2:=bC e1 7 5 0 rfl ⟨ab,ab⟩ ab an an an;have e3:=aB e2 ⟨ab,ab⟩ rfl;have e4:=aB e3 ⟨ab,ab⟩ rfl;rw[e4];refine auT ?_ (ac1 a h0 h1);show wrap32 (_*1048576)/1048576=_
 congr 3;omega
theorem IY:gY 7:=by
 intro a w T h0 h1;refine(jK (k:=7) ab a w T h0 h1).mono fun e w' ⟨he,hg⟩=>⟨he.trans (au ?_),hg⟩
 have e0:kX a (pR 7) 0=0:=rfl;have e1:=aB e0 ⟨ab,ab⟩ rfl;have e2:=aB e1 ⟨ab,ab⟩ rfl;have e3:=aB e2 ⟨ab,ab⟩ rfl;have e4:=aB e3 ⟨ab,ab⟩ rfl;rw[e4];refine auT ?_ (ac2 a h0 h1);show wrap32 (_*1)/1=_
 rw[aq2,aqW];unfold wrap32;omega
theorem IZ:gY 8:=by
 intro a w T h0 h1;refine(jK (k:=8) ab a w T h0 h1).mono fun e w' ⟨he,hg⟩=>⟨he.trans (au ?_),hg⟩
 have e0:kX a (pR 8) 0=0:=rfl;have e1:=bC e0 25 2 0 rfl ⟨ab,ab⟩ ab an an an;have e2:=aB e1 ⟨ab,ab⟩ rfl;have e3:=aB e2 ⟨ab,ab⟩ rfl;have e4:=aB e3 ⟨ab,ab⟩ rfl;rw[e4];refine auT ?_ (ac3 a h0 h1);show wrap32 (_*1)/1=_
 rw[aq2,aqW];unfold wrap32;omega
theorem I5:gY 9:=by
 intro a w T h0 h1;refine(jK (k:=9) ab a w T h0 h1).mono fun e w' ⟨he,hg⟩=>⟨he.trans (au ?_),hg⟩
 have e0:kX a (pR 9) 0=0:=rfl;have e1:=aB e0 ⟨ab,ab⟩ rfl;have e2:=aB e1 ⟨ab,ab⟩ rfl;have e3:=aB e2 ⟨ab,ab⟩ rfl;have e4:=aB e3 ⟨ab,ab⟩ rfl;rw[e4];refine auT ?_ (ac4 a h0 h1);show wrap32 (_*1)/1=_
 rw[aq2,aqW];unfold wrap32;omega
end Dw
namespace Dw
def df (op rd bL bT jw:Int):Value:=.agg #[.int .i64 op,.int .i64 rd,.int .i64 bL,.int .i64 bT,.int .i32 jw]
theorem di {w1:World}{t:TypeId}(g:Gr (w.alloc (.cells c t)) w1):(∀i v,c[i]?=some v->w1.cell? ⟨w.heap.size,i,none⟩=some v)/\(∀i,w1.frozen? ⟨w.heap.size,i,none⟩=false)/\w.heap.size<w1.heap.size:=by
 have hs:(w.alloc (.cells c t)).heap.size=w.heap.size+1:=aq;refine⟨fun i v h=>?_,fun i=>?_,by have:=g.size;omega⟩
 ·rw[g.cell _ _ ab,World.cell?_alloc_new,h]
 ·rw[g.2,frozen?_alloc_cells];simp[World.frozen?]
theorem j3 (a:Int)(w:World)(h0:0<=a)(h1:a<4294967296):Calls prog 63 #[.int .u32 a,.int .i64 7,.int .i64 5] w fun e w'=>e=.returned (.int .u32 (a/128%32))/\∃m,w'=w.drewN m:=lM a 7 5 _ w h0 h1 ab ab ab ab rfl
theorem jb (a:Int)(w:World)(h0:0<=a)(h1:a<4294967296):Calls prog 63 #[.int .u32 a,.int .i64 15,.int .i64 5] w fun e w'=>e=.returned (.int .u32 (a/32768%32))/\∃m,w'=w.drewN m:=lM a 15 5 _ w h0 h1 ab ab ab ab rfl
theorem mW (a:Int)(w:World)(h0:0<=a)(h1:a<4294967296):Calls prog 63 #[.int .u32 a,.int .i64 20,.int .i64 5] w fun e w'=>e=.returned (.int .u32 (a/1048576%32))/\∃m,w'=w.drewN m:=lM a 20 5 _ w h0 h1 ab ab ab ab rfl
def Read (f:Int):Prop:=∀(k a:Int) (w:World),nK w->0<=a->a<4294967296->Calls prog 28 #[.int .i64 k,.int .i64 f,.int .u32 a] w fun e w'=>e=.returned (df k (Dc.iF f a) (Dc.bZ f a) (Dc.bV f a) (Dc.bS f a))/\Gr w w'
theorem YQ:Read 0:=by intro k a w T h0 h1;go_enter func28,ntmps28;go_wp2_with fail;refine(IL a _ (T.of ((Gr.refl _).alloc _ _)) h0 h1).mono ?_;rintro e w1 ⟨rfl,g⟩;have T1:=(T.of ((Gr.refl _).alloc _ _)).of g;have b0:=lt_of_cell (T1.shapes 0 _ rfl);have c1:=T1.shapes 1 _ rfl;have c2:=T1.shapes 2 _ rfl;have c3:=T1.shapes 3 _ rfl;obtain⟨f1,f2,f3⟩:=di g;have r0:=f1 0 _ rfl;have r1:=f1 1 _ rfl;have r2:=f1 2 _ rfl;have r3:=f1 3 _ rfl;have r4:=f1 4 _ rfl;have G:=kH (((Gr.refl _).alloc _ _).trans g);go_wp2_with fail;refine auc (v:=df k (Dc.iF 0 a) (Dc.bZ 0 a) (Dc.bV 0 a) (Dc.bS 0 a)) (by simp[results,results28,go_sem,r0,r1,r2,r3,r4,f3,df,Dc.iF,Dc.bZ,Dc.bV,Dc.kV,Dc.iG,Dc.iJ]) rfl ⟨rfl,?_⟩;have Z:=G;exact(((((Z.setCell aq _).setCell aq _).setCell aq _).setCell aq _).setCell aq _).alloc _ _
theorem YR:Read 1:=by intro k a w T h0 h1;go_enter func28,ntmps28;go_wp2_with fail;refine(IM a _ (T.of ((Gr.refl _).alloc _ _)) h0 h1).mono ?_;rintro e w1 ⟨rfl,g⟩;have T1:=(T.of ((Gr.refl _).alloc _ _)).of g;have b0:=lt_of_cell (T1.shapes 0 _ rfl);have c1:=T1.shapes 18 _ rfl;have c2:=T1.shapes 19 _ rfl;have c3:=T1.shapes 20 _ rfl;obtain⟨f1,f2,f3⟩:=di g;have r0:=f1 0 _ rfl;have r1:=f1 1 _ rfl;have r2:=f1 2 _ rfl;have r3:=f1 3 _ rfl;have r4:=f1 4 _ rfl;have G:=kH (((Gr.refl _).alloc _ _).trans g);go_wp2_with fail;refine(j3 a _ h0 h1).mono ?_;rintro e w' ⟨rfl,MN,rfl⟩;go_wp2_with fail;refine auc (v:=df k (Dc.iF 1 a) (Dc.bZ 1 a) (Dc.bV 1 a) (Dc.bS 1 a)) (by simp[results,results28,go_sem,r0,r1,r2,r3,r4,f3,df,Dc.iF,Dc.bZ,Dc.bV,Dc.kV,Dc.iG,Dc.iJ]) rfl ⟨rfl,?_⟩;have Z:=G;exact((((((((Z.alloc _ _).drewN _).setCell aE _).setCell aq _).setCell aq _).setCell aq _).setCell aq _).setCell aq _)
theorem YS:Read 2:=by intro k a w T h0 h1;go_enter func28,ntmps28;go_wp2_with fail;refine(IP a _ (T.of ((Gr.refl _).alloc _ _)) h0 h1).mono ?_;rintro e w1 ⟨rfl,g⟩;have T1:=(T.of ((Gr.refl _).alloc _ _)).of g;have b0:=lt_of_cell (T1.shapes 0 _ rfl);have c1:=T1.shapes 35 _ rfl;have c2:=T1.shapes 36 _ rfl;have c3:=T1.shapes 37 _ rfl;obtain⟨f1,f2,f3⟩:=di g;have r0:=f1 0 _ rfl;have r1:=f1 1 _ rfl;have r2:=f1 2 _ rfl;have r3:=f1 3 _ rfl;have r4:=f1 4 _ rfl;have G:=kH (((Gr.refl _).alloc _ _).trans g);go_wp2_with fail;refine(j3 a _ h0 h1).mono ?_;rintro e w' ⟨rfl,MN,rfl⟩;go_wp2_with fail;refine auc (v:=df k (Dc.iF 2 a) (Dc.bZ 2 a) (Dc.bV 2 a) (Dc.bS 2 a)) (by simp[results,results28,go_sem,r0,r1,r2,r3,r4,f3,df,Dc.iF,Dc.bZ,Dc.bV,Dc.kV,Dc.iG,Dc.iJ]) rfl ⟨rfl,?_⟩;have Z:=G;exact((((((((Z.alloc _ _).drewN _).setCell aE _).setCell aq _).setCell aq _).setCell aq _).setCell aq _).setCell aq _)
theorem YT:Read 3:=by intro k a w T h0 h1;go_enter func28,ntmps28;go_wp2_with fail;refine(IQ a _ (T.of ((Gr.refl _).alloc _ _)) h0 h1).mono ?_;rintro e w1 ⟨rfl,g⟩;have T1:=(T.of ((Gr.refl _).alloc _ _)).of g;have b0:=lt_of_cell (T1.shapes 0 _ rfl);have c1:=T1.shapes 52 _ rfl;have c2:=T1.shapes 53 _ rfl;have c3:=T1.shapes 54 _ rfl;obtain⟨f1,f2,f3⟩:=di g;have r0:=f1 0 _ rfl;have r1:=f1 1 _ rfl;have r2:=f1 2 _ rfl;have r3:=f1 3 _ rfl;have r4:=f1 4 _ rfl;have G:=kH (((Gr.refl _).alloc _ _).trans g);go_wp2_with fail;refine(j3 a _ h0 h1).mono ?_;rintro e w' ⟨rfl,MN,rfl⟩;go_wp2_with fail;refine(jb a _ h0 h1).mono ?_;rintro e w' ⟨rfl,AP,rfl⟩;go_wp2_with fail;refine auc (v:=df k (Dc.iF 3 a) (Dc.bZ 3 a) (Dc.bV 3 a) (Dc.bS 3 a)) (by simp[results,results28,go_sem,r0,r1,r2,r3,r4,f3,df,Dc.iF,Dc.bZ,Dc.bV,Dc.kV,Dc.iG,Dc.iJ]) rfl ⟨rfl,?_⟩;have Z:=G;exact((((((((((Z.alloc _ _).drewN _).setCell aE _).drewN _).setCell aE _).setCell aq _).setCell aq _).setCell aq _).setCell aq _).setCell aq _)
theorem YU:Read 4:=by intro k a w T h0 h1;go_enter func28,ntmps28;go_wp2_with fail;refine(IU a _ (T.of ((Gr.refl _).alloc _ _)) h0 h1).mono ?_;rintro e w1 ⟨rfl,g⟩;have T1:=(T.of ((Gr.refl _).alloc _ _)).of g;have b0:=lt_of_cell (T1.shapes 0 _ rfl);have c1:=T1.shapes 69 _ rfl;have c2:=T1.shapes 70 _ rfl;have c3:=T1.shapes 71 _ rfl;obtain⟨f1,f2,f3⟩:=di g;have r0:=f1 0 _ rfl;have r1:=f1 1 _ rfl;have r2:=f1 2 _ rfl;have r3:=f1 3 _ rfl;have r4:=f1 4 _ rfl;have G:=kH (((Gr.refl _).alloc _ _).trans g);go_wp2_with fail;refine(j3 a _ h0 h1).mono ?_;rintro e w' ⟨rfl,MN,rfl⟩;go_wp2_with fail;refine(jb a _ h0 h1).mono ?_;rintro e w' ⟨rfl,AP,rfl⟩;go_wp2_with fail;refine auc (v:=df k (Dc.iF 4 a) (Dc.bZ 4 a) (Dc.bV 4 a) (Dc.bS 4 a)) (by simp[results,results28,go_sem,r0,r1,r2,r3,r4,f3,df,Dc.iF,Dc.bZ,Dc.bV,Dc.kV,Dc.iG,Dc.iJ]) rfl ⟨rfl,?_⟩;have Z:=G;exact((((((((((Z.alloc _ _).drewN _).setCell aE _).drewN _).setCell aE _).setCell aq _).setCell aq _).setCell aq _).setCell aq _).setCell aq _)
theorem YV:Read 5:=by intro k a w T h0 h1;go_enter func28,ntmps28;go_wp2_with fail;refine(IV a _ (T.of ((Gr.refl _).alloc _ _)) h0 h1).mono ?_;rintro e w1 ⟨rfl,g⟩;have T1:=(T.of ((Gr.refl _).alloc _ _)).of g;have b0:=lt_of_cell (T1.shapes 0 _ rfl);have c1:=T1.shapes 86 _ rfl;have c2:=T1.shapes 87 _ rfl;have c3:=T1.shapes 88 _ rfl;obtain⟨f1,f2,f3⟩:=di g;have r0:=f1 0 _ rfl;have r1:=f1 1 _ rfl;have r2:=f1 2 _ rfl;have r3:=f1 3 _ rfl;have r4:=f1 4 _ rfl;have G:=kH (((Gr.refl _).alloc _ _).trans g);go_wp2_with fail;refine(jb a _ h0 h1).mono ?_;rintro e w' ⟨rfl,AP,rfl⟩;go_wp2_with fail;refine(mW a _ h0 h1).mono ?_;rintro e w' ⟨rfl,MO,rfl⟩;go_wp2_with fail;refine auc (v:=df k (Dc.iF 5 a) (Dc.bZ 5 a) (Dc.bV 5 a) (Dc.bS 5 a)) (by simp[results,results28,go_sem,r0,r1,r2,r3,r4,f3,df,Dc.iF,Dc.bZ,Dc.bV,Dc.kV,Dc.iG,Dc.iJ]) rfl ⟨rfl,?_⟩;have Z:=G;exact((((((((((Z.alloc _ _).drewN _).setCell aE _).drewN _).setCell aE _).setCell aq _).setCell aq _).setCell aq _).setCell aq _).setCell aq _)
theorem YW:Read 6:=by intro k a w T h0 h1;go_enter func28,ntmps28;go_wp2_with fail;refine(IW a _ (T.of ((Gr.refl _).alloc _ _)) h0 h1).mono ?_;rintro e w1 ⟨rfl,g⟩;have T1:=(T.of ((Gr.refl _).alloc _ _)).of g;have b0:=lt_of_cell (T1.shapes 0 _ rfl);have c1:=T1.shapes 103 _ rfl;have c2:=T1.shapes 104 _ rfl;have c3:=T1.shapes 105 _ rfl;obtain⟨f1,f2,f3⟩:=di g;have r0:=f1 0 _ rfl;have r1:=f1 1 _ rfl;have r2:=f1 2 _ rfl;have r3:=f1 3 _ rfl;have r4:=f1 4 _ rfl;have G:=kH (((Gr.refl _).alloc _ _).trans g);go_wp2_with fail;refine(jb a _ h0 h1).mono ?_;rintro e w' ⟨rfl,AP,rfl⟩;go_wp2_with fail;refine(mW a _ h0 h1).mono ?_;rintro e w' ⟨rfl,MO,rfl⟩;go_wp2_with fail;refine auc (v:=df k (Dc.iF 6 a) (Dc.bZ 6 a) (Dc.bV 6 a) (Dc.bS 6 a)) (by simp[results,results28,go_sem,r0,r1,r2,r3,r4,f3,df,Dc.iF,Dc.bZ,Dc.bV,Dc.kV,Dc.iG,Dc.iJ]) rfl ⟨rfl,?_⟩;have Z:=G;exact((((((((((Z.alloc _ _).drewN _).setCell aE _).drewN _).setCell aE _).setCell aq _).setCell aq _).setCell aq _).setCell aq _).setCell aq _)
theorem YX:Read 7:=by intro k a w T h0 h1;go_enter func28,ntmps28;go_wp2_with fail;refine(IY a _ (T.of ((Gr.refl _).alloc _ _)) h0 h1).mono ?_;rintro e w1 ⟨rfl,g⟩;have T1:=(T.of ((Gr.refl _).alloc _ _)).of g;have b0:=lt_of_cell (T1.shapes 0 _ rfl);have c1:=T1.shapes 120 _ rfl;have c2:=T1.shapes 121 _ rfl;have c3:=T1.shapes 122 _ rfl;obtain⟨f1,f2,f3⟩:=di g;have r0:=f1 0 _ rfl;have r1:=f1 1 _ rfl;have r2:=f1 2 _ rfl;have r3:=f1 3 _ rfl;have r4:=f1 4 _ rfl;have G:=kH (((Gr.refl _).alloc _ _).trans g);go_wp2_with fail;refine(j3 a _ h0 h1).mono ?_;rintro e w' ⟨rfl,MN,rfl⟩;go_wp2_with fail;refine(jb a _ h0 h1).mono ?_;rintro e w' ⟨rfl,AP,rfl⟩;go_wp2_with fail;refine(mW a _ h0 h1).mono ?_;rintro e w' ⟨rfl,MO,rfl⟩;go_wp2_with fail;refine auc (v:=df k (Dc.iF 7 a) (Dc.bZ 7 a) (Dc.bV 7 a) (Dc.bS 7 a)) (by simp[results,results28,go_sem,r0,r1,r2,r3,r4,f3,df,Dc.iF,Dc.bZ,Dc.bV,Dc.kV,Dc.iG,Dc.iJ]) rfl ⟨rfl,?_⟩;have Z:=G;exact((((((((((((Z.alloc _ _).drewN _).setCell aE _).drewN _).setCell aE _).drewN _).setCell aE _).setCell aq _).setCell aq _).setCell aq _).setCell aq _).setCell aq _)
theorem YY:Read 8:=by intro k a w T h0 h1;go_enter func28,ntmps28;go_wp2_with fail;refine(IZ a _ (T.of ((Gr.refl _).alloc _ _)) h0 h1).mono ?_;rintro e w1 ⟨rfl,g⟩;have T1:=(T.of ((Gr.refl _).alloc _ _)).of g;have b0:=lt_of_cell (T1.shapes 0 _ rfl);have c1:=T1.shapes 137 _ rfl;have c2:=T1.shapes 138 _ rfl;have c3:=T1.shapes 139 _ rfl;obtain⟨f1,f2,f3⟩:=di g;have r0:=f1 0 _ rfl;have r1:=f1 1 _ rfl;have r2:=f1 2 _ rfl;have r3:=f1 3 _ rfl;have r4:=f1 4 _ rfl;have G:=kH (((Gr.refl _).alloc _ _).trans g);go_wp2_with fail;refine(j3 a _ h0 h1).mono ?_;rintro e w' ⟨rfl,MN,rfl⟩;go_wp2_with fail;refine(jb a _ h0 h1).mono ?_;rintro e w' ⟨rfl,AP,rfl⟩;go_wp2_with fail;refine(mW a _ h0 h1).mono ?_;rintro e w' ⟨rfl,MO,rfl⟩;go_wp2_with fail;refine auc (v:=df k (Dc.iF 8 a) (Dc.bZ 8 a) (Dc.bV 8 a) (Dc.bS 8 a)) (by simp[results,results28,go_sem,r0,r1,r2,r3,r4,f3,df,Dc.iF,Dc.bZ,Dc.bV,Dc.kV,Dc.iG,Dc.iJ]) rfl ⟨rfl,?_⟩;have Z:=G;exact((((((((((((Z.alloc _ _).drewN _).setCell aE _).drewN _).setCell aE _).drewN _).setCell aE _).setCell aq _).setCell aq _).setCell aq _).setCell aq _).setCell aq _)
theorem YZ:Read 9:=by intro k a w T h0 h1;go_enter func28,ntmps28;go_wp2_with fail;refine(I5 a _ (T.of ((Gr.refl _).alloc _ _)) h0 h1).mono ?_;rintro e w1 ⟨rfl,g⟩;have T1:=(T.of ((Gr.refl _).alloc _ _)).of g;have b0:=lt_of_cell (T1.shapes 0 _ rfl);have c1:=T1.shapes 154 _ rfl;have c2:=T1.shapes 155 _ rfl;have c3:=T1.shapes 156 _ rfl;obtain⟨f1,f2,f3⟩:=di g;have r0:=f1 0 _ rfl;have r1:=f1 1 _ rfl;have r2:=f1 2 _ rfl;have r3:=f1 3 _ rfl;have r4:=f1 4 _ rfl;have G:=kH (((Gr.refl _).alloc _ _).trans g);go_wp2_with fail;refine auc (v:=df k (Dc.iF 9 a) (Dc.bZ 9 a) (Dc.bV 9 a) (Dc.bS 9 a)) (by simp[results,results28,go_sem,r0,r1,r2,r3,r4,f3,df,Dc.iF,Dc.bZ,Dc.bV,Dc.kV,Dc.iG,Dc.iJ]) rfl ⟨rfl,?_⟩;have Z:=G;exact(((((Z.setCell aq _).setCell aq _).setCell aq _).setCell aq _).setCell aq _).alloc _ _
theorem ug (f:Int)(h0:0<=f)(h1:f<=9):Read f:=by
 have h:f=0\/f=1\/f=2\/f=3\/f=4\/f=5\/f=6\/f=7\/f=8\/f=9:=ab;rcases h with rfl|rfl|rfl|rfl|rfl|rfl|rfl|rfl|rfl|rfl
 ·exact YQ
 ·exact YR
 ·exact YS
 ·exact YT
 ·exact YU
 ·exact YV
 ·exact YW
 ·exact YX
 ·exact YY
 ·exact YZ
end Dw
namespace Dw
def kP (a:Int):Value:=df (Dc.aO a) (Dc.iF (Dc.aJ (Dc.aO a)) a) (Dc.bZ (Dc.aJ (Dc.aO a)) a) (Dc.bV (Dc.aJ (Dc.aO a)) a) (Dc.bS (Dc.aJ (Dc.aO a)) a)
def fZ (a:Int):Bool:=decide (Dc.aO a≠0)
theorem j5 (h:Dc.aO a=0):kP a=df 0 0 0 0 0/\fZ a=false:=by unfold kP fZ;rw[h];exact⟨rfl,rfl⟩
theorem AQ {k:Int}(h:Dc.aO a=k)(hk:1<=k):kP a=df k (Dc.iF (Dc.aJ k) a) (Dc.bZ (Dc.aJ k) a) (Dc.bV (Dc.aJ k) a) (Dc.bS (Dc.aJ k) a)/\fZ a=true:=by unfold kP fZ;rw[h];exact⟨rfl,aE⟩
theorem ac5 (lo:Int):(1<=Dc.sp1 lo\/Dc.sp2 lo = -1)/\0<=Dc.sp1 lo/\Dc.sp1 lo<=58 /\ -1<=Dc.sp2 lo/\Dc.sp2 lo<=59/\Dc.sp1 lo<=Dc.sp2 lo+1:=by
 unfold Dc.sp1 Dc.sp2;by_cases h1:lo=55
 ·simp[h1]
 by_cases h2:lo=23
 ·simp[h2]
 by_cases h3:lo=111
 ·simp[h3]
 by_cases h4:lo=103
 ·simp[h4]
 by_cases h5:lo=99
 ·simp[h5]
 by_cases h6:lo=3
 ·simp[h6]
 by_cases h7:lo=35
 ·simp[h7]
 by_cases h8:lo=19
 ·simp[h8]
 by_cases h9:lo=51
 ·simp[h9]
 by_cases h10:lo=47
 ·simp[h10]
 by_cases h11:lo=15
 ·simp[h11]
 by_cases h12:lo=115
 ·simp[h12]
 simp[h1,h2,h3,h4,h5,h6,h7,h8,h9,h10,h11,h12]
theorem SY (f:Int):0<=Dc.mask f/\Dc.mask f<4294967296:=by
 unfold Dc.mask;repeat' split
 all_goals omega
theorem I6 (T:nK w)(f:Int)(h0:0<=f)(h1:f<=9):w.cell? ⟨0,f.toNat*17,none⟩=some (.int .u32 (Dc.mask f)):=by
 have h:f=0\/f=1\/f=2\/f=3\/f=4\/f=5\/f=6\/f=7\/f=8\/f=9:=ab;rcases h with rfl|rfl|rfl|rfl|rfl|rfl|rfl|rfl|rfl|rfl
 ·exact T.shapes 0 _ rfl
 ·exact T.shapes 17 _ rfl
 ·exact T.shapes 34 _ rfl
 ·exact T.shapes 51 _ rfl
 ·exact T.shapes 68 _ rfl
 ·exact T.shapes 85 _ rfl
 ·exact T.shapes 102 _ rfl
 ·exact T.shapes 119 _ rfl
 ·exact T.shapes 136 _ rfl
 ·exact T.shapes 153 _ rfl
theorem MQ {s1 s2:Int}(h0:0<=a)(h1:a<4294967296)(e1:Dc.sp1 (a%128)=s1)(e2:Dc.sp2 (a%128)=s2)(h:∀j,s1<=j->j<=s2->Dc.raw a≠j):Dc.aO a=0:=by
 have:Dc.raw a=0:=by
  by_cases hr:Dc.raw a=0
  ·exact hr
  ·have:=Dc.sW h0 h1 hr;exact absurd rfl (h (Dc.raw a) ab ab)
 unfold Dc.aO;rw[this];rfl
theorem jh (a:Int)(w:World)(T:nK w)(h0:0<=a)(h1:a<4294967296):Calls prog 14 #[.int .u32 a] w fun e w'=>e=.returned (.tuple #[kP a,.bool (fZ a)])/\Gr w w':=by
 have hs:=ac5 (a%128);go_enter func14,ntmps14;go_wp2_with fail;refine(MI a _ h0 h1).mono ?_;rintro e w' ⟨rfl,rfl⟩;have E1:Hid (Dc.sp1 (a%128)=Dc.sp1 (a%128)):=rfl;have E2:Hid (Dc.sp2 (a%128)=Dc.sp2 (a%128)):=rfl;go_wp2_with fail;generalize hs1:Dc.sp1 (a%128)=s1 at *
 generalize hs2:Dc.sp2 (a%128)=s2 at *
 have H1:=kH hs1;have H2:=kH hs2;obtain⟨p1,p2,p3,p4,p5,p6⟩:=hs;go_loopw [6] (fun i wr=>∃k:Int,i=.int .i64 k/\s1<=k/\k<=s2+1/\(∀j,s1<=j->j<k->Dc.raw a≠j)/\Gr (w.alloc (.cells #[.int .i64 0,.int .i64 0,.int .i64 0,.int .i64 0,.int .i32 0] 59)) wr) (fun i _=>(s2+1-intOf i).toNat)
 case atStart=>exact⟨s1,rfl,ab,ab,fun j _ _=>ab,Gr.refl _⟩
 case round=>
  obtain⟨k,rfl,k1,k2,k3,g⟩:=hrel;obtain⟨f1,f2,f3⟩:=di g;have r0:=f1 0 _ rfl;have r1:=f1 1 _ rfl;have r2:=f1 2 _ rfl;have r3:=f1 3 _ rfl;have r4:=f1 4 _ rfl;have T1:=(T.of ((Gr.refl _).alloc _ _)).of g;have G:=kH (((Gr.refl _).alloc _ _).trans g);have G1:=kH g;by_cases hk:k<=s2
  ·have Y0:=Dc.Lb k;have hti:=Dc.Ld (w:=a) (k:=k) h0 h1 ab ab;have hmb:=SY (Dc.aJ k);have hb:=eX a (Dc.mask (Dc.aJ k)) h0 h1 hmb.1 hmb.2;rw[<-hb]at hti;have HT:=kH hti;have K3:=kH k3;go_wp2_with fail;refine(pI k _ T1).mono ?_;rintro e w2 ⟨rfl,g2⟩;have m0:=I6 (T1.of g2) (Dc.aJ k) Y0.1 Y0.2;have G2:=kH (G1.trans g2);have T2:=T1.of g2;by_cases hr:Dc.raw a=k
   ·have nb:(bits .and .u32 a (Dc.mask (Dc.aJ k)) !=Dc.bK k)=false:=by simp[HT.out.2 hr]
    have HR:Hid (Dc.raw a=k):=hr;go_wp2_with fail;refine(ug (Dc.aJ k) Y0.1 Y0.2 k a w2 T2 h0 h1).mono ?_;rintro e w3 ⟨rfl,g3⟩;unfold df;have g:=G2.trans g3;obtain⟨f1,f2,f3⟩:=di g;have r0:=f1 0 _ rfl;have r1:=f1 1 _ rfl;have r2:=f1 2 _ rfl;have r3:=f1 3 _ rfl;have r4:=f1 4 _ rfl;have G:=kH (((Gr.refl _).alloc _ _).trans g);by_cases ac6:k=46
    ·subst ac6;by_cases hz:a/1048576%32=0
     ·obtain⟨WV,WW⟩:=AQ (a:=a) (k:=46) (by unfold Dc.aO;rw[HR.out,ak]) ab;have DV:=kH WV;have DO:=kH WW;have hz':Dc.bV (Dc.aJ 46) a=0:=hz;go_wp2_with fail;refine auc (v:=.tuple #[df 46 (Dc.iF (Dc.aJ 46) a) (Dc.bZ (Dc.aJ 46) a) (Dc.bV (Dc.aJ 46) a) (Dc.bS (Dc.aJ 46) a),.bool true]) (by simp[results,results14,go_sem,r0,r1,r2,r3,r4,f3,df,hz']) rfl ⟨by rw[DV.out,DO.out],?_⟩;exact(((((G.setCell aq _).setCell aq _).setCell aq _).setCell aq _).setCell aq _).alloc _ _
     ·obtain⟨WV,WW⟩:=j5 (a:=a) (by unfold Dc.aO;rw[HR.out,at7 ⟨rfl,hz⟩]);have DV:=kH WV;have DO:=kH WW;have hz':(Dc.bV (Dc.aJ 46) a !=0)=true:=by rw[show Dc.bV (Dc.aJ 46) a=a/1048576%32 from rfl];simpa using hz
      go_wp2_with fail;refine auc (v:=.tuple #[df 0 0 0 0 0,.bool false]) (by simp[results,results14,go_sem,r0,r1,r2,r3,r4,f3,df]) rfl ⟨by rw[DV.out,DO.out],?_⟩;exact(((((G.setCell aq _).setCell aq _).setCell aq _).setCell aq _).setCell aq _).alloc _ _
    ·obtain⟨WV,WW⟩:=AQ (a:=a) (k:=k) (by unfold Dc.aO;rw[HR.out,ak]) ab;have DV:=kH WV;have DO:Hid (fZ a=true):=WW;have b46:(k ==46)=false:=by simpa using ac6
     go_wp2_with fail;refine auc (v:=.tuple #[df k (Dc.iF (Dc.aJ k) a) (Dc.bZ (Dc.aJ k) a) (Dc.bV (Dc.aJ k) a) (Dc.bS (Dc.aJ k) a),.bool true]) (by simp[results,results14,go_sem,r0,r1,r2,r3,r4,f3,df]) rfl ⟨by rw[DV.out,DO.out],?_⟩;exact(((((G.setCell aq _).setCell aq _).setCell aq _).setCell aq _).setCell aq _).alloc _ _
   ·have nb:(bits .and .u32 a (Dc.mask (Dc.aJ k)) !=Dc.bK k)=true:=by simp;intro h;exact hr (HT.1 h)
    go_wp2_with fail;refine⟨⟨k+1,rfl,ab,ab,fun j j1 j2=>?_,G2⟩,by simp only[intOf];omega⟩;by_cases e:j=k
    ·rw[e];exact hr
    ·exact K3 j j1 ab
  ·obtain⟨WV,WW⟩:=j5 (MQ h0 h1 H1 H2 fun j j1 j2=>k3 j j1 ab);have DV:Hid (kP a=_):=WV;have DO:Hid (fZ a=false):=WW;clear k3 WV WW;go_wp2;refine auc (v:=.tuple #[df 0 0 0 0 0,.bool false]) (by simp[results,results14,go_sem,r0,r1,r2,r3,r4,f3,df]) rfl ⟨by rw[DV.out,DO.out],?_⟩;exact(((((G.setCell aq _).setCell aq _).setCell aq _).setCell aq _).setCell aq _)
end Dw
namespace Re
open Dw
theorem yu (h0:0<=a)(h1:a<4294967296):0<=Dc.aO a/\Dc.aO a<=59:=by have:=Dc.kI h0 h1;unfold Dc.aO;split<;>omega
end Re
namespace Ts
open Mm Wd Mi Bk
open Hh hiding Rn
variable{bf bt rd:Int}{i:Iv}
def CG (a:Int) (i:Iv):List Mv:=
 if i.op=1 then[⟨2,i.rd,0,0,lo i.im⟩]else if i.op=2 then[⟨2,i.rd,0,0,lo (a+lo i.im)⟩]
 else if i.op=3 then[⟨2,i.rd,0,0,lo (a+4)⟩,⟨3,0,0,0,lo (a+lo i.im)⟩]
 else if i.op=4 then[⟨528,32,i.r1,0,lo i.im⟩,⟨2,i.rd,0,0,lo (a+4)⟩,⟨4,0,32,0,0⟩]
 else if 5<=i.op/\i.op<=10 then[⟨100+i.op,0,i.r1,i.r2,lo (a+lo i.im)⟩]
 else if 11<=i.op/\i.op<=15 then[⟨200+i.op,i.rd,i.r1,0,lo i.im⟩]
 else if 16<=i.op/\i.op<=18 then[⟨300+i.op,0,i.r1,i.r2,lo i.im⟩]
 else if i.op=19/\(i.r1=0\/i.rd=0)then[⟨2,i.rd,0,0,lo i.im⟩]
 else if 19<=i.op/\i.op<=27 then[⟨500+opn i.op,i.rd,i.r1,0,lo i.im⟩]
 else if 28<=i.op/\i.op<=45 then[⟨400+i.op,i.rd,i.r1,i.r2,0⟩]
 else if 46<=i.op/\i.op<=56 then[⟨600+i.op,i.rd,i.r1,i.r2,0⟩]
 else if i.op=58 then[⟨5,0,0,0,0⟩]else if i.op=59 then[⟨6,0,0,0,0⟩]else[]
structure Iv.In (i:Iv):Prop where
 o1:1<=i.op
 o2:i.op<=59
 d0:0<=i.rd
 d1:i.rd<32
 a0:0<=i.r1
 a1:i.r1<32
 b0:0<=i.r2
 b1:i.r2<32
theorem S9 {r1 r2 im:Int}(hd0:0<=rd)(hr:rd<32)(ho:op=19)(h:r1=0\/rd=0):iy bf bt steps a op rd r1 r2 im [⟨2,rd,0,0,lo im⟩]:=fun q ov ok st z hh hl=>by
 rw[fF ov];have e:ja bf bt steps q ⟨2,rd,0,0,lo im⟩=q.put rd (lo im):=by unfold ja;rw[at6 aq,at7 rfl]
 have hE:fT (q.h.go a) q.m op (rg q.h r1.toNat) (rg q.h r2.toNat) (lo im)=⟨q.h.go a,q.m,[],[],some (eT 28 (rg q.h r1.toNat) (lo im))⟩:=by
  subst ho;unfold fT;rw[ak,ak,ak,ak,ak,dU];rfl
 have e2:q.put rd (lo im)=q.put rd (eT 28 (rg q.h r1.toNat) (lo im)):=by
  rcases h with rfl|rfl
  ·have:eT 28 (rg q.h (0:Int).toNat) (lo im)=lo im:=by
    show eT 28 (rg q.h 0) (lo im)=lo im
    rw[z,FR,Int.zero_add];exact WT (W.lo _)
   rw[this]
  ·rw[kN q ab,kN q ab];rfl
 rw[e,e2];exact⟨pE ok ov st hh hr (W.eT (ok.h.reg _) (W.lo _)) hE ab,pF (op:=op) (bf:=bf) (bt:=bt) (a:=a) ov⟩
theorem Ta (h:i.In):iy bf bt steps a i.op i.rd i.r1 i.r2 i.im (CG a i):=by
 obtain⟨o1,o2,d0,d1,a0,a1,b0,b1⟩:=h;unfold CG;by_cases h0:i.op=1
 ·rw[at7 h0];exact Mf d1 h0
 rw[at6 h0];by_cases h1:i.op=2
 ·rw[at7 h1];exact Dj d1 h1
 rw[at6 h1];by_cases h2:i.op=3
 ·rw[at7 h2];exact Ml d1 h2
 rw[at6 h2];by_cases h3:i.op=4
 ·rw[at7 h3];exact Dp 32 ab ab d1 a1 h3
 rw[at6 h3];by_cases h4:5<=i.op/\i.op<=10
 ·rw[at7 h4];exact Sw a1 b1 h4
 rw[at6 h4];by_cases h5:11<=i.op/\i.op<=15
 ·rw[at7 h5];exact Sn d1 a1 h5
 rw[at6 h5];by_cases h6:16<=i.op/\i.op<=18
 ·rw[at7 h6];exact Su a1 b1 h6
 rw[at6 h6];by_cases h7:i.op=19/\(i.r1=0\/i.rd=0)
 ·rw[at7 h7];exact S9 d0 d1 h7.1 h7.2
 rw[at6 h7];by_cases h8:19<=i.op/\i.op<=27
 ·rw[at7 h8];exact Mj d1 a1 h8
 rw[at6 h8];by_cases h9:28<=i.op/\i.op<=45
 ·rw[at7 h9];exact Mg d1 a1 b1 h9
 rw[at6 h9];by_cases h10:46<=i.op/\i.op<=56
 ·rw[at7 h10];exact IG d1 a1 b1 h10
 rw[at6 h10];by_cases h11:i.op=58
 ·rw[at7 h11];exact IE h11
 rw[at6 h11];by_cases h12:i.op=59
 ·rw[at7 h12];exact Dl h12
 rw[at6 h12];exact Dk ab
theorem lN {i:Mv}{nm:Int}(hn:named i.op=nm)(h0:0<=nm)(hN:8<=nm\/i.n=0)(hd:(nm%2=1\/i.d=0)/\0<=i.d/\i.d<36)(ha:(nm/2%2=1\/i.a=0)/\0<=i.a/\i.a<36)(hb:(nm/4%2=1\/i.b=0)/\0<=i.b/\i.b<36):dZ i=true:=by unfold dZ bR;rw[hn];simp only[apD,auk];exact⟨h0,hN,hd,ha,hb⟩
theorem ac7 (h:5<=op/\op<=10):named (100+op)=14:=by unfold named;rw[ak,ak,ak,ak,dU]
theorem ac8 (h:11<=op/\op<=15):named (200+op)=11:=by unfold named;rw[ak,ak,ak,ak,ak,dU]
theorem ac9 (h:16<=op/\op<=18):named (300+op)=14:=by unfold named;rw[ak,ak,ak,ak,ak,ak,dU]
theorem Y1 (h:28<=op/\op<=45):named (400+op)=7:=by unfold named;rw[ak,ak,ak,ak,ak,ak,ak,dU]
theorem Y2 (h:28<=op/\op<=45):named (500+op)=11:=by unfold named;rw[ak,ak,ak,ak,ak,ak,ak,ak,dU]
theorem Y3 (h:46<=op/\op<=56):named (600+op)=7:=by unfold named;rw[ak,ak,ak,ak,ak,ak,ak,ak,ak,dU]
theorem Y4 (op:Int):28<=opn op/\opn op<=45:=by unfold opn;(repeat' split)<;>omega
def Mv.Du (i:Mv):Prop:=dZ i=true/\W i.n/\(0<=i.op/\i.op<=700)
theorem fe {P:Mv->Prop}{y:Mv}(h:P y):∀x∈[y],P x:=fun x hx=>by rw[apE]at hx;subst hx;exact h
theorem z1:(0:Int)<=0:=an
theorem z2:(0:Int)<36:=an
theorem z3 (n:Int)(h:(0:Int)<=n):0<=n:=h
theorem z4 (n:Int)(h:n<=700):n<=700:=h
theorem z5:(32:Int)<36:=an
theorem MR {n:Int}(d0:0<=rd)(d1:rd<32)(hn:W n):Mv.Du ⟨2,rd,0,0,n⟩:=⟨lN (nm:=9) (by show named 2=9;decide) ab (by left;omega) ⟨.inl an,d0,by show rd<36;omega⟩ ⟨.inr rfl,z1,z2⟩ ⟨.inr rfl,z1,z2⟩,hn,z3 2 an,z4 2 an⟩
theorem FU (h:i.In):(∀x∈CG a i,Mv.Du x)/\(CG a i).length<=3:=by
 obtain⟨o1,o2,d0,d1,a0,a1,b0,b1⟩:=h;have w0:W 0:=by unfold W;omega
 have hop:=Y4 i.op;have MS:∀n,W n->Mv.Du ⟨2,i.rd,0,0,n⟩:=fun n hn=>MR d0 d1 hn
 unfold CG;by_cases h0:i.op=1
 ·rw[at7 h0];exact⟨fe (MS _ (W.lo _)),aq⟩
 rw[at6 h0];by_cases h1:i.op=2
 ·rw[at7 h1];exact⟨fe (MS _ (W.lo _)),aq⟩
 rw[at6 h1];by_cases h2:i.op=3
 ·rw[at7 h2];refine⟨fun x hx=>?_,aq⟩;rcases apx.1 hx with rfl|hx
  ·exact MS _ (W.lo _)
  ·refine fe (P:=Mv.Du) ?_ x hx;exact⟨lN (nm:=8) (by show named 3=8;decide) ab (by left;omega) ⟨.inr rfl,z1,z2⟩ ⟨.inr rfl,z1,z2⟩ ⟨.inr rfl,z1,z2⟩,W.lo _,z3 3 an,z4 3 an⟩
 rw[at6 h2];by_cases h3:i.op=4
 ·rw[at7 h3];refine⟨fun x hx=>?_,aq⟩;rcases apx.1 hx with rfl|hx
  ·exact⟨lN (nm:=11) (by show named 528=11;decide) ab (by left;omega) ⟨.inl an,z3 32 an,z5⟩ ⟨.inl an,a0,by show i.r1<36;omega⟩ ⟨.inr rfl,z1,z2⟩,W.lo _,z3 528 an,z4 528 an⟩
  rcases apx.1 hx with rfl|hx
  ·exact MS _ (W.lo _)
  ·refine fe (P:=Mv.Du) ?_ x hx;exact⟨lN (nm:=10) (by show named 4=10;decide) ab (by left;omega) ⟨.inr rfl,z1,z2⟩ ⟨.inl an,z3 32 an,z5⟩ ⟨.inr rfl,z1,z2⟩,w0,z3 4 an,z4 4 an⟩
 rw[at6 h3];by_cases h4:5<=i.op/\i.op<=10
 ·rw[at7 h4];exact⟨fe ⟨lN (nm:=14) (ac7 h4) ab (by left;omega) ⟨.inr rfl,z1,z2⟩ ⟨.inl an,a0,by show i.r1<36;omega⟩ ⟨.inl an,b0,by show i.r2<36;omega⟩,W.lo _,by show(0:Int)<=100+i.op;omega,by show 100+i.op<=700;omega⟩,aq⟩
 rw[at6 h4];by_cases h5:11<=i.op/\i.op<=15
 ·rw[at7 h5];exact⟨fe ⟨lN (nm:=11) (ac8 h5) ab (by left;omega) ⟨.inl an,d0,by show i.rd<36;omega⟩ ⟨.inl an,a0,by show i.r1<36;omega⟩ ⟨.inr rfl,z1,z2⟩,W.lo _,by show(0:Int)<=200+i.op;omega,by show 200+i.op<=700;omega⟩,aq⟩
 rw[at6 h5];by_cases h6:16<=i.op/\i.op<=18
 ·rw[at7 h6];exact⟨fe ⟨lN (nm:=14) (ac9 h6) ab (by left;omega) ⟨.inr rfl,z1,z2⟩ ⟨.inl an,a0,by show i.r1<36;omega⟩ ⟨.inl an,b0,by show i.r2<36;omega⟩,W.lo _,by show(0:Int)<=300+i.op;omega,by show 300+i.op<=700;omega⟩,aq⟩
 rw[at6 h6];by_cases h7:i.op=19/\(i.r1=0\/i.rd=0)
 ·rw[at7 h7];exact⟨fe (MS _ (W.lo _)),aq⟩
 rw[at6 h7];by_cases h8:19<=i.op/\i.op<=27
 ·rw[at7 h8];exact⟨fe ⟨lN (nm:=11) (Y2 hop) ab (by left;omega) ⟨.inl an,d0,by show i.rd<36;omega⟩ ⟨.inl an,a0,by show i.r1<36;omega⟩ ⟨.inr rfl,z1,z2⟩,W.lo _,by show(0:Int)<=500+opn i.op;omega,by show 500+opn i.op<=700;omega⟩,aq⟩
 rw[at6 h8];by_cases h9:28<=i.op/\i.op<=45
 ·rw[at7 h9];exact⟨fe ⟨lN (nm:=7) (Y1 h9) ab (by right;rfl) ⟨.inl an,d0,by show i.rd<36;omega⟩ ⟨.inl an,a0,by show i.r1<36;omega⟩ ⟨.inl an,b0,by show i.r2<36;omega⟩,w0,by show(0:Int)<=400+i.op;omega,by show 400+i.op<=700;omega⟩,aq⟩
 rw[at6 h9];by_cases h10:46<=i.op/\i.op<=56
 ·rw[at7 h10];exact⟨fe ⟨lN (nm:=7) (Y3 h10) ab (by right;rfl) ⟨.inl an,d0,by show i.rd<36;omega⟩ ⟨.inl an,a0,by show i.r1<36;omega⟩ ⟨.inl an,b0,by show i.r2<36;omega⟩,w0,by show(0:Int)<=600+i.op;omega,by show 600+i.op<=700;omega⟩,aq⟩
 rw[at6 h10];by_cases h11:i.op=58
 ·rw[at7 h11];exact⟨fe ⟨an,w0,an,an⟩,aq⟩
 rw[at6 h11];by_cases h12:i.op=59
 ·rw[at7 h12];exact⟨fe ⟨an,w0,an,an⟩,aq⟩
 rw[at6 h12];exact⟨fun x hx=>(by cases hx),aq⟩
def aS (pc:Int):List Iv→Nat→List Mv
 | [],_=>[]
 |i::is,k=>⟨1,0,0,0,at4 pc k⟩::(CG (at4 pc k) i++aS pc is (k+1))
theorem uh (pc:Int)(i:Iv):∀(is:List Iv) (k:Nat),aS pc (is++[i]) k=aS pc is k++(⟨1,0,0,0,at4 pc (k+is.length)⟩::CG (at4 pc (k+is.length)) i)
 | [],k=>by simp[aS]
 |j::is,k=>by
  show _::(_++aS pc (is++[i]) (k+1))=_
  rw[uh pc i is (k+1)];simp[aS,show k+1+is.length=k+(is.length+1)by omega]
theorem Tg (a:Int)(h:W a):Mv.Du ⟨1,0,0,0,a⟩:=⟨lN (nm:=8) (by show named 1=8;decide) ab (by left;omega) ⟨.inr rfl,z1,z2⟩ ⟨.inr rfl,z1,z2⟩ ⟨.inr rfl,z1,z2⟩,h,z3 1 an,z4 1 an⟩
theorem ji (pc:Int):∀(is:List Iv) (k:Nat),(∀i∈is,i.In)→(∀x∈aS pc is k,Mv.Du x)∧(aS pc is k).length≤4*is.length
 | [],k,_=>⟨fun x hx=>(by cases hx),by simp[aS]⟩
 |i::is,k,h=>by
  obtain⟨m1,m2⟩:=FU (a:=at4 pc k) (h i aq);obtain⟨c1,c2⟩:=ji pc is (k+1) (fun j hj=>h j (by simp[hj]));refine⟨fun x hx=>?_,?_⟩
  ·simp only[aS,apx,apR]at hx;rcases hx with rfl|hx|hx
   ·exact Tg _ (yn pc k)
   ·exact m1 x hx
   ·exact c1 x hx
  ·simp only[aS,apH,apo];omega
theorem I7 (pc:Int){is:List Iv}(h:∀i∈is,i.In)(hl:is.length<=16):nZ (aS pc is 0)=true:=by obtain⟨c1,c2⟩:=ji pc is 0 h;unfold nZ;simp only[apD,auk,apM];exact⟨ab,fun x hx=>(c1 x hx).1⟩
def ui (x:Int):Iv:=⟨Dc.aO x,Dc.iF (Dc.aJ (Dc.aO x)) x,Dc.bZ (Dc.aJ (Dc.aO x)) x,Dc.bV (Dc.aJ (Dc.aO x)) x,Dc.bS (Dc.aJ (Dc.aO x)) x⟩
theorem Dv (h0:0<=x)(h1:x<4294967296)(hx:¬Dc.aO x=0):(ui x).In:=by have:=Re.yu h0 h1;have a:=wN (Dc.aJ (Dc.aO x)) x;have b:=ME (Dc.aJ (Dc.aO x)) x;have c:=MF (Dc.aJ (Dc.aO x)) x;exact⟨by show 1<=Dc.aO x;omega,by show Dc.aO x<=59;omega,a.1,a.2,b.1,b.2,c.1,c.2⟩
end Ts
namespace Mc
open Mm Hh
variable{h:Hv}
structure Sh where
 hs:List Hv
 m:List UInt8
 out:List Int
 steps:Nat
variable{s:Sh}
def hN:Hv:=⟨[],0,false,0,1,0⟩
def near (x f k:Int):Bool:=decide (0<k/\f<x+4/\x<f+k)
def pJ (x:Int) (ss:List (Int×Int)):Bool:=ss.any fun p=>near x p.1 p.2
def j6 (ss:List (Int×Int)) (h:Hv):Hv:=if h.held=true/\pJ h.aP ss=true then h.hold false 0 else h
def dF (k:Nat) (ss:List (Int×Int)) (hs:List Hv):List Hv:=hs.mapIdx fun j h=>if j=k then h else j6 ss h
def at' (s:Sh) (k:Nat):Hv:=s.hs.getD k hN
def bW (s:Sh) (k:Nat):Sh:=⟨dF k (dV (at' s k) s.m).av (s.hs.set k (dV (at' s k) s.m).h),(dV (at' s k) s.m).m,s.out++(dV (at' s k) s.m).out,s.steps+1⟩
def runs (s:Sh) (k:Nat):Nat→Sh
 |0=>s
 |n+1=>if(at' s k).state=0 then runs (bW s k) k n else s
def aL (s:Sh) (sc:List (Nat×Nat)):Sh:=sc.foldl (fun s p=>runs s p.1 p.2) s
theorem qO (h:¬(at' s k).state=0):∀n,runs s k n=s
 |0=>rfl
 |n+1=>at6 h
theorem AR (k b:Nat):∀(a:Nat) (s:Sh),runs s k (a+b)=runs (runs s k a) k b
 |0,s=>by rw[apu];rfl
 |a+1,s=>by
  have e1:∀t,runs s k (t+1)=if(at' s k).state=0 then runs (bW s k) k t else s:=fun t=>rfl
  rw[Nat.succ_add,e1,e1];split
  ·rw[AR k b a]
  ·rename_i h;exact(qO h b).symm
theorem uj (s:Sh)(a b:List (Nat×Nat)):aL s (a++b)=aL (aL s a) b:=aqy
theorem jc (s:Sh)(p:Nat×Nat)(r:List (Nat×Nat)):aL s (p::r)=aL (runs s p.1 p.2) r:=rfl
structure Fit (s:Sh) (c n:Nat):Prop where
 len:s.hs.length=c
 mem:s.m.length=n
 ok:∀h∈s.hs,h.Ok/\may h=true
theorem I8 (ss:List (Int×Int))(o:h.Ok)(m:may h=true):(j6 ss h).Ok/\may (j6 ss h)=true:=by
 unfold j6;split
 ·refine⟨o.hold false (x:=0) ab ab,?_⟩;simp only[may,auk]at m ⊢;exact⟨m.1,fun _=>rfl,m.2.2⟩
 ·exact⟨o,m⟩
theorem eD (k:Nat)(ss:List (Int×Int))(hs:List Hv):(dF k ss hs).length=hs.length:=by simp[dF]
theorem dM (k:Nat)(ss:List (Int×Int))(hs:List Hv)(j:Nat):(dF k ss hs)[j]?=hs[j]?.map fun h=>if j=k then h else j6 ss h:=by simp[dF,List.getElem?_mapIdx]
theorem dH {l:List Hv}(e:l[j]?=some h):h∈l:=aps e
theorem kg {c:Nat}(f:Fit s c n)(hk:k<c)(hr:(at' s k).state=0):Fit (bW s k) c n:=by
 have hl:k<s.hs.length:=by rw[f.len];exact hk
 have eh:s.hs[k]?=some (at' s k):=by unfold at';rw[api hl];simp[List.getD,hl]
 obtain⟨ok,mk⟩:=f.ok _ (dH eh);have g:=lJ (Al mk hr) s.m;have so:=LY ok s.m;refine⟨by simp[bW,eD,f.len],by simp only[bW];rw[g.2.1,f.mem],fun h hm=>?_⟩;obtain⟨j,hj⟩:=List.getElem?_of_mem hm;simp only[bW]at hj;rw[dM,ap1]at hj;by_cases e:k=j
 ·subst e;simp only[if_true,hl,ap7]at hj;obtain rfl:=aum hj;exact⟨so,g.1⟩
 ·simp only[e,avm]at hj;cases hq:s.hs[j]? with
  |none=>rw[hq]at hj;cases hj
  |some q=>
   rw[hq]at hj;obtain⟨a,b⟩:=f.ok q (dH hq);have e2:¬j=k:=fun x=>e x.symm
   simp only[ap7,e2,avm]at hj;obtain rfl:=aum hj;exact I8 _ a b
theorem pK {c n k:Nat}(hk:k<c):∀(t:Nat) {s:Sh},Fit s c n→Fit (runs s k t) c n
 |0,s,f=>f
 |t+1,s,f=>by
  unfold runs;split
  ·exact pK hk t (kg f hk bo)
  ·exact f
theorem pM {c n:Nat}:∀(sc:List (Nat×Nat)) {s:Sh},(∀p∈sc,p.1<c)→Fit s c n→Fit (aL s sc) c n
 | [],s,_,f=>f
 |p::r,s,h,f=>by
  rw[jc];exact pM r (fun q hq=>h q (by simp[hq])) (pK (h p aq) p.2 f)
end Mc
namespace Mc
open Mm Hh Wd
variable{h:Hv}{s:Sh}
structure Wk where
 h:Hv
 m:List UInt8
 out:List Int
 av:List (Int×Int)
 n:Nat
variable{x:Wk}
def FV (x:Wk):Wk:=⟨(dV x.h x.m).h,(dV x.h x.m).m,x.out++(dV x.h x.m).out,x.av++(dV x.h x.m).av,x.n+1⟩
def wk (x:Wk):Nat→Wk
 |0=>x
 |n+1=>if x.h.state=0 then wk (FV x) n else x
theorem yw (h:¬x.h.state=0):∀n,wk x n=x
 |0=>rfl
 |n+1=>at6 h
theorem uk {x:Wk}(h:x.h.state=0)(n:Nat):wk x (n+1)=wk (FV x) n:=at7 h
def tk (s:Sh) (k:Nat) (x:Wk):Sh:=⟨(dF k x.av s.hs).set k x.h,x.m,s.out++x.out,s.steps+x.n⟩
def w0 (s:Sh) (k:Nat):Wk:=⟨at' s k,s.m,[],[],0⟩
theorem I9 (h:Hv):j6 [] h=h:=by unfold j6;rw[at6];simp[pJ]
theorem wO (a b:List (Int×Int))(h:Hv):j6 (a++b) h=j6 b (j6 a h):=by
 unfold j6;have e:pJ h.aP (a++b)=(pJ h.aP a ||pJ h.aP b):=by unfold pJ;rw[aq5]
 rw[e];by_cases hh:h.held=true
 ·cases ha:pJ h.aP a with
  |true=>simp[hh,Hv.hold]
  |false=>simp[hh,ha]
 ·simp[hh]
theorem lQ (k:Nat)(hs:List Hv):dF k [] hs=hs:=by
 apply aql;intro j;rw[dM];cases hs[j]? with
 |none=>rfl
 |some h=>simp[I9]
theorem Y5 (hs:List Hv)(k:Nat):hs.set k (hs.getD k hN)=hs:=by
 apply aql;intro j;rw[ap1];split
 ·rename_i e;subst e;split
  ·rename_i h;simp[List.getD,api h]
  ·rename_i h;rw[aqf ab]
 ·rfl
theorem ada (s:Sh)(k:Nat):tk s k (w0 s k)=s:=by unfold tk w0 at';simp only[lQ,Y5,apz,aqt]
theorem Ti (hk:k<s.hs.length)(x:Wk):bW (tk s k x) k=tk s k (FV x):=by
 have e:at' (tk s k x) k=x.h:=by
  unfold at' tk;simp[List.getD,ap1,eD,hk]
 unfold bW;rw[e];unfold tk FV;simp only[aqa,aqU];congr 1;apply aql;intro j;rw[dM,ap1,ap1,ap1,dM,dM];by_cases e:k=j
 ·subst e;simp[eD,hk]
 ·have e2:¬j=k:=fun q=>e q.symm
  simp only[e,e2,avm];cases s.hs[j]? with
  |none=>rfl
  |some h=>simp[wO]
theorem FW {s:Sh}{k:Nat}(hk:k<s.hs.length):∀(n:Nat) (x:Wk),runs (tk s k x) k n=tk s k (wk x n)
 |0,x=>rfl
 |n+1,x=>by
  have e:at' (tk s k x) k=x.h:=by
   unfold at' tk;simp[List.getD,ap1,eD,hk]
  unfold runs wk;rw[e];split
  ·rw[Ti hk,FW hk n]
  ·rfl
theorem pO (hk:k<s.hs.length)(n:Nat):runs s k n=tk s k (wk (w0 s k) n):=by have:=FW hk n (w0 s k);rwa[ada]at this
def Tu (l:List UInt8) (p:Int×Int):Prop:=0<=p.1/\0<p.2/\p.1+p.2<=l.length
theorem Dx {op:Int}(ha:0<=a)(h:dX l op a=true):Tu l (a,(gG op:Nat)):=by unfold dX qy at h;rw[auk]at h;exact⟨ha,by simpa using h.1,h.2.2⟩
theorem Tv (o:h.Ok)(l:List UInt8){n:Int}(ha:W a):∀p∈(fT h l op a b n).av,Tu l p:=by
 unfold fT;intro p hp;split at hp
 ·simp at hp
 split at hp
 ·simp at hp
 split at hp
 ·simp at hp
 split at hp
 ·unfold bF at hp;split at hp<;>simp at hp
 split at hp
 ·unfold aH at hp;split at hp
  ·simp at hp;subst hp;exact Dx (W.lo _).1 bo
  ·simp at hp
 split at hp
 ·simp at hp
 split at hp
 ·simp at hp
 split at hp
 ·unfold aK at hp;split at hp
  ·unfold gB at hp;split at hp<;>simp at hp
  split at hp
  ·unfold eU at hp;split at hp
   ·split at hp
    ·simp at hp;subst hp;exact Dx (op:=18) ha.1 (bG bo)
    ·simp at hp
   ·simp at hp
  ·unfold iN at hp;split at hp
   ·simp at hp;subst hp;exact Dx (op:=18) ha.1 (bG bo)
   ·simp at hp
 split at hp
 ·unfold bA at hp;split at hp
  ·simp at hp
  ·split at hp<;>simp at hp
 split at hp<;>simp at hp
theorem yx (o:h.Ok)(l:List UInt8):(∀p∈(dV h l).av,Tu l p)/\(dV h l).av.length<=1:=by
 unfold dV oW ins;split
 ·split
  ·exact⟨fun p hp=>by simp at hp,aq⟩
  ·exact⟨Tv o l (W.reg o _),(De o l (W.reg o _) (W.reg o _) (W.lo _)).av⟩
 ·exact⟨fun p hp=>by simp at hp,aq⟩
structure AU (x:Wk) (n:Nat):Prop where
 ok:x.h.Ok
 may:may x.h=true
 mem:x.m.length=n
 out:x.out.length<=x.n
 av:x.av.length<=x.n
 bd:∀p∈x.av,0<=p.1/\0<p.2/\p.1+p.2<=n
theorem yz (o:AU x n)(hr:x.h.state=0):AU (FV x) n:=by
 have g:=lJ (Al o.may hr) x.m;have s:=yx o.ok x.m;refine⟨LY o.ok x.m,g.1,g.2.1.trans o.mem,?_,?_,fun p hp=>?_⟩
 ·have:=g.2.2.2.1;have:=o.out;simp only[FV,apo];omega
 ·have:=s.2;have:=o.av;simp only[FV,apo];omega
 ·rcases apR.1 hp with h|h
  ·exact o.bd p h
  ·have:=s.1 p h;unfold Tu at this;rwa[o.mem]at this
theorem pQ {c:Nat}(f:Fit s c n)(hk:k<c):AU (w0 s k) n:=by
 have hl:k<s.hs.length:=by rw[f.len];exact hk
 have eh:s.hs[k]?=some (at' s k):=by unfold at';rw[api hl];simp[List.getD,hl]
 obtain⟨ok,mk⟩:=f.ok _ (dH eh);exact⟨ok,mk,f.mem,apn _,apn _,fun p hp=>by simp[w0]at hp⟩
def loses (k:Nat) (p:Int×Int) (j:Nat) (h:Hv):Bool:=decide (j≠k) && (h.held && near h.aP p.1 p.2)
def aR (k:Nat) (p:Int×Int) (hs:List Hv):Nat→List (Nat×Int)
 |0=>[]
 |j+1=>aR k p hs j++(if loses k p j (hs.getD j hN)=true then[(j,(hs.getD j hN).aP)]else[])
theorem mX (k:Nat)(p:Int×Int)(hs:List Hv):∀j,(aR k p hs j).length≤j
 |0=>apn _
 |j+1=>by
  have:=mX k p hs j;unfold aR;rw[apo];split
  ·simp;omega
  ·simp;omega
theorem AV (k:Nat)(p:Int×Int)(hs:List Hv):∀j,∀q∈aR k p hs j,q.1<j
 |0,q,h=>by simp[aR]at h
 |j+1,q,h=>by
  unfold aR at h;rcases apR.1 h with h|h
  ·have:=AV k p hs j q h;omega
  ·split at h
   ·simp at h;subst h;simp
   ·simp at h
def drops (hs:List Hv) (ls:List (Nat×Int)):List Hv:=ls.foldl (fun hs l=>hs.set l.1 ((hs.getD l.1 hN).hold false 0)) hs
theorem wQ (hs:List Hv)(a b:List (Nat×Int)):drops hs (a++b)=drops (drops hs a) b:=aqy
theorem qP:∀(ls:List (Nat×Int)) (hs:List Hv),(drops hs ls).length=hs.length
 | [],hs=>rfl
 |l::r,hs=>by
  show(drops (hs.set l.1 _) r).length=_
  rw[qP r];simp
theorem um (k:Nat)(p:Int×Int)(hs:List Hv):∀j,j≤hs.length→∀i,(drops hs (aR k p hs j))[i]?=if i<j then (dF k [p] hs)[i]? else hs[i]?
 |0,_,i=>by simp[aR,drops]
 |j+1,hj,i=>by
  have ih:=um k p hs j ab;have ej:(drops hs (aR k p hs j)).getD j hN=hs.getD j hN:=by
   simp only[List.getD];rw[ih j,ak]
  have hjl:j<hs.length:=ab;have eg:hs[j]?=some (hs.getD j hN):=by rw[api hjl];simp[List.getD,hjl]
  have el:(dF k [p] hs)[j]?=some (if loses k p j (hs.getD j hN)=true then(hs.getD j hN).hold false 0 else hs.getD j hN):=by
   rw[dM,eg,ap7];congr 1;generalize hs.getD j hN=h;unfold j6 loses pJ;by_cases e:j=k
   ·simp[e]
   ·simp[e]
  unfold aR;rw[wQ];by_cases hl:loses k p j (hs.getD j hN)=true
  ·rw[at7 hl]at el ⊢;show((drops hs (aR k p hs j)).set j (((drops hs (aR k p hs j)).getD j hN).hold false 0))[i]?=_
   rw[ej,ap1];by_cases e:j=i
   ·subst e;rw[at7 rfl,at7 (by rw[qP];exact hjl),dU,el]
   ·rw[at6 e,ih i];by_cases h2:i<j
    ·rw[at7 h2,dU]
    ·rw[at6 h2,ak]
  ·rw[at6 hl]at el ⊢;show(drops hs (aR k p hs j))[i]?=_
   rw[ih i];by_cases e:i=j
   ·subst e;rw[ak,dU,el,eg]
   ·by_cases h2:i<j
    ·rw[at7 h2,dU]
    ·rw[at6 h2,ak]
theorem Ja (k:Nat)(p:Int×Int)(hs:List Hv):drops hs (aR k p hs hs.length)=dF k [p] hs:=by
 apply aql;intro i;rw[um k p hs _ (apn _) i];split
 ·rfl
 ·rename_i h;rw[aqf ab,aqf (by rw[eD];omega)]
theorem MU (k:Nat)(a b:List (Int×Int))(hs:List Hv):dF k (a++b) hs=dF k b (dF k a hs):=by
 apply aql;intro j;rw[dM,dM,dM];cases hs[j]? with
 |none=>rfl
 |some h=>
  simp only[ap7];split
  ·rfl
  ·rw[wO]
theorem Dy {x f k n:Int}(hx0:0<=x)(hx:x<4294967296)(h0:0<=f)(hk:0<k)(hf:f+k<=n)(hn:n<=4096):near x f k=(decide (x<f+k) && decide (f<x+4)):=by unfold near;by_cases a:x<f+k<;>by_cases b:f<x+4<;>simp[a,b,hk]
end Mc
namespace En
open Mm Wd Mi Bk Ts Kc
open Mc hiding Fit
open Hh hiding Rn
variable{l':List UInt8}{b:Bv}{s:Sh}
def Dz (r:Mi.Rn):Wk:=⟨r.h,r.m,r.out,r.av,r.n⟩
theorem MV (r:Mi.Rn):Dz (b1 r)=FV (Dz r):=rfl
theorem MW (bY last steps:Int):∀(f k:Nat) (r:Mi.Rn),r.h.state=0→(r.n:Int)≤steps→∃c,c≤f∧Dz (FE bY last steps f k r)=wk (Dz r) c∧(FE bY last steps f k r).n=r.n+c∧((FE bY last steps f k r).n:Int)≤steps∧(0<f→(r.n:Int)<steps→0<c)
 |0,k,r,_,hn=>⟨0,apn _,rfl,rfl,hn,fun h=>absurd h ab⟩
 |f+1,k,r,hs,hn=>by
  unfold FE;split
  ·rename_i hlt;split
   ·refine⟨1,ab,?_,rfl,?_,fun _ _=>ab⟩
    ·rw[MV,uk hs];rfl
    ·show((r.n+1:Nat):Int)<=steps
     omega
   ·rename_i hb;have hs2:(b1 r).h.state=0:=by
     unfold wK at hb;simp only[aqV,auk,not_or,Classical.not_not]at hb;exact hb.1
    obtain⟨c,h1,h2,h3,h4,_⟩:=MW bY last steps f (k+1) (b1 r) hs2 (by show((r.n+1:Nat):Int)<=steps;omega);refine⟨c+1,ab,?_,?_,h4,fun _ _=>ab⟩
    ·rw[h2,MV,uk hs]
    ·rw[h3];show r.n+1+c=r.n+(c+1)
     omega
  ·exact⟨0,ab,rfl,rfl,hn,fun _ h=>absurd h bo⟩
structure dS (l:List UInt8) (b:Bv):Prop where
 pos:0<b.is.length
 nH:0<=b.pc
 jV:b.pc<4294967296
 le:b.is.length<=(blk l b.pc 16 0).length
 eq:b.is=((blk l b.pc 16 0).take b.is.length).map ui
theorem dS.len (h:dS l b):b.is.length<=16:=apr h.le (fM l b.pc 16 0).1
theorem DC (h0:0<=pc)(h1:pc<4294967296)(hp:0<(blk l pc 16 0).length):dS l ⟨pc,(blk l pc 16 0).map ui⟩:=⟨by simpa using hp,h0,h1,aq,aq⟩
theorem oD (h:dS l b)(hl:l.length<=4096):Sl l b.pc (b.pc+4*(b.is.length:Int)) b.is.length (fun j=>aN l 13 (at4 b.pc j)):=by have B:=SA hl h.nH h.jV (apq h.pos h.le);have hle:=h.le;have hf:=B.fit;exact⟨h.pos,h.nH,rfl,hl,ab,fun j hj=>B.at_ j ab,fun j hj=>B.ok j ab,fun j hj=>B.op j ab,fun j hj q=>by have:=B.fin j ab q;omega⟩
theorem oF (h:dS l b)(hj:j<b.is.length):b.is[j]?=some (ui (aN l 13 (at4 b.pc j)))/\¬Dc.aO (aN l 13 (at4 b.pc j))=0:=by obtain⟨f1,f2,_⟩:=(fM l b.pc 16 0).2 j (apq hj h.le);rw[apu]at f1 f2;refine⟨?_,(mV f1).2⟩;have e:=h.eq;rw[e,apT,List.getElem?_take_of_lt hj,f2];rfl
theorem AX (h:dS l b):∀i∈b.is,i.In:=fun i hi=>by obtain⟨j,hj⟩:=aqe.1 hi;obtain⟨e,hx⟩:=oF h (apj.1 hj).1;rw[e]at hj;injection hj with hj;subst hj;have:=W.aN l 13 (at4 b.pc j);exact Dv this.1 this.2 hx
theorem AY (pc:Int)(d:Iv):∀(is:List Iv) (k:Nat) (bd:Nat→List Mv),(∀j i,is[j]?=some i→bd (k+j)=CG (at4 pc (k+j)) i)→aS pc is k=pz pc bd is.length k
 | [],k,bd,_=>rfl
 |i::is,k,bd,h=>by
  show _::(_++aS pc is (k+1))=_::(_++_)
  have h0:=h 0 i rfl;rw[aqt]at h0;rw[AY pc d is (k+1) bd (fun j i hi=>by
   have:=h (j+1) i (by simpa using hi);rwa[show k+(j+1)=k+1+j by omega]at this),h0]
theorem Jb (F:dS l b)(hl:l.length<=4096){h:Hv}(o:h.Ok)(hm:may h=true)(hs:h.state=0)(hp:h.pc=b.pc)(h0:0<=steps):QX (dC b.pc (b.pc+4*(b.is.length:Int)) steps h l (aS b.pc b.is 0)) (FE b.pc (b.pc+4*(b.is.length:Int)) steps b.is.length 0 (mstart h l)):=by
 have e:=AY b.pc ⟨0,0,0,0,0⟩ b.is 0 _ fun j i hi=>by
  obtain⟨e,_⟩:=oF F (apj.1 hi).1;rw[e]at hi;injection hi with hi;subst hi;rw[apu]
 rw[e,<-apz (pz _ _ _ _)];refine IC (oD F hl) (fun j hj=>?_) (tail_nil _ _ _ _) o hm hs hp h0 (fun j hj=>rfl);have hx:=(oF F hj).2;have hb:=W.aN l 13 (at4 b.pc j);exact Sm hx (Ta (i:=ui (aN l 13 (at4 b.pc j))) (Dv hb.1 hb.2 hx))
theorem Jc (F:dS l b):nZ (aS b.pc b.is 0)=true:=I7 b.pc (AX F) F.len
theorem Jd (hk:k<s.hs.length)(F:dS s.m b)(hl:s.m.length<=4096)(o:(at' s k).Ok)(hm:may (at' s k)=true)(hs:(at' s k).state=0)(hp:(at' s k).pc=b.pc)(h0:0<steps):∃c:Nat,0<c/\(c:Int)<=steps/\c<=16/\(dC b.pc (b.pc+4*(b.is.length:Int)) steps (at' s k) s.m (aS b.pc b.is 0)).n=c/\Dz (dC b.pc (b.pc+4*(b.is.length:Int)) steps (at' s k) s.m (aS b.pc b.is 0))=wk (w0 s k) c/\ runs s k c=tk s k (Dz (dC b.pc (b.pc+4*(b.is.length:Int)) steps (at' s k) s.m (aS b.pc b.is 0))):=by
 have E:=Jb F hl o hm hs hp (Int.le_of_lt h0);obtain⟨c,h1,h2,h3,h4,h5⟩:=MW b.pc (b.pc+4*(b.is.length:Int)) steps b.is.length 0 (mstart (at' s k) s.m) hs (by show((0:Nat):Int)<=steps;omega);have eW:Dz (dC b.pc (b.pc+4*(b.is.length:Int)) steps (at' s k) s.m (aS b.pc b.is 0))=wk (w0 s k) c:=by
  have:Dz (mstart (at' s k) s.m)=w0 s k:=rfl;rw[<-this,<-h2];unfold Dz;rw[E.h,E.m,E.out,E.n,E.av]
 have en:(FE b.pc (b.pc+4*(b.is.length:Int)) steps b.is.length 0 (mstart (at' s k) s.m)).n=c:=by rw[h3];show 0+c=c;omega
 refine⟨c,h5 F.pos (by show((0:Nat):Int)<steps;omega),by rw[en]at h4;exact h4,apr h1 F.len,by rw[E.n,en],eW,?_⟩;rw[pO hk,eW]
theorem FX (hn:n≤4096)(bY last:Int):∀(c:Nat) (x:Wk),AU x n→∃t,(wk x c).av=x.av++t∧AU (wk x c) n∧(t.any (vI bY last)=false→∀a,0≤a→bY≤a→a+4≤last→aN (wk x c).m 13 a=aN x.m 13 a)
 |0,x,w=>⟨[],by show x.av=_;simp,w,fun _ a _ _ _=>rfl⟩
 |c+1,x,w=>by
  by_cases h:x.h.state=0
  ·rw[uk h];obtain⟨t,e,w2,k2⟩:=FX hn bY last c (FV x) (yz w h);refine⟨(dV x.h x.m).av++t,by rw[e];show(x.av++_)++t=_;rw[aqa],w2,fun hno a h0 h1 h2=>?_⟩;rw[aq5,Bool.or_eq_false_iff]at hno;rw[k2 hno.2 a h0 h1 h2];exact tZ (FP w.ok x.m) (bY:=bY) (last:=last) (by rw[w.mem];exact hn) hno.1 h0 h1 h2
  ·rw[yw h];exact⟨[],aq,w,fun _ a _ _ _=>rfl⟩
theorem AZ (hl:l'.length=l.length)(pc:Int):∀(n k c:Nat),c≤(blk l pc n k).length→(∀j,j<c→aN l' 13 (at4 pc (k+j))=aN l 13 (at4 pc (k+j)))→(blk l' pc n k).take c=(blk l pc n k).take c∧c≤(blk l' pc n k).length
 |n,k,0,_,_=>aq
 |0,k,c+1,h,_=>absurd h (by simp[blk])
 |n+1,k,c+1,h,hw=>by
  have e0:aN l' 13 (at4 pc k)=aN l 13 (at4 pc k):=hw 0 ab;have eft:jR l' (at4 pc k)=jR l (at4 pc k):=by
   have eo:bM l' 13 (at4 pc k)=bM l 13 (at4 pc k):=by unfold bM;rw[hl]
   unfold jR;rw[eo,e0]
  by_cases hf:jR l (at4 pc k)=0
  ·cases hlo:eB (Dc.aO (aN l 13 (at4 pc k)))with
   |true=>
    rw[pq hf hlo]at h ⊢;rw[pq (eft.trans hf) (by rw[e0];exact hlo),e0];exact⟨rfl,h⟩
   |false=>
    rw[yo hf hlo]at h ⊢;rw[yo (eft.trans hf) (by rw[e0];exact hlo),e0];obtain⟨i1,i2⟩:=AZ hl pc n (k+1) c (by simpa using h) (fun j hj=>by
     have:=hw (j+1) ab;rwa[show k+(j+1)=k+1+j by omega]at this)
    refine⟨?_,by simpa using i2⟩;rw[ara,ara,i1]
  ·rw[pg hf]at h;exact absurd h aq
theorem DI (F:dS l b)(hl:l.length<=4096)(hlen:l'.length=l.length)(hw:∀a,0<=a->b.pc<=a->a+4<=b.pc+4*(b.is.length:Int)->aN l' 13 a=aN l 13 a):dS l' b:=by
 have B:=oD F hl;have hp:=F.nH;obtain⟨e1,e2⟩:=AZ hlen b.pc 16 0 b.is.length F.le (fun j hj=>by
  rw[apu];have:=B.at_ j ab;exact hw _ ab ab ab)
 exact⟨F.pos,F.nH,F.jV,e2,by rw[e1];exact F.eq⟩
theorem Tx (hb:0<b.is.length)(h0:0<=p.1)(h1:0<p.2)(h2:p.1+p.2<=4096):hasB b p.1 (Wd.lo (p.1+p.2))=vI b.pc (b.pc+4*(b.is.length:Int)) p:=by
 have e:Wd.lo (p.1+p.2)=p.1+p.2:=aqr ab ab;unfold hasB vI;rw[e,decide_eq_decide,Int.max_def,Int.min_def];constructor
 ·intro h;(repeat' split at h)<;>omega
 ·intro h;(repeat' split)<;>omega
theorem DJ {c:Nat}(hn:n<=4096)(w:AU (w0 s k) n)(F:dS s.m b)(hno:∀p∈(wk (w0 s k) c).av,hasB b p.1 (Wd.lo (p.1+p.2))=false):dS (wk (w0 s k) c).m b:=by obtain⟨t,e,w2,hk⟩:=FX hn b.pc (b.pc+4*(b.is.length:Int)) c (w0 s k) w;have e2:(wk (w0 s k) c).av=t:=e;have hm:s.m.length=n:=w.mem;refine DI F ab (w2.mem.trans hm.symm) (hk ?_);rw[List.any_eq_false];intro p hp;rw[<-e2]at hp;have bd:=w2.bd p hp;rw[<-Tx F.pos bd.1 bd.2.1 ab,hno p hp];simp
end En
end Go.Proofs.YtiadhbmnfjfioaaGreatDoor
