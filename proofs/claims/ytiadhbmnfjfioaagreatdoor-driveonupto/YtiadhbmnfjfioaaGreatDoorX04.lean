/- ours -/
import Derived.Test.YtiadhbmnfjfioaaGreatDoorX03
set_option linter.unusedVariables false
set_option linter.unusedSimpArgs false
set_option maxHeartbeats 8000000
set_option maxRecDepth 100000
set_option linter.unusedSectionVars false
namespace Go.Proofs.YtiadhbmnfjfioaaGreatDoor
open Go.Proofs.Tryz
open Go.ChangeShapes Go.WideShapes Go.ChangeAt Go.RowKit
namespace Ww

theorem au {k:IntKind}{a b:Int}(h:a=b):Ending.returned (.int k a)=.returned (.int k b):=by rw[h]
theorem aM {a b:Bool}(h:a=b):Ending.returned (.bool a)=.returned (.bool b):=by rw[h]
theorem wrap_u32' (n:Int):IntKind.u32.wrap n=n%4294967296:=by rfl
theorem ofInt32 (a:Nat)(ha:(a:Int)<4294967296):(BitVec.ofInt 32 (a:Int)).toNat=a:=by rw[BitVec.ofInt_natCast,BitVec.toNat_ofNat];exact Nat.mod_eq_of_lt (by omega)
theorem eX (a b:Int)(ha:0<=a)(ha':a<4294967296)(hb:0<=b)(hb':b<4294967296):bits .and .u32 a b=Wd.iw a b:=by
 obtain⟨a,rfl⟩:=apt ha;obtain⟨b,rfl⟩:=apt hb;have hx:a &&& b<2^32:=ari _ (by omega);show IntKind.u32.wrap ((BitVec.ofInt 32 (a:Int) &&& BitVec.ofInt 32 (b:Int)).toNat:Int)=_
 rw[avk,ofInt32 a ha',ofInt32 b hb',wrap_u32'];simp only[Wd.iw,apG];omega
theorem cO (a b:Int)(ha:0<=a)(ha':a<4294967296)(hb:0<=b)(hb':b<4294967296):bits .or .u32 a b=Wd.rW a b:=by
 obtain⟨a,rfl⟩:=apt ha;obtain⟨b,rfl⟩:=apt hb;have hx:a |||b<2^32:=arn (by omega) (by omega)
 show IntKind.u32.wrap ((BitVec.ofInt 32 (a:Int) |||BitVec.ofInt 32 (b:Int)).toNat:Int)=_
 rw[BitVec.toNat_or,ofInt32 a ha',ofInt32 b hb',wrap_u32'];simp only[Wd.rW,apG];omega
theorem yg (a b:Int)(ha:0<=a)(ha':a<4294967296)(hb:0<=b)(hb':b<4294967296):bits .xor .u32 a b=Wd.zX a b:=by
 obtain⟨a,rfl⟩:=apt ha;obtain⟨b,rfl⟩:=apt hb;have hx:a ^^^ b<2^32:=Nat.xor_lt_two_pow (by omega) (by omega);show IntKind.u32.wrap ((BitVec.ofInt 32 (a:Int) ^^^ BitVec.ofInt 32 (b:Int)).toNat:Int)=_
 rw[BitVec.toNat_xor,ofInt32 a ha',ofInt32 b hb',wrap_u32'];simp only[Wd.zX,apG];omega
theorem Ij (a:Int)(ha:0<=a)(ha':a<4294967296):wrap32 a=Wd.sg a:=by unfold wrap32 Wd.sg;split<;>omega
theorem Ik (n:Int):wrap32 n%4294967296=Wd.lo n:=by unfold wrap32 Wd.lo;omega
theorem RO (a:Int)(ha:0<=a):Wd.iw a 31=a%32:=by unfold Wd.iw;have h:a.toNat &&& (31:Int).toNat=a.toNat%32:=aqL a.toNat 5;rw[h];omega
theorem Lu (a:Int):IntKind.u64.wrap a/4294967296%4294967296=Wd.hi a:=by rw[avc];unfold Wd.hi;omega
theorem bI (a:Int)(w:World)(ha:0<=a)(ha':a<4294967296):Calls prog 188 #[.int .u32 a] w fun e w'=>e=.returned (.int .i32 (Wd.sg a))/\w'=w:=by go_enter func188,ntmps188;go_wp2;go_ret;exact⟨au (Ij a ha ha'),rfl⟩
theorem nW (a:Int)(w:World)(ha:0<=a)(ha':a<4294967296):Calls prog 190 #[.int .u32 a] w fun e w'=>e=.returned (.int .u32 (a%32))/\w'=w:=by go_enter func190,ntmps190;go_wp2;go_ret;exact⟨au ((eX a 31 ha ha' (by omega) (by omega)).trans (RO a ha)),rfl⟩
theorem wu (b:Bool)(w:World):Calls prog 191 #[.bool b] w fun e w'=>e=.returned (.int .u32 (Wd.tr b))/\w'=w:=by
 cases b
 all_goals
  go_enter func191,ntmps191;go_wp2;go_ret;exact⟨rfl,rfl⟩
theorem wy (a:Int)(w:World)(ha : -9223372036854775808<=a)(ha':a<=9223372036854775807):Calls prog 192 #[.int .i64 a] w fun e w'=>e=.returned (.int .u32 (Wd.hi a))/\w'=w:=by go_enter func192,ntmps192;go_wp2;go_ret;exact⟨au (Lu a),rfl⟩
theorem yh (a b:Int)(w:World)(ha:0<=a)(ha':a<4294967296)(hb:0<=b)(hb':b<4294967296):Calls prog 193 #[.int .u32 a,.int .u32 b] w fun e w'=>e=.returned (.int .u32 (Wd.dv a b))/\w'=w:=by
 by_cases h0:b=0
 ·subst h0;go_enter func193,ntmps193;go_wp2;go_ret;exact⟨rfl,rfl⟩
 ·have hz:¬Wd.sg b=0:=fun h=>h0 ((Wd.Ff hb hb').1 h)
  have hb0:(b ==0)=false:=by simpa using h0
  have sa:=Wd.rA ha ha';have sb:=Wd.rA hb hb';have H:Hid (Wd.dv a b=Wd.lo ((Wd.sg a).tdiv (Wd.sg b))):=(by unfold Wd.dv;rw[at6 h0]:_=_);go_enter func193,ntmps193;go_wp2_with (go_at_call 188;refine(bI _ _ (by omega) (by omega)).mono ?_;rintro e w' ⟨rfl,rfl⟩);go_ret;exact⟨au ((Ik _).trans H.out.symm),rfl⟩
theorem vG (a b:Int)(w:World)(ha:0<=a)(ha':a<4294967296)(hb:0<=b)(hb':b<4294967296):Calls prog 194 #[.int .u32 a,.int .u32 b] w fun e w'=>e=.returned (.int .u32 (Wd.rm a b))/\w'=w:=by
 by_cases h0:b=0
 ·subst h0;go_enter func194,ntmps194;go_wp2;go_ret;exact⟨rfl,rfl⟩
 ·have hz:¬Wd.sg b=0:=fun h=>h0 ((Wd.Ff hb hb').1 h)
  have hb0:(b ==0)=false:=by simpa using h0
  have sa:=Wd.rA ha ha';have sb:=Wd.rA hb hb';have H:Hid (Wd.rm a b=Wd.lo ((Wd.sg a).tmod (Wd.sg b))):=(by unfold Wd.rm;rw[at6 h0]:_=_);go_enter func194,ntmps194;go_wp2_with (go_at_call 188;refine(bI _ _ (by omega) (by omega)).mono ?_;rintro e w' ⟨rfl,rfl⟩);go_ret;exact⟨au (H.out.symm),rfl⟩
theorem o5 (a b:Int)(w:World)(ha:0<=a)(ha':a<4294967296)(hb:0<=b)(hb':b<4294967296):Calls prog 195 #[.int .u32 a,.int .u32 b] w fun e w'=>e=.returned (.int .u32 (Wd.dvu a b))/\w'=w:=by
 by_cases h0:b=0
 ·subst h0;go_enter func195,ntmps195;go_wp2;go_ret;exact⟨rfl,rfl⟩
 ·have hb0:(b ==0)=false:=by simpa using h0
  have H:Hid (Wd.dvu a b=a/b):=(by unfold Wd.dvu;rw[at6 h0]:_=_);go_enter func195,ntmps195;go_wp2;go_ret;exact⟨au H.out.symm,rfl⟩
theorem nX (a b:Int)(w:World)(ha:0<=a)(ha':a<4294967296)(hb:0<=b)(hb':b<4294967296):Calls prog 196 #[.int .u32 a,.int .u32 b] w fun e w'=>e=.returned (.int .u32 (Wd.rmu a b))/\w'=w:=by
 by_cases h0:b=0
 ·subst h0;go_enter func196,ntmps196;go_wp2;go_ret;exact⟨rfl,rfl⟩
 ·have hb0:(b ==0)=false:=by simpa using h0
  have H:Hid (Wd.rmu a b=a%b):=(by unfold Wd.rmu;rw[at6 h0]:_=_);go_enter func196,ntmps196;go_wp2;go_ret;exact⟨au H.out.symm,rfl⟩
theorem XR (a b:Int)(w:World)(ha:0<=a)(ha':a<4294967296)(hb:0<=b)(hb':b<4294967296):Calls prog 179 #[.int .i64 28,.int .u32 a,.int .u32 b] w fun e w'=>e=.returned (.int .u32 (Wd.eT 28 a b))/\w'=w:=by go_enter func179,ntmps179;go_wp2;go_ret;exact⟨au (rfl),rfl⟩
theorem XT (a b:Int)(w:World)(ha:0<=a)(ha':a<4294967296)(hb:0<=b)(hb':b<4294967296):Calls prog 179 #[.int .i64 29,.int .u32 a,.int .u32 b] w fun e w'=>e=.returned (.int .u32 (Wd.eT 29 a b))/\w'=w:=by go_enter func179,ntmps179;go_wp2;go_ret;exact⟨au (rfl),rfl⟩
theorem XU (a b:Int)(w:World)(ha:0<=a)(ha':a<4294967296)(hb:0<=b)(hb':b<4294967296):Calls prog 179 #[.int .i64 37,.int .u32 a,.int .u32 b] w fun e w'=>e=.returned (.int .u32 (Wd.eT 37 a b))/\w'=w:=by go_enter func179,ntmps179;go_wp2;go_ret;exact⟨au (eX a b ha ha' hb hb'),rfl⟩
theorem XV (a b:Int)(w:World)(ha:0<=a)(ha':a<4294967296)(hb:0<=b)(hb':b<4294967296):Calls prog 179 #[.int .i64 36,.int .u32 a,.int .u32 b] w fun e w'=>e=.returned (.int .u32 (Wd.eT 36 a b))/\w'=w:=by go_enter func179,ntmps179;go_wp2;go_ret;exact⟨au (cO a b ha ha' hb hb'),rfl⟩
theorem XW (a b:Int)(w:World)(ha:0<=a)(ha':a<4294967296)(hb:0<=b)(hb':b<4294967296):Calls prog 179 #[.int .i64 33,.int .u32 a,.int .u32 b] w fun e w'=>e=.returned (.int .u32 (Wd.eT 33 a b))/\w'=w:=by go_enter func179,ntmps179;go_wp2;go_ret;exact⟨au (yg a b ha ha' hb hb'),rfl⟩
theorem XX (a b:Int)(w:World)(ha:0<=a)(ha':a<4294967296)(hb:0<=b)(hb':b<4294967296):Calls prog 179 #[.int .i64 30,.int .u32 a,.int .u32 b] w fun e w'=>e=.returned (.int .u32 (Wd.eT 30 a b))/\w'=w:=by go_enter func179,ntmps179;go_wp2_with (go_at_call 190;refine(nW _ _ (by omega) (by omega)).mono ?_;rintro e w' ⟨rfl,rfl⟩);go_ret;exact⟨au (rfl),rfl⟩
theorem XY (a b:Int)(w:World)(ha:0<=a)(ha':a<4294967296)(hb:0<=b)(hb':b<4294967296):Calls prog 179 #[.int .i64 34,.int .u32 a,.int .u32 b] w fun e w'=>e=.returned (.int .u32 (Wd.eT 34 a b))/\w'=w:=by go_enter func179,ntmps179;go_wp2_with (go_at_call 190;refine(nW _ _ (by omega) (by omega)).mono ?_;rintro e w' ⟨rfl,rfl⟩);go_ret;exact⟨au (rfl),rfl⟩
theorem XZ (a b:Int)(w:World)(ha:0<=a)(ha':a<4294967296)(hb:0<=b)(hb':b<4294967296):Calls prog 179 #[.int .i64 35,.int .u32 a,.int .u32 b] w fun e w'=>e=.returned (.int .u32 (Wd.eT 35 a b))/\w'=w:=by go_enter func179,ntmps179;go_wp2_with (first|(go_at_call 188;refine(bI _ _ (by omega) (by omega)).mono ?_;rintro e w' ⟨rfl,rfl⟩)|(go_at_call 190;refine(nW _ _ (by omega) (by omega)).mono ?_;rintro e w' ⟨rfl,rfl⟩));go_ret;exact⟨au (rfl),rfl⟩
theorem X4 (a b:Int)(w:World)(ha:0<=a)(ha':a<4294967296)(hb:0<=b)(hb':b<4294967296):Calls prog 179 #[.int .i64 31,.int .u32 a,.int .u32 b] w fun e w'=>e=.returned (.int .u32 (Wd.eT 31 a b))/\w'=w:=by go_enter func179,ntmps179;go_wp2_with (first|(go_at_call 188;refine(bI _ _ (by omega) (by omega)).mono ?_;rintro e w' ⟨rfl,rfl⟩)|(go_at_call 191;refine(wu _ _).mono ?_;rintro e w' ⟨rfl,rfl⟩));go_ret;exact⟨au (rfl),rfl⟩
theorem Ya (a b:Int)(w:World)(ha:0<=a)(ha':a<4294967296)(hb:0<=b)(hb':b<4294967296):Calls prog 179 #[.int .i64 32,.int .u32 a,.int .u32 b] w fun e w'=>e=.returned (.int .u32 (Wd.eT 32 a b))/\w'=w:=by go_enter func179,ntmps179;go_wp2_with (go_at_call 191;refine(wu _ _).mono ?_;rintro e w' ⟨rfl,rfl⟩);go_ret;exact⟨au (rfl),rfl⟩
theorem Yb (a b:Int)(w:World)(ha:0<=a)(ha':a<4294967296)(hb:0<=b)(hb':b<4294967296):Calls prog 179 #[.int .i64 38,.int .u32 a,.int .u32 b] w fun e w'=>e=.returned (.int .u32 (Wd.eT 38 a b))/\w'=w:=by go_enter func179,ntmps179;go_wp2;go_ret;exact⟨au (rfl),rfl⟩
theorem Yc (a b:Int)(w:World)(ha:0<=a)(ha':a<4294967296)(hb:0<=b)(hb':b<4294967296):Calls prog 179 #[.int .i64 39,.int .u32 a,.int .u32 b] w fun e w'=>e=.returned (.int .u32 (Wd.eT 39 a b))/\w'=w:=by have sa:=Wd.rA ha ha';have sb:=Wd.rA hb hb';have mb:=Wd.K7 (x:=Wd.sg a) (y:=Wd.sg b) (by omega) (by omega) (by omega) (by omega);go_enter func179,ntmps179;go_wp2_with (first|(go_at_call 188;refine(bI _ _ (by omega) (by omega)).mono ?_;rintro e w' ⟨rfl,rfl⟩)|(go_at_call 192;refine(wy _ _ (by omega) (by omega)).mono ?_;rintro e w' ⟨rfl,rfl⟩));go_ret;exact⟨au (rfl),rfl⟩
theorem Yd (a b:Int)(w:World)(ha:0<=a)(ha':a<4294967296)(hb:0<=b)(hb':b<4294967296):Calls prog 179 #[.int .i64 40,.int .u32 a,.int .u32 b] w fun e w'=>e=.returned (.int .u32 (Wd.eT 40 a b))/\w'=w:=by have sa:=Wd.rA ha ha';have sb:=Wd.rA hb hb';have mb:=Wd.K7 (x:=Wd.sg a) (y:=b) (by omega) (by omega) (by omega) (by omega);go_enter func179,ntmps179;go_wp2_with (first|(go_at_call 188;refine(bI _ _ (by omega) (by omega)).mono ?_;rintro e w' ⟨rfl,rfl⟩)|(go_at_call 192;refine(wy _ _ (by omega) (by omega)).mono ?_;rintro e w' ⟨rfl,rfl⟩));go_ret;exact⟨au (rfl),rfl⟩
theorem Ye (a b:Int)(w:World)(ha:0<=a)(ha':a<4294967296)(hb:0<=b)(hb':b<4294967296):Calls prog 179 #[.int .i64 41,.int .u32 a,.int .u32 b] w fun e w'=>e=.returned (.int .u32 (Wd.eT 41 a b))/\w'=w:=by have mb:=Wd.Rv ha ha' hb hb';go_enter func179,ntmps179;go_wp2;go_ret;exact⟨au (by show _=Wd.hi (a*b);unfold Wd.hi;omega),rfl⟩
theorem Yf (a b:Int)(w:World)(ha:0<=a)(ha':a<4294967296)(hb:0<=b)(hb':b<4294967296):Calls prog 179 #[.int .i64 42,.int .u32 a,.int .u32 b] w fun e w'=>e=.returned (.int .u32 (Wd.eT 42 a b))/\w'=w:=by go_enter func179,ntmps179;go_wp2_with (go_at_call 193;refine(yh _ _ _ (by omega) (by omega) (by omega) (by omega)).mono ?_;rintro e w' ⟨rfl,rfl⟩);go_ret;exact⟨au (rfl),rfl⟩
theorem Yg (a b:Int)(w:World)(ha:0<=a)(ha':a<4294967296)(hb:0<=b)(hb':b<4294967296):Calls prog 179 #[.int .i64 44,.int .u32 a,.int .u32 b] w fun e w'=>e=.returned (.int .u32 (Wd.eT 44 a b))/\w'=w:=by go_enter func179,ntmps179;go_wp2_with (go_at_call 194;refine(vG _ _ _ (by omega) (by omega) (by omega) (by omega)).mono ?_;rintro e w' ⟨rfl,rfl⟩);go_ret;exact⟨au (rfl),rfl⟩
theorem Yh (a b:Int)(w:World)(ha:0<=a)(ha':a<4294967296)(hb:0<=b)(hb':b<4294967296):Calls prog 179 #[.int .i64 43,.int .u32 a,.int .u32 b] w fun e w'=>e=.returned (.int .u32 (Wd.eT 43 a b))/\w'=w:=by go_enter func179,ntmps179;go_wp2_with (go_at_call 195;refine(o5 _ _ _ (by omega) (by omega) (by omega) (by omega)).mono ?_;rintro e w' ⟨rfl,rfl⟩);go_ret;exact⟨au (rfl),rfl⟩
theorem Yi (a b:Int)(w:World)(ha:0<=a)(ha':a<4294967296)(hb:0<=b)(hb':b<4294967296):Calls prog 179 #[.int .i64 45,.int .u32 a,.int .u32 b] w fun e w'=>e=.returned (.int .u32 (Wd.eT 45 a b))/\w'=w:=by go_enter func179,ntmps179;go_wp2_with (go_at_call 196;refine(nX _ _ _ (by omega) (by omega) (by omega) (by omega)).mono ?_;rintro e w' ⟨rfl,rfl⟩);go_ret;exact⟨au (rfl),rfl⟩
theorem jE (op a b:Int)(w:World)(ha:0<=a)(ha':a<4294967296)(hb:0<=b)(hb':b<4294967296):Calls prog 179 #[.int .i64 op,.int .u32 a,.int .u32 b] w fun e w'=>e=.returned (.int .u32 (Wd.eT op a b))/\w'=w:=by
 by_cases h28:op=28
 ·subst h28;exact XR a b w ha ha' hb hb'
 by_cases h29:op=29
 ·subst h29;exact XT a b w ha ha' hb hb'
 by_cases h37:op=37
 ·subst h37;exact XU a b w ha ha' hb hb'
 by_cases h36:op=36
 ·subst h36;exact XV a b w ha ha' hb hb'
 by_cases h33:op=33
 ·subst h33;exact XW a b w ha ha' hb hb'
 by_cases h30:op=30
 ·subst h30;exact XX a b w ha ha' hb hb'
 by_cases h34:op=34
 ·subst h34;exact XY a b w ha ha' hb hb'
 by_cases h35:op=35
 ·subst h35;exact XZ a b w ha ha' hb hb'
 by_cases h31:op=31
 ·subst h31;exact X4 a b w ha ha' hb hb'
 by_cases h32:op=32
 ·subst h32;exact Ya a b w ha ha' hb hb'
 by_cases h38:op=38
 ·subst h38;exact Yb a b w ha ha' hb hb'
 by_cases WH:op=39
 ·subst WH;exact Yc a b w ha ha' hb hb'
 by_cases QR:op=40
 ·subst QR;exact Yd a b w ha ha' hb hb'
 by_cases h41:op=41
 ·subst h41;exact Ye a b w ha ha' hb hb'
 by_cases h42:op=42
 ·subst h42;exact Yf a b w ha ha' hb hb'
 by_cases h44:op=44
 ·subst h44;exact Yg a b w ha ha' hb hb'
 by_cases h43:op=43
 ·subst h43;exact Yh a b w ha ha' hb hb'
 by_cases h45:op=45
 ·subst h45;exact Yi a b w ha ha' hb hb'
 have H:Hid (Wd.eT op a b=0):=(by unfold Wd.eT;rw[at6 h28,at6 h29,at6 h37,at6 h36,at6 h33,at6 h30,at6 h34,at6 h35,at6 h31,at6 h32,at6 h38,at6 WH,at6 QR,at6 h41,at6 h42,at6 h44,at6 h43,at6 h45]:_=_);replace h28:(op ==28)=false:=aub.2 h28;replace h29:(op ==29)=false:=aub.2 h29;replace h37:(op ==37)=false:=aub.2 h37;replace h36:(op ==36)=false:=aub.2 h36;replace h33:(op ==33)=false:=aub.2 h33;replace h30:(op ==30)=false:=aub.2 h30;replace h34:(op ==34)=false:=aub.2 h34;replace h35:(op ==35)=false:=aub.2 h35;replace h31:(op ==31)=false:=aub.2 h31;replace h32:(op ==32)=false:=aub.2 h32;replace h38:(op ==38)=false:=aub.2 h38;replace WH:(op ==39)=false:=aub.2 WH;replace QR:(op ==40)=false:=aub.2 QR;replace h41:(op ==41)=false:=aub.2 h41;replace h42:(op ==42)=false:=aub.2 h42;replace h44:(op ==44)=false:=aub.2 h44;replace h43:(op ==43)=false:=aub.2 h43;replace h45:(op ==45)=false:=aub.2 h45;go_enter func179,ntmps179;go_wp2;go_ret;exact⟨au H.out.symm,rfl⟩
theorem RP (a b:Int)(w:World)(ha:0<=a)(ha':a<4294967296)(hb:0<=b)(hb':b<4294967296):Calls prog 176 #[.int .i64 5,.int .u32 a,.int .u32 b] w fun e w'=>e=.returned (.bool (Wd.holds 5 a b))/\w'=w:=by go_enter func176,ntmps176;go_wp2_with (go_at_call 188;refine(bI _ _ (by omega) (by omega)).mono ?_;rintro e w' ⟨rfl,rfl⟩);go_ret;exact⟨aM (rfl),rfl⟩
theorem RQ (a b:Int)(w:World)(ha:0<=a)(ha':a<4294967296)(hb:0<=b)(hb':b<4294967296):Calls prog 176 #[.int .i64 6,.int .u32 a,.int .u32 b] w fun e w'=>e=.returned (.bool (Wd.holds 6 a b))/\w'=w:=by go_enter func176,ntmps176;go_wp2_with (go_at_call 188;refine(bI _ _ (by omega) (by omega)).mono ?_;rintro e w' ⟨rfl,rfl⟩);go_ret;exact⟨aM (by show(a !=b)=decide (a≠b);rw[arx];simp),rfl⟩
theorem RU (a b:Int)(w:World)(ha:0<=a)(ha':a<4294967296)(hb:0<=b)(hb':b<4294967296):Calls prog 176 #[.int .i64 7,.int .u32 a,.int .u32 b] w fun e w'=>e=.returned (.bool (Wd.holds 7 a b))/\w'=w:=by go_enter func176,ntmps176;go_wp2_with (go_at_call 188;refine(bI _ _ (by omega) (by omega)).mono ?_;rintro e w' ⟨rfl,rfl⟩);go_ret;exact⟨aM (rfl),rfl⟩
theorem RV (a b:Int)(w:World)(ha:0<=a)(ha':a<4294967296)(hb:0<=b)(hb':b<4294967296):Calls prog 176 #[.int .i64 8,.int .u32 a,.int .u32 b] w fun e w'=>e=.returned (.bool (Wd.holds 8 a b))/\w'=w:=by go_enter func176,ntmps176;go_wp2_with (go_at_call 188;refine(bI _ _ (by omega) (by omega)).mono ?_;rintro e w' ⟨rfl,rfl⟩);go_ret;exact⟨aM (rfl),rfl⟩
theorem RX (a b:Int)(w:World)(ha:0<=a)(ha':a<4294967296)(hb:0<=b)(hb':b<4294967296):Calls prog 176 #[.int .i64 9,.int .u32 a,.int .u32 b] w fun e w'=>e=.returned (.bool (Wd.holds 9 a b))/\w'=w:=by go_enter func176,ntmps176;go_wp2_with (go_at_call 188;refine(bI _ _ (by omega) (by omega)).mono ?_;rintro e w' ⟨rfl,rfl⟩);go_ret;exact⟨aM (rfl),rfl⟩
theorem Lx (a b:Int)(w:World)(ha:0<=a)(ha':a<4294967296)(hb:0<=b)(hb':b<4294967296):Calls prog 176 #[.int .i64 10,.int .u32 a,.int .u32 b] w fun e w'=>e=.returned (.bool (Wd.holds 10 a b))/\w'=w:=by go_enter func176,ntmps176;go_wp2_with (go_at_call 188;refine(bI _ _ (by omega) (by omega)).mono ?_;rintro e w' ⟨rfl,rfl⟩);go_ret;exact⟨aM (rfl),rfl⟩
theorem wz (op a b:Int)(w:World)(ha:0<=a)(ha':a<4294967296)(hb:0<=b)(hb':b<4294967296):Calls prog 176 #[.int .i64 op,.int .u32 a,.int .u32 b] w fun e w'=>e=.returned (.bool (Wd.holds op a b))/\w'=w:=by
 by_cases h5:op=5
 ·subst h5;exact RP a b w ha ha' hb hb'
 by_cases h6:op=6
 ·subst h6;exact RQ a b w ha ha' hb hb'
 by_cases h7:op=7
 ·subst h7;exact RU a b w ha ha' hb hb'
 by_cases h8:op=8
 ·subst h8;exact RV a b w ha ha' hb hb'
 by_cases h9:op=9
 ·subst h9;exact RX a b w ha ha' hb hb'
 by_cases h10:op=10
 ·subst h10;exact Lx a b w ha ha' hb hb'
 have H:Hid (Wd.holds op a b=false):=(by unfold Wd.holds;rw[at6 h5,at6 h6,at6 h7,at6 h8,at6 h9,at6 h10]:_=_);replace h5:(op ==5)=false:=aub.2 h5;replace h6:(op ==6)=false:=aub.2 h6;replace h7:(op ==7)=false:=aub.2 h7;replace h8:(op ==8)=false:=aub.2 h8;replace h9:(op ==9)=false:=aub.2 h9;replace h10:(op ==10)=false:=aub.2 h10;go_enter func176,ntmps176;go_wp2;go_ret;exact⟨aM H.out.symm,rfl⟩
theorem Yj (a b:Int)(w:World)(ha:0<=a)(ha':a<4294967296)(hb:0<=b)(hb':b<4294967296):Calls prog 199 #[.int .i64 48,.int .u32 a,.int .u32 b] w fun e w'=>e=.returned (.int .u32 (Wd.mO 48 a b))/\w'=w:=by go_enter func199,ntmps199;go_wp2_with fail;go_ret;exact⟨au (rfl),rfl⟩
theorem Yk (a b:Int)(w:World)(ha:0<=a)(ha':a<4294967296)(hb:0<=b)(hb':b<4294967296):Calls prog 199 #[.int .i64 49,.int .u32 a,.int .u32 b] w fun e w'=>e=.returned (.int .u32 (Wd.mO 49 a b))/\w'=w:=by go_enter func199,ntmps199;go_wp2_with (go_at_call 179;refine(jE _ _ _ _ (by omega) (by omega) (by omega) (by omega)).mono ?_;rintro e w' ⟨rfl,rfl⟩);go_ret;exact⟨au (rfl),rfl⟩
theorem Yl (a b:Int)(w:World)(ha:0<=a)(ha':a<4294967296)(hb:0<=b)(hb':b<4294967296):Calls prog 199 #[.int .i64 50,.int .u32 a,.int .u32 b] w fun e w'=>e=.returned (.int .u32 (Wd.mO 50 a b))/\w'=w:=by go_enter func199,ntmps199;go_wp2_with (go_at_call 179;refine(jE _ _ _ _ (by omega) (by omega) (by omega) (by omega)).mono ?_;rintro e w' ⟨rfl,rfl⟩);go_ret;exact⟨au (rfl),rfl⟩
theorem Ym (a b:Int)(w:World)(ha:0<=a)(ha':a<4294967296)(hb:0<=b)(hb':b<4294967296):Calls prog 199 #[.int .i64 51,.int .u32 a,.int .u32 b] w fun e w'=>e=.returned (.int .u32 (Wd.mO 51 a b))/\w'=w:=by go_enter func199,ntmps199;go_wp2_with (go_at_call 179;refine(jE _ _ _ _ (by omega) (by omega) (by omega) (by omega)).mono ?_;rintro e w' ⟨rfl,rfl⟩);go_ret;exact⟨au (rfl),rfl⟩
theorem Yn (a b:Int)(w:World)(ha:0<=a)(ha':a<4294967296)(hb:0<=b)(hb':b<4294967296):Calls prog 199 #[.int .i64 52,.int .u32 a,.int .u32 b] w fun e w'=>e=.returned (.int .u32 (Wd.mO 52 a b))/\w'=w:=by go_enter func199,ntmps199;go_wp2_with (go_at_call 179;refine(jE _ _ _ _ (by omega) (by omega) (by omega) (by omega)).mono ?_;rintro e w' ⟨rfl,rfl⟩);go_ret;exact⟨au (rfl),rfl⟩
theorem Yo (a b:Int)(w:World)(ha:0<=a)(ha':a<4294967296)(hb:0<=b)(hb':b<4294967296):Calls prog 199 #[.int .i64 53,.int .u32 a,.int .u32 b] w fun e w'=>e=.returned (.int .u32 (Wd.mO 53 a b))/\w'=w:=by
 have la:Hid (Wd.sg a%4294967296=a):=Wd.rC ha ha';have lb:Hid (Wd.sg b%4294967296=b):=Wd.rC hb hb';go_enter func199,ntmps199;go_wp2_with (go_at_call 188;refine(bI _ _ (by omega) (by omega)).mono ?_;rintro e w' ⟨rfl,rfl⟩)
 all_goals
  go_ret;exact⟨au (by have:=la.out;have:=lb.out;show _=(if Wd.sg a<Wd.sg b then a else b);split<;>omega),rfl⟩
theorem Yp (a b:Int)(w:World)(ha:0<=a)(ha':a<4294967296)(hb:0<=b)(hb':b<4294967296):Calls prog 199 #[.int .i64 54,.int .u32 a,.int .u32 b] w fun e w'=>e=.returned (.int .u32 (Wd.mO 54 a b))/\w'=w:=by
 have la:Hid (Wd.sg a%4294967296=a):=Wd.rC ha ha';have lb:Hid (Wd.sg b%4294967296=b):=Wd.rC hb hb';go_enter func199,ntmps199;go_wp2_with (go_at_call 188;refine(bI _ _ (by omega) (by omega)).mono ?_;rintro e w' ⟨rfl,rfl⟩)
 all_goals
  go_ret;exact⟨au (by have:=la.out;have:=lb.out;show _=(if Wd.sg a<Wd.sg b then b else a);split<;>omega),rfl⟩
theorem Yq (a b:Int)(w:World)(ha:0<=a)(ha':a<4294967296)(hb:0<=b)(hb':b<4294967296):Calls prog 199 #[.int .i64 55,.int .u32 a,.int .u32 b] w fun e w'=>e=.returned (.int .u32 (Wd.mO 55 a b))/\w'=w:=by
 have la:=kH (Wd.rC ha ha');have lb:=kH (Wd.rC hb hb');go_enter func199,ntmps199;go_wp2_with (go_at_call 188;refine(bI _ _ (by omega) (by omega)).mono ?_;rintro e w' ⟨rfl,rfl⟩)
 all_goals
  go_ret;exact⟨au (by have:=la.out;have:=lb.out;show _=(if a<b then a else b);split<;>omega),rfl⟩
theorem Yr (a b:Int)(w:World)(ha:0<=a)(ha':a<4294967296)(hb:0<=b)(hb':b<4294967296):Calls prog 199 #[.int .i64 56,.int .u32 a,.int .u32 b] w fun e w'=>e=.returned (.int .u32 (Wd.mO 56 a b))/\w'=w:=by
 have la:=kH (Wd.rC ha ha');have lb:=kH (Wd.rC hb hb');go_enter func199,ntmps199;go_wp2_with (go_at_call 188;refine(bI _ _ (by omega) (by omega)).mono ?_;rintro e w' ⟨rfl,rfl⟩)
 all_goals
  go_ret;exact⟨au (by have:=la.out;have:=lb.out;show _=(if a<b then b else a);split<;>omega),rfl⟩
theorem Fu (op a b:Int)(w:World)(ha:0<=a)(ha':a<4294967296)(hb:0<=b)(hb':b<4294967296):Calls prog 199 #[.int .i64 op,.int .u32 a,.int .u32 b] w fun e w'=>e=.returned (.int .u32 (Wd.mO op a b))/\w'=w:=by
 by_cases h48:op=48
 ·subst h48;exact Yj a b w ha ha' hb hb'
 by_cases h49:op=49
 ·subst h49;exact Yk a b w ha ha' hb hb'
 by_cases h50:op=50
 ·subst h50;exact Yl a b w ha ha' hb hb'
 by_cases Yt:op=51
 ·subst Yt;exact Ym a b w ha ha' hb hb'
 by_cases h52:op=52
 ·subst h52;exact Yn a b w ha ha' hb hb'
 by_cases h53:op=53
 ·subst h53;exact Yo a b w ha ha' hb hb'
 by_cases h54:op=54
 ·subst h54;exact Yp a b w ha ha' hb hb'
 by_cases h55:op=55
 ·subst h55;exact Yq a b w ha ha' hb hb'
 by_cases h56:op=56
 ·subst h56;exact Yr a b w ha ha' hb hb'
 have H:Hid (Wd.mO op a b=0):=(by unfold Wd.mO;rw[at6 h48,at6 h49,at6 h50,at6 Yt,at6 h52,at6 h53,at6 h54,at6 h55,at6 h56]:_=_);replace h48:(op ==48)=false:=aub.2 h48;replace h49:(op ==49)=false:=aub.2 h49;replace h50:(op ==50)=false:=aub.2 h50;replace Yt:(op ==51)=false:=aub.2 Yt;replace h52:(op ==52)=false:=aub.2 h52;replace h53:(op ==53)=false:=aub.2 h53;replace h54:(op ==54)=false:=aub.2 h54;replace h55:(op ==55)=false:=aub.2 h55;replace h56:(op ==56)=false:=aub.2 h56;go_enter func199,ntmps199;go_wp2;go_ret;exact⟨au H.out.symm,rfl⟩
end Ww
namespace Hc
variable [Inhabited Go.Proofs.YtiadhbmnfjfioaaGreatDoor.Hc.bN]
open Mm Hh

variable {h :Hv} {w :World} {base g :Nat} {l :List UInt8} {os :List Int} {ss :List (Int × Int)}
theorem aG (n a b:Int)(w:World):Calls prog 97 #[.int .i64 n,.int .i64 a,.int .i64 b] w fun e w'=>e=.returned (.bool (decide (a<=n) && decide (n<=b)))/\w'=w:=by
 by_cases h1:a<=n
 ·by_cases h2:n<=b
  ·go_enter func97,ntmps97;go_wp2;go_ret;exact⟨aM (by simp[h1,h2]),rfl⟩
  ·go_enter func97,ntmps97;go_wp2;go_ret;exact⟨aM (by simp[h1,h2]),rfl⟩
 ·go_enter func97,ntmps97;go_wp2;go_ret;exact⟨aM (by simp;omega),rfl⟩
theorem Fv (h:Hv)(o:h.Ok):(hA h)[0]?=some (.int .u32 (rg h 0))/\(hA h)[33]?=some (.bool h.held)/\(hA h)[34]?=some (.int .u32 h.aP)/\(hA h)[35]?=some (.int .i64 h.state)/\(hA h)[36]?=some (.int .i64 h.cause):=by unfold hA;simp only[apm];exact⟨lC o (by omega),aW o 1,aW o 2,aW o 3,aW o 4⟩
theorem yj {h:Hv}(o:h.Ok)(w:World):Calls prog 69 #[.agg (hA h)] w fun e w'=>e=.returned (.bool (may h))/\Gr w w':=by
 obtain⟨c0,c1,c2,c3,c4⟩:=Fv h o;have HM:Hid (may h=decide (rg h 0=0/\(h.held=false->h.aP=0)/\(((h.state=0\/h.state=1)/\h.cause=0)\/(h.state=2/\1<=h.cause/\h.cause<=6)))):=rfl;generalize may h=M at *
 generalize hA h=A at *
 generalize rg h 0=x0 at *
 generalize h.held=x1 at *
 generalize h.aP=x2 at *
 generalize h.state=x3 at *
 generalize h.cause=x4 at *
 cases x1
 all_goals
  go_enter func69,ntmps69;go_wp2_with (go_at_call 97;refine(aG _ _ _ _).mono ?_;rintro e w' ⟨rfl,rfl⟩)
  all_goals
   go_ret;refine⟨aM ?_,(Gr.refl _).alloc _⟩;rw[HM.out,arx];simp at *
   omega
theorem dK (I:In w base g h l os ss)(c:Int):Calls prog 134 #[.pointer (some ⟨g,0,none⟩),.int .i64 c] w fun e w'=>e=.returned (.tuple #[])/\In w' base g (h.trap c) l os ss/\Ch g w w':=by
 obtain⟨c0,rfl,I⟩:=I;have k1:=(I.hcell (by omega)).trans (aW I.ok 3);have k2:=(I.hcell (by omega)).trans (aW I.ok 4);have fz:=I.fz;have o1:Hv.Ok { c0.h with state:=2 }:=⟨I.ok.len,I.ok.reg,I.ok.nH,I.ok.jV,I.ok.x9,I.ok.zO⟩;have J:Hid (Inv ((w.setCell ⟨g,35,none⟩ (.int .i64 2)).setCell ⟨g,36,none⟩ (.int .i64 c)) base g { c0 with h:=c0.h.trap c } l os ss):=
  (I.set (by omega) (mR I.ok 2) o1).set (c:={ c0 with h:={ c0.h with state:=2 } }) (by omega) (wm o1 c) (I.ok.trap c)
 generalize c0.h.state=x1 at k1;generalize c0.h.cause=x2 at k2;go_enter func134,ntmps134;go_wp2;go_end0;exact⟨rfl,⟨_,rfl,J.out⟩,((Ch.refl g w).setCell _ _).setCell _ _⟩
theorem yl (I:In w base g h l os ss)(r x:Int)(h0:0<=r)(h1:r<32)(hx0:0<=x)(hx1:x<4294967296):Calls prog 162 #[.pointer (some ⟨g,0,none⟩),.int .i64 r,.int .u32 x] w fun e w'=>e=.returned (.tuple #[])/\In w' base g (h.set r.toNat x) l os ss/\Ch g w w':=by
 obtain⟨c0,rfl,I⟩:=I;obtain⟨r,rfl⟩:=apt h0;simp only[apG];by_cases hr:r=0
 ·subst hr;have J:=kH I;go_enter func162,ntmps162;go_wp2;go_end0;exact⟨rfl,⟨c0,rfl,J.out⟩,Ch.refl g w⟩
 ·have hr2:r<32:=by omega
  have k1:=I.reg hr2;have fz:=I.fz;have e:c0.h.set r x={ c0.h with regs:=c0.h.regs.set r x }:=at6 hr;have ok:=I.ok.set r hx0 hx1;rw[e]at ok ⊢;have J:=kH (I.set (by omega) (yc I.ok hr2 x) ok);have hr':¬(r:Int)=0:=by omega
  generalize rg c0.h r=y at k1;go_enter func162,ntmps162;go_wp2;go_end0;exact⟨rfl,⟨_,rfl,J.out⟩,(Ch.refl g w).setCell _ _⟩
theorem dY (I:In w base g h l os ss)(hl:l.length<=140737488351232)(op a:Int)(h0:0<=a)(h1:a<4294967296):Calls prog 177 #[.pointer (some ⟨g,0,none⟩),.int .i64 op,.int .u32 a] w fun e w'=>e=.returned (.tuple #[.int .u32 (aN l op a),.bool (bM l op a)])/\In w' base g (if bM l op a=true then h else h.trap 3) l os ss/\Ch g w w':=by
 have T:Hid (∀c,_):=fun c=>dK I c
 have HI:=kH I;obtain⟨c0,rfl,I⟩:=I;obtain⟨ao,cap,hm,M⟩:=I.mem.mem;have k1:w.cell? ⟨g,37,none⟩=some (.slice ao l.length cap):=(I.dJ 0).trans (by rw[hm];rfl);have L:=kH (Mm.dY cap op a M hl h0 h1);generalize aN l op a=X at *
 generalize bM l op a=B at *
 generalize l.length=n at *
 cases B
 ·go_enter func177,ntmps177;go_wp2_with fail;refine L.out.mono ?_;rintro e w' ⟨rfl,rfl⟩;go_wp2_with fail;refine(T.out 3).mono ?_;rintro e w2 ⟨rfl,I2,C2⟩;have HI2:=kH I2;go_wp2;go_ret2;exact⟨rfl,HI2.out,C2⟩
 ·go_enter func177,ntmps177;go_wp2_with fail;refine L.out.mono ?_;rintro e w' ⟨rfl,rfl⟩;go_wp2;go_ret2;exact⟨rfl,HI.out,Ch.refl _ _⟩
theorem Fw (x:Int)(h0:0<=x)(h1:x<4294967296):bits .andNot .u32 x 1=x-x%2:=by
 obtain⟨x,rfl⟩:=apt h0;show IntKind.u32.wrap ((BitVec.ofInt 32 (x:Int) &&& ~~~ BitVec.ofInt 32 1).toNat:Int)=_
 have e:(~~~ BitVec.ofInt 32 1).toNat=(2^31-1)*2^1:=by decide
 rw[avk,ofInt32 x h1,e,Dc.jT];show((x/2^1%2^31*2^1:Nat):Int)%4294967296=_
 omega
theorem LA {w:World}{base g:Nat}{h:Hv}{l:List UInt8}{os:List Int}{ss:List (Int×Int)}(I:In w base g h l os ss)(op a b n:Int)(ha:0<=a)(ha':a<4294967296)(hb:0<=b)(hb':b<4294967296)(hn:0<=n)(hn':n<4294967296):Calls prog 160 #[.pointer (some ⟨g,0,none⟩),.int .i64 op,.int .u32 a,.int .u32 b,.int .u32 n] w fun e w'=>e=.returned (.int .u32 (qD h op a b n))/\w'=w:=by
 obtain⟨c0,rfl,I⟩:=I;have k1:=(I.hcell (by omega)).trans (aW I.ok 0);have p0:=I.ok.nH;have p1:=I.ok.jV;have HN:Hid (qD c0.h op a b n=if op=4 then Wd.lo (a+n)-Wd.lo (a+n)%2 else if op=3\/Wd.holds op a b=true then Wd.lo (c0.h.pc+n)else Wd.lo (c0.h.pc+4)):=rfl;generalize qD c0.h op a b n=N at *
 generalize c0.h.pc=pc at *
 have H:Hid (∀w,_):=fun w=>Ww.wz op a b w ha ha' hb hb'
 by_cases h4:op=4
 ·have b4:(op ==4)=true:=by simp[h4]
  have HE:Hid (N=Wd.lo (a+n)-Wd.lo (a+n)%2):=by unfold Hid;rw[HN.out,at7 h4]
  go_enter func160,ntmps160;go_wp2_with fail;go_ret;refine⟨au ?_,rfl⟩;rw[HE.out,Fw _ (by omega) (by omega)];rfl
 ·have b4:(op ==4)=false:=by simp[h4]
  by_cases h3:op=3
  ·have b3:(op ==3)=true:=by simp[h3]
   have HE:Hid (N=Wd.lo (pc+n)):=by unfold Hid;rw[HN.out,at6 h4,at7 (.inl h3)]
   go_enter func160,ntmps160;go_wp2_with fail;go_ret;exact⟨au (by rw[HE.out];rfl),rfl⟩
  ·have b3:(op ==3)=false:=by simp[h3]
   have HE:Hid (N=if Wd.holds op a b=true then Wd.lo (pc+n)else Wd.lo (pc+4)):=by unfold Hid;rw[HN.out,at6 h4];simp[h3]
   generalize Wd.holds op a b=B at *
   cases B
   ·go_enter func160,ntmps160;go_wp2_with fail;refine(H.out _).mono ?_;rintro e w' ⟨rfl,rfl⟩;go_wp2_with fail;go_ret;exact⟨au (by rw[HE.out];rfl),rfl⟩
   ·go_enter func160,ntmps160;go_wp2_with fail;refine(H.out _).mono ?_;rintro e w' ⟨rfl,rfl⟩;go_wp2_with fail;go_ret;exact⟨au (by rw[HE.out];rfl),rfl⟩
end Hc
end Go.Proofs.YtiadhbmnfjfioaaGreatDoor
