/-
  WordWalks, Hm1, Hm2, Kr3, Kr5, Kd: texts of ours that lie in one file.
-/
import Derived.Test.YtchllaeembmioaaGreatDoorRows
import Derived.Test.YtchllaeembmioaaGreatDoorK01
import Derived.WalkKit
import Derived.ProofKit
import Derived.OpenShut
import Derived.Test.YtchllaeembmioaaGreatDoorK02
import Derived.Deep.RegionLaw
set_option linter.unusedVariables false
set_option linter.unusedSimpArgs false
set_option maxHeartbeats 8000000
set_option maxRecDepth 100000
namespace Go.Proofs.YtchllaeembmioaaGreatDoor.Ww
open Go.ChangeShapes Go.WideShapes Go.ChangeAt Go.RowKit

theorem ret_int {k:IntKind}{a b:Int}(h:a=b):Ending.returned (.int k a)=.returned (.int k b):=by rw [h]
theorem ret_bool {a b:Bool}(h:a=b):Ending.returned (.bool a)=.returned (.bool b):=by rw [h]
theorem wrap_u32' (n:Int):IntKind.u32.wrap n=n%4294967296:=by rfl
theorem ofInt32 (a:Nat)(ha:(a:Int)<4294967296):(BitVec.ofInt 32 (a:Int)).toNat=a:=by
 rw [BitVec.ofInt_natCast,BitVec.toNat_ofNat];exact Nat.mod_eq_of_lt (by omega)
theorem bits_and_u32 (a b:Int)(ha:0≤a)(ha':a<4294967296)(hb:0≤b)(hb':b<4294967296):bits .and .u32 a b=Wd.band a b:=by
 obtain ⟨a,rfl⟩:=Int.eq_ofNat_of_zero_le ha
 obtain ⟨b,rfl⟩:=Int.eq_ofNat_of_zero_le hb
 have hx:a &&& b<2 ^ 32:=Nat.and_lt_two_pow _ (by omega)
 show IntKind.u32.wrap ((BitVec.ofInt 32 (a:Int) &&& BitVec.ofInt 32 (b:Int)).toNat:Int)=_
 rw [BitVec.toNat_and,ofInt32 a ha',ofInt32 b hb',wrap_u32']
 simp only [Wd.band,Int.toNat_natCast]
 omega
theorem bits_or_u32 (a b:Int)(ha:0≤a)(ha':a<4294967296)(hb:0≤b)(hb':b<4294967296):bits .or .u32 a b=Wd.bor a b:=by
 obtain ⟨a,rfl⟩:=Int.eq_ofNat_of_zero_le ha
 obtain ⟨b,rfl⟩:=Int.eq_ofNat_of_zero_le hb
 have hx:a ||| b<2 ^ 32:=Nat.or_lt_two_pow (by omega) (by omega)
 show IntKind.u32.wrap ((BitVec.ofInt 32 (a:Int) ||| BitVec.ofInt 32 (b:Int)).toNat:Int)=_
 rw [BitVec.toNat_or,ofInt32 a ha',ofInt32 b hb',wrap_u32']
 simp only [Wd.bor,Int.toNat_natCast]
 omega
theorem bits_xor_u32 (a b:Int)(ha:0≤a)(ha':a<4294967296)(hb:0≤b)(hb':b<4294967296):bits .xor .u32 a b=Wd.bxor a b:=by
 obtain ⟨a,rfl⟩:=Int.eq_ofNat_of_zero_le ha
 obtain ⟨b,rfl⟩:=Int.eq_ofNat_of_zero_le hb
 have hx:a ^^^ b<2 ^ 32:=Nat.xor_lt_two_pow (by omega) (by omega)
 show IntKind.u32.wrap ((BitVec.ofInt 32 (a:Int) ^^^ BitVec.ofInt 32 (b:Int)).toNat:Int)=_
 rw [BitVec.toNat_xor,ofInt32 a ha',ofInt32 b hb',wrap_u32']
 simp only [Wd.bxor,Int.toNat_natCast]
 omega
theorem wrap32_sg (a:Int)(ha:0≤a)(ha':a<4294967296):wrap32 a=Wd.sg a:=by
 unfold wrap32 Wd.sg;split<;>omega
theorem wrap32_lo (n:Int):wrap32 n%4294967296=Wd.lo n:=by
 unfold wrap32 Wd.lo;omega
theorem band_31 (a:Int)(ha:0≤a):Wd.band a 31=a%32:=by
 unfold Wd.band
 have h:a.toNat &&& (31:Int).toNat=a.toNat%32:=Nat.and_two_pow_sub_one_eq_mod a.toNat 5
 rw [h];omega
theorem upper_hi (a:Int):IntKind.u64.wrap a/4294967296%4294967296=Wd.hi a:=by
 rw [IntKind.wrap_u64];unfold Wd.hi;omega
theorem signed_any (a:Int)(w:World)(ha:0≤a)(ha':a<4294967296):
  Calls Tryz.prog 129 #[.int .u32 a] w fun e w'=>e=.returned (.int .i32 (Wd.sg a))∧w'=w:=by
 go_enter Tryz.func129,Tryz.ntmps129
 go_wp2
 go_ret
 exact ⟨ret_int (wrap32_sg a ha ha'),rfl⟩
theorem places_any (a:Int)(w:World)(ha:0≤a)(ha':a<4294967296):
  Calls Tryz.prog 131 #[.int .u32 a] w fun e w'=>e=.returned (.int .u32 (a%32))∧w'=w:=by
 go_enter Tryz.func131,Tryz.ntmps131
 go_wp2
 go_ret
 exact ⟨ret_int ((bits_and_u32 a 31 ha ha' (by omega) (by omega)).trans (band_31 a ha)),rfl⟩
theorem truth_any (b:Bool)(w:World):
  Calls Tryz.prog 132 #[.bool b] w fun e w'=>e=.returned (.int .u32 (Wd.tr b))∧w'=w:=by
 cases b
 all_goals
  go_enter Tryz.func132,Tryz.ntmps132
  go_wp2
  go_ret
  exact ⟨rfl,rfl⟩
theorem upper_any (a:Int)(w:World)(ha : -9223372036854775808≤a)(ha':a≤9223372036854775807):
  Calls Tryz.prog 133 #[.int .i64 a] w fun e w'=>e=.returned (.int .u32 (Wd.hi a))∧w'=w:=by
 go_enter Tryz.func133,Tryz.ntmps133
 go_wp2
 go_ret
 exact ⟨ret_int (upper_hi a),rfl⟩
theorem quotient_any (a b:Int)(w:World)(ha:0≤a)(ha':a<4294967296)(hb:0≤b)(hb':b<4294967296):
  Calls Tryz.prog 134 #[.int .u32 a,.int .u32 b] w fun e w'=>e=.returned (.int .u32 (Wd.dv a b))∧w'=w:=by
 by_cases h0:b=0
 ·subst h0
  go_enter Tryz.func134,Tryz.ntmps134
  go_wp2
  go_ret
  exact ⟨rfl,rfl⟩
 ·have hz:¬Wd.sg b=0:=fun h=>h0 ((Wd.sg_zero hb hb').1 h)
  have hb0:(b == 0)=false:=by simpa using h0
  have sa:=Wd.sg_bd ha ha'
  have sb:=Wd.sg_bd hb hb'
  have H:Hid (Wd.dv a b=Wd.lo ((Wd.sg a).tdiv (Wd.sg b))):=(by unfold Wd.dv;rw [if_neg h0]:_=_)
  go_enter Tryz.func134,Tryz.ntmps134
  go_wp2_with (go_at_call 129;refine (signed_any _ _ (by omega) (by omega)).mono ?_;rintro e w' ⟨rfl,rfl⟩)
  go_ret
  exact ⟨ret_int ((wrap32_lo _).trans H.out.symm),rfl⟩
theorem remainder_any (a b:Int)(w:World)(ha:0≤a)(ha':a<4294967296)(hb:0≤b)(hb':b<4294967296):
  Calls Tryz.prog 135 #[.int .u32 a,.int .u32 b] w fun e w'=>e=.returned (.int .u32 (Wd.rm a b))∧w'=w:=by
 by_cases h0:b=0
 ·subst h0
  go_enter Tryz.func135,Tryz.ntmps135
  go_wp2
  go_ret
  exact ⟨rfl,rfl⟩
 ·have hz:¬Wd.sg b=0:=fun h=>h0 ((Wd.sg_zero hb hb').1 h)
  have hb0:(b == 0)=false:=by simpa using h0
  have sa:=Wd.sg_bd ha ha'
  have sb:=Wd.sg_bd hb hb'
  have H:Hid (Wd.rm a b=Wd.lo ((Wd.sg a).tmod (Wd.sg b))):=(by unfold Wd.rm;rw [if_neg h0]:_=_)
  go_enter Tryz.func135,Tryz.ntmps135
  go_wp2_with (go_at_call 129;refine (signed_any _ _ (by omega) (by omega)).mono ?_;rintro e w' ⟨rfl,rfl⟩)
  go_ret
  exact ⟨ret_int (H.out.symm),rfl⟩
theorem plainQuotient_any (a b:Int)(w:World)(ha:0≤a)(ha':a<4294967296)(hb:0≤b)(hb':b<4294967296):
  Calls Tryz.prog 136 #[.int .u32 a,.int .u32 b] w fun e w'=>e=.returned (.int .u32 (Wd.dvu a b))∧w'=w:=by
 by_cases h0:b=0
 ·subst h0
  go_enter Tryz.func136,Tryz.ntmps136
  go_wp2
  go_ret
  exact ⟨rfl,rfl⟩
 ·have hb0:(b == 0)=false:=by simpa using h0
  have H:Hid (Wd.dvu a b=a/b):=(by unfold Wd.dvu;rw [if_neg h0]:_=_)
  go_enter Tryz.func136,Tryz.ntmps136
  go_wp2
  go_ret
  exact ⟨ret_int H.out.symm,rfl⟩
theorem plainRemainder_any (a b:Int)(w:World)(ha:0≤a)(ha':a<4294967296)(hb:0≤b)(hb':b<4294967296):
  Calls Tryz.prog 137 #[.int .u32 a,.int .u32 b] w fun e w'=>e=.returned (.int .u32 (Wd.rmu a b))∧w'=w:=by
 by_cases h0:b=0
 ·subst h0
  go_enter Tryz.func137,Tryz.ntmps137
  go_wp2
  go_ret
  exact ⟨rfl,rfl⟩
 ·have hb0:(b == 0)=false:=by simpa using h0
  have H:Hid (Wd.rmu a b=a%b):=(by unfold Wd.rmu;rw [if_neg h0]:_=_)
  go_enter Tryz.func137,Tryz.ntmps137
  go_wp2
  go_ret
  exact ⟨ret_int H.out.symm,rfl⟩
theorem alu_28 (a b:Int)(w:World)(ha:0≤a)(ha':a<4294967296)(hb:0≤b)(hb':b<4294967296):
  Calls Tryz.prog 112 #[.int .i64 28,.int .u32 a,.int .u32 b] w fun e w'=>e=.returned (.int .u32 (Wd.alu 28 a b))∧w'=w:=by
 go_enter Tryz.func112,Tryz.ntmps112
 go_wp2
 go_ret
 exact ⟨ret_int (rfl),rfl⟩
theorem alu_29 (a b:Int)(w:World)(ha:0≤a)(ha':a<4294967296)(hb:0≤b)(hb':b<4294967296):
  Calls Tryz.prog 112 #[.int .i64 29,.int .u32 a,.int .u32 b] w fun e w'=>e=.returned (.int .u32 (Wd.alu 29 a b))∧w'=w:=by
 go_enter Tryz.func112,Tryz.ntmps112
 go_wp2
 go_ret
 exact ⟨ret_int (rfl),rfl⟩
theorem alu_37 (a b:Int)(w:World)(ha:0≤a)(ha':a<4294967296)(hb:0≤b)(hb':b<4294967296):
  Calls Tryz.prog 112 #[.int .i64 37,.int .u32 a,.int .u32 b] w fun e w'=>e=.returned (.int .u32 (Wd.alu 37 a b))∧w'=w:=by
 go_enter Tryz.func112,Tryz.ntmps112
 go_wp2
 go_ret
 exact ⟨ret_int (bits_and_u32 a b ha ha' hb hb'),rfl⟩
theorem alu_36 (a b:Int)(w:World)(ha:0≤a)(ha':a<4294967296)(hb:0≤b)(hb':b<4294967296):
  Calls Tryz.prog 112 #[.int .i64 36,.int .u32 a,.int .u32 b] w fun e w'=>e=.returned (.int .u32 (Wd.alu 36 a b))∧w'=w:=by
 go_enter Tryz.func112,Tryz.ntmps112
 go_wp2
 go_ret
 exact ⟨ret_int (bits_or_u32 a b ha ha' hb hb'),rfl⟩
theorem alu_33 (a b:Int)(w:World)(ha:0≤a)(ha':a<4294967296)(hb:0≤b)(hb':b<4294967296):
  Calls Tryz.prog 112 #[.int .i64 33,.int .u32 a,.int .u32 b] w fun e w'=>e=.returned (.int .u32 (Wd.alu 33 a b))∧w'=w:=by
 go_enter Tryz.func112,Tryz.ntmps112
 go_wp2
 go_ret
 exact ⟨ret_int (bits_xor_u32 a b ha ha' hb hb'),rfl⟩
theorem alu_30 (a b:Int)(w:World)(ha:0≤a)(ha':a<4294967296)(hb:0≤b)(hb':b<4294967296):
  Calls Tryz.prog 112 #[.int .i64 30,.int .u32 a,.int .u32 b] w fun e w'=>e=.returned (.int .u32 (Wd.alu 30 a b))∧w'=w:=by
 go_enter Tryz.func112,Tryz.ntmps112
 go_wp2_with (go_at_call 131;refine (places_any _ _ (by omega) (by omega)).mono ?_;rintro e w' ⟨rfl,rfl⟩)
 go_ret
 exact ⟨ret_int (rfl),rfl⟩
theorem alu_34 (a b:Int)(w:World)(ha:0≤a)(ha':a<4294967296)(hb:0≤b)(hb':b<4294967296):
  Calls Tryz.prog 112 #[.int .i64 34,.int .u32 a,.int .u32 b] w fun e w'=>e=.returned (.int .u32 (Wd.alu 34 a b))∧w'=w:=by
 go_enter Tryz.func112,Tryz.ntmps112
 go_wp2_with (go_at_call 131;refine (places_any _ _ (by omega) (by omega)).mono ?_;rintro e w' ⟨rfl,rfl⟩)
 go_ret
 exact ⟨ret_int (rfl),rfl⟩
theorem alu_35 (a b:Int)(w:World)(ha:0≤a)(ha':a<4294967296)(hb:0≤b)(hb':b<4294967296):
  Calls Tryz.prog 112 #[.int .i64 35,.int .u32 a,.int .u32 b] w fun e w'=>e=.returned (.int .u32 (Wd.alu 35 a b))∧w'=w:=by
 go_enter Tryz.func112,Tryz.ntmps112
 go_wp2_with (first|(go_at_call 129;refine (signed_any _ _ (by omega) (by omega)).mono ?_;rintro e w' ⟨rfl,rfl⟩)|(go_at_call 131;refine (places_any _ _ (by omega) (by omega)).mono ?_;rintro e w' ⟨rfl,rfl⟩))
 go_ret
 exact ⟨ret_int (rfl),rfl⟩
theorem alu_31 (a b:Int)(w:World)(ha:0≤a)(ha':a<4294967296)(hb:0≤b)(hb':b<4294967296):
  Calls Tryz.prog 112 #[.int .i64 31,.int .u32 a,.int .u32 b] w fun e w'=>e=.returned (.int .u32 (Wd.alu 31 a b))∧w'=w:=by
 go_enter Tryz.func112,Tryz.ntmps112
 go_wp2_with (first|(go_at_call 129;refine (signed_any _ _ (by omega) (by omega)).mono ?_;rintro e w' ⟨rfl,rfl⟩)|(go_at_call 132;refine (truth_any _ _).mono ?_;rintro e w' ⟨rfl,rfl⟩))
 go_ret
 exact ⟨ret_int (rfl),rfl⟩
theorem alu_32 (a b:Int)(w:World)(ha:0≤a)(ha':a<4294967296)(hb:0≤b)(hb':b<4294967296):
  Calls Tryz.prog 112 #[.int .i64 32,.int .u32 a,.int .u32 b] w fun e w'=>e=.returned (.int .u32 (Wd.alu 32 a b))∧w'=w:=by
 go_enter Tryz.func112,Tryz.ntmps112
 go_wp2_with (go_at_call 132;refine (truth_any _ _).mono ?_;rintro e w' ⟨rfl,rfl⟩)
 go_ret
 exact ⟨ret_int (rfl),rfl⟩
theorem alu_38 (a b:Int)(w:World)(ha:0≤a)(ha':a<4294967296)(hb:0≤b)(hb':b<4294967296):
  Calls Tryz.prog 112 #[.int .i64 38,.int .u32 a,.int .u32 b] w fun e w'=>e=.returned (.int .u32 (Wd.alu 38 a b))∧w'=w:=by
 go_enter Tryz.func112,Tryz.ntmps112
 go_wp2
 go_ret
 exact ⟨ret_int (rfl),rfl⟩
theorem alu_39 (a b:Int)(w:World)(ha:0≤a)(ha':a<4294967296)(hb:0≤b)(hb':b<4294967296):
  Calls Tryz.prog 112 #[.int .i64 39,.int .u32 a,.int .u32 b] w fun e w'=>e=.returned (.int .u32 (Wd.alu 39 a b))∧w'=w:=by
 have sa:=Wd.sg_bd ha ha'
 have sb:=Wd.sg_bd hb hb'
 have mb:=Wd.mul_bd (x:=Wd.sg a) (y:=Wd.sg b) (by omega) (by omega) (by omega) (by omega)
 go_enter Tryz.func112,Tryz.ntmps112
 go_wp2_with (first|(go_at_call 129;refine (signed_any _ _ (by omega) (by omega)).mono ?_;rintro e w' ⟨rfl,rfl⟩)|(go_at_call 133;refine (upper_any _ _ (by omega) (by omega)).mono ?_;rintro e w' ⟨rfl,rfl⟩))
 go_ret
 exact ⟨ret_int (rfl),rfl⟩
theorem alu_40 (a b:Int)(w:World)(ha:0≤a)(ha':a<4294967296)(hb:0≤b)(hb':b<4294967296):
  Calls Tryz.prog 112 #[.int .i64 40,.int .u32 a,.int .u32 b] w fun e w'=>e=.returned (.int .u32 (Wd.alu 40 a b))∧w'=w:=by
 have sa:=Wd.sg_bd ha ha'
 have sb:=Wd.sg_bd hb hb'
 have mb:=Wd.mul_bd (x:=Wd.sg a) (y:=b) (by omega) (by omega) (by omega) (by omega)
 go_enter Tryz.func112,Tryz.ntmps112
 go_wp2_with (first|(go_at_call 129;refine (signed_any _ _ (by omega) (by omega)).mono ?_;rintro e w' ⟨rfl,rfl⟩)|(go_at_call 133;refine (upper_any _ _ (by omega) (by omega)).mono ?_;rintro e w' ⟨rfl,rfl⟩))
 go_ret
 exact ⟨ret_int (rfl),rfl⟩
theorem alu_41 (a b:Int)(w:World)(ha:0≤a)(ha':a<4294967296)(hb:0≤b)(hb':b<4294967296):
  Calls Tryz.prog 112 #[.int .i64 41,.int .u32 a,.int .u32 b] w fun e w'=>e=.returned (.int .u32 (Wd.alu 41 a b))∧w'=w:=by
 have mb:=Wd.mulu_bd ha ha' hb hb'
 go_enter Tryz.func112,Tryz.ntmps112
 go_wp2
 go_ret
 exact ⟨ret_int (by show _=Wd.hi (a*b);unfold Wd.hi;omega),rfl⟩
theorem alu_42 (a b:Int)(w:World)(ha:0≤a)(ha':a<4294967296)(hb:0≤b)(hb':b<4294967296):
  Calls Tryz.prog 112 #[.int .i64 42,.int .u32 a,.int .u32 b] w fun e w'=>e=.returned (.int .u32 (Wd.alu 42 a b))∧w'=w:=by
 go_enter Tryz.func112,Tryz.ntmps112
 go_wp2_with (go_at_call 134;refine (quotient_any _ _ _ (by omega) (by omega) (by omega) (by omega)).mono ?_;rintro e w' ⟨rfl,rfl⟩)
 go_ret
 exact ⟨ret_int (rfl),rfl⟩
theorem alu_44 (a b:Int)(w:World)(ha:0≤a)(ha':a<4294967296)(hb:0≤b)(hb':b<4294967296):
  Calls Tryz.prog 112 #[.int .i64 44,.int .u32 a,.int .u32 b] w fun e w'=>e=.returned (.int .u32 (Wd.alu 44 a b))∧w'=w:=by
 go_enter Tryz.func112,Tryz.ntmps112
 go_wp2_with (go_at_call 135;refine (remainder_any _ _ _ (by omega) (by omega) (by omega) (by omega)).mono ?_;rintro e w' ⟨rfl,rfl⟩)
 go_ret
 exact ⟨ret_int (rfl),rfl⟩
theorem alu_43 (a b:Int)(w:World)(ha:0≤a)(ha':a<4294967296)(hb:0≤b)(hb':b<4294967296):
  Calls Tryz.prog 112 #[.int .i64 43,.int .u32 a,.int .u32 b] w fun e w'=>e=.returned (.int .u32 (Wd.alu 43 a b))∧w'=w:=by
 go_enter Tryz.func112,Tryz.ntmps112
 go_wp2_with (go_at_call 136;refine (plainQuotient_any _ _ _ (by omega) (by omega) (by omega) (by omega)).mono ?_;rintro e w' ⟨rfl,rfl⟩)
 go_ret
 exact ⟨ret_int (rfl),rfl⟩
theorem alu_45 (a b:Int)(w:World)(ha:0≤a)(ha':a<4294967296)(hb:0≤b)(hb':b<4294967296):
  Calls Tryz.prog 112 #[.int .i64 45,.int .u32 a,.int .u32 b] w fun e w'=>e=.returned (.int .u32 (Wd.alu 45 a b))∧w'=w:=by
 go_enter Tryz.func112,Tryz.ntmps112
 go_wp2_with (go_at_call 137;refine (plainRemainder_any _ _ _ (by omega) (by omega) (by omega) (by omega)).mono ?_;rintro e w' ⟨rfl,rfl⟩)
 go_ret
 exact ⟨ret_int (rfl),rfl⟩
theorem alu_any (op a b:Int)(w:World)(ha:0≤a)(ha':a<4294967296)(hb:0≤b)(hb':b<4294967296):
  Calls Tryz.prog 112 #[.int .i64 op,.int .u32 a,.int .u32 b] w fun e w'=>e=.returned (.int .u32 (Wd.alu op a b))∧w'=w:=by
 by_cases h28:op=28
 ·subst h28;exact alu_28 a b w ha ha' hb hb'
 by_cases h29:op=29
 ·subst h29;exact alu_29 a b w ha ha' hb hb'
 by_cases h37:op=37
 ·subst h37;exact alu_37 a b w ha ha' hb hb'
 by_cases h36:op=36
 ·subst h36;exact alu_36 a b w ha ha' hb hb'
 by_cases h33:op=33
 ·subst h33;exact alu_33 a b w ha ha' hb hb'
 by_cases h30:op=30
 ·subst h30;exact alu_30 a b w ha ha' hb hb'
 by_cases h34:op=34
 ·subst h34;exact alu_34 a b w ha ha' hb hb'
 by_cases h35:op=35
 ·subst h35;exact alu_35 a b w ha ha' hb hb'
 by_cases h31:op=31
 ·subst h31;exact alu_31 a b w ha ha' hb hb'
 by_cases h32:op=32
 ·subst h32;exact alu_32 a b w ha ha' hb hb'
 by_cases h38:op=38
 ·subst h38;exact alu_38 a b w ha ha' hb hb'
 by_cases h39:op=39
 ·subst h39;exact alu_39 a b w ha ha' hb hb'
 by_cases h40:op=40
 ·subst h40;exact alu_40 a b w ha ha' hb hb'
 by_cases h41:op=41
 ·subst h41;exact alu_41 a b w ha ha' hb hb'
 by_cases h42:op=42
 ·subst h42;exact alu_42 a b w ha ha' hb hb'
 by_cases h44:op=44
 ·subst h44;exact alu_44 a b w ha ha' hb hb'
 by_cases h43:op=43
 ·subst h43;exact alu_43 a b w ha ha' hb hb'
 by_cases h45:op=45
 ·subst h45;exact alu_45 a b w ha ha' hb hb'
 have H:Hid (Wd.alu op a b=0):=(by unfold Wd.alu;rw [if_neg h28,if_neg h29,if_neg h37,if_neg h36,if_neg h33,if_neg h30,if_neg h34,if_neg h35,if_neg h31,if_neg h32,if_neg h38,if_neg h39,if_neg h40,if_neg h41,if_neg h42,if_neg h44,if_neg h43,if_neg h45]:_=_)
 replace h28:(op == 28)=false:=beq_eq_false_iff_ne.2 h28
 replace h29:(op == 29)=false:=beq_eq_false_iff_ne.2 h29
 replace h37:(op == 37)=false:=beq_eq_false_iff_ne.2 h37
 replace h36:(op == 36)=false:=beq_eq_false_iff_ne.2 h36
 replace h33:(op == 33)=false:=beq_eq_false_iff_ne.2 h33
 replace h30:(op == 30)=false:=beq_eq_false_iff_ne.2 h30
 replace h34:(op == 34)=false:=beq_eq_false_iff_ne.2 h34
 replace h35:(op == 35)=false:=beq_eq_false_iff_ne.2 h35
 replace h31:(op == 31)=false:=beq_eq_false_iff_ne.2 h31
 replace h32:(op == 32)=false:=beq_eq_false_iff_ne.2 h32
 replace h38:(op == 38)=false:=beq_eq_false_iff_ne.2 h38
 replace h39:(op == 39)=false:=beq_eq_false_iff_ne.2 h39
 replace h40:(op == 40)=false:=beq_eq_false_iff_ne.2 h40
 replace h41:(op == 41)=false:=beq_eq_false_iff_ne.2 h41
 replace h42:(op == 42)=false:=beq_eq_false_iff_ne.2 h42
 replace h44:(op == 44)=false:=beq_eq_false_iff_ne.2 h44
 replace h43:(op == 43)=false:=beq_eq_false_iff_ne.2 h43
 replace h45:(op == 45)=false:=beq_eq_false_iff_ne.2 h45
 go_enter Tryz.func112,Tryz.ntmps112
 go_wp2
 go_ret
 exact ⟨ret_int H.out.symm,rfl⟩
theorem holds_5 (a b:Int)(w:World)(ha:0≤a)(ha':a<4294967296)(hb:0≤b)(hb':b<4294967296):
  Calls Tryz.prog 109 #[.int .i64 5,.int .u32 a,.int .u32 b] w fun e w'=>e=.returned (.bool (Wd.holds 5 a b))∧w'=w:=by
 go_enter Tryz.func109,Tryz.ntmps109
 go_wp2_with (go_at_call 129;refine (signed_any _ _ (by omega) (by omega)).mono ?_;rintro e w' ⟨rfl,rfl⟩)
 go_ret
 exact ⟨ret_bool (rfl),rfl⟩
theorem holds_6 (a b:Int)(w:World)(ha:0≤a)(ha':a<4294967296)(hb:0≤b)(hb':b<4294967296):
  Calls Tryz.prog 109 #[.int .i64 6,.int .u32 a,.int .u32 b] w fun e w'=>e=.returned (.bool (Wd.holds 6 a b))∧w'=w:=by
 go_enter Tryz.func109,Tryz.ntmps109
 go_wp2_with (go_at_call 129;refine (signed_any _ _ (by omega) (by omega)).mono ?_;rintro e w' ⟨rfl,rfl⟩)
 go_ret
 exact ⟨ret_bool (by show (a != b)=decide (a≠b);rw [Bool.eq_iff_iff];simp),rfl⟩
theorem holds_7 (a b:Int)(w:World)(ha:0≤a)(ha':a<4294967296)(hb:0≤b)(hb':b<4294967296):
  Calls Tryz.prog 109 #[.int .i64 7,.int .u32 a,.int .u32 b] w fun e w'=>e=.returned (.bool (Wd.holds 7 a b))∧w'=w:=by
 go_enter Tryz.func109,Tryz.ntmps109
 go_wp2_with (go_at_call 129;refine (signed_any _ _ (by omega) (by omega)).mono ?_;rintro e w' ⟨rfl,rfl⟩)
 go_ret
 exact ⟨ret_bool (rfl),rfl⟩
theorem holds_8 (a b:Int)(w:World)(ha:0≤a)(ha':a<4294967296)(hb:0≤b)(hb':b<4294967296):
  Calls Tryz.prog 109 #[.int .i64 8,.int .u32 a,.int .u32 b] w fun e w'=>e=.returned (.bool (Wd.holds 8 a b))∧w'=w:=by
 go_enter Tryz.func109,Tryz.ntmps109
 go_wp2_with (go_at_call 129;refine (signed_any _ _ (by omega) (by omega)).mono ?_;rintro e w' ⟨rfl,rfl⟩)
 go_ret
 exact ⟨ret_bool (rfl),rfl⟩
theorem holds_9 (a b:Int)(w:World)(ha:0≤a)(ha':a<4294967296)(hb:0≤b)(hb':b<4294967296):
  Calls Tryz.prog 109 #[.int .i64 9,.int .u32 a,.int .u32 b] w fun e w'=>e=.returned (.bool (Wd.holds 9 a b))∧w'=w:=by
 go_enter Tryz.func109,Tryz.ntmps109
 go_wp2_with (go_at_call 129;refine (signed_any _ _ (by omega) (by omega)).mono ?_;rintro e w' ⟨rfl,rfl⟩)
 go_ret
 exact ⟨ret_bool (rfl),rfl⟩
theorem holds_10 (a b:Int)(w:World)(ha:0≤a)(ha':a<4294967296)(hb:0≤b)(hb':b<4294967296):
  Calls Tryz.prog 109 #[.int .i64 10,.int .u32 a,.int .u32 b] w fun e w'=>e=.returned (.bool (Wd.holds 10 a b))∧w'=w:=by
 go_enter Tryz.func109,Tryz.ntmps109
 go_wp2_with (go_at_call 129;refine (signed_any _ _ (by omega) (by omega)).mono ?_;rintro e w' ⟨rfl,rfl⟩)
 go_ret
 exact ⟨ret_bool (rfl),rfl⟩
theorem holds_any (op a b:Int)(w:World)(ha:0≤a)(ha':a<4294967296)(hb:0≤b)(hb':b<4294967296):
  Calls Tryz.prog 109 #[.int .i64 op,.int .u32 a,.int .u32 b] w fun e w'=>e=.returned (.bool (Wd.holds op a b))∧w'=w:=by
 by_cases h5:op=5
 ·subst h5;exact holds_5 a b w ha ha' hb hb'
 by_cases h6:op=6
 ·subst h6;exact holds_6 a b w ha ha' hb hb'
 by_cases h7:op=7
 ·subst h7;exact holds_7 a b w ha ha' hb hb'
 by_cases h8:op=8
 ·subst h8;exact holds_8 a b w ha ha' hb hb'
 by_cases h9:op=9
 ·subst h9;exact holds_9 a b w ha ha' hb hb'
 by_cases h10:op=10
 ·subst h10;exact holds_10 a b w ha ha' hb hb'
 have H:Hid (Wd.holds op a b=false):=(by unfold Wd.holds;rw [if_neg h5,if_neg h6,if_neg h7,if_neg h8,if_neg h9,if_neg h10]:_=_)
 replace h5:(op == 5)=false:=beq_eq_false_iff_ne.2 h5
 replace h6:(op == 6)=false:=beq_eq_false_iff_ne.2 h6
 replace h7:(op == 7)=false:=beq_eq_false_iff_ne.2 h7
 replace h8:(op == 8)=false:=beq_eq_false_iff_ne.2 h8
 replace h9:(op == 9)=false:=beq_eq_false_iff_ne.2 h9
 replace h10:(op == 10)=false:=beq_eq_false_iff_ne.2 h10
 go_enter Tryz.func109,Tryz.ntmps109
 go_wp2
 go_ret
 exact ⟨ret_bool H.out.symm,rfl⟩
theorem amo_48 (a b:Int)(w:World)(ha:0≤a)(ha':a<4294967296)(hb:0≤b)(hb':b<4294967296):
  Calls Tryz.prog 140 #[.int .i64 48,.int .u32 a,.int .u32 b] w fun e w'=>e=.returned (.int .u32 (Wd.amo 48 a b))∧w'=w:=by
 go_enter Tryz.func140,Tryz.ntmps140
 go_wp2_with fail
 go_ret
 exact ⟨ret_int (rfl),rfl⟩
theorem amo_49 (a b:Int)(w:World)(ha:0≤a)(ha':a<4294967296)(hb:0≤b)(hb':b<4294967296):
  Calls Tryz.prog 140 #[.int .i64 49,.int .u32 a,.int .u32 b] w fun e w'=>e=.returned (.int .u32 (Wd.amo 49 a b))∧w'=w:=by
 go_enter Tryz.func140,Tryz.ntmps140
 go_wp2_with (go_at_call 112;refine (alu_any _ _ _ _ (by omega) (by omega) (by omega) (by omega)).mono ?_;rintro e w' ⟨rfl,rfl⟩)
 go_ret
 exact ⟨ret_int (rfl),rfl⟩
theorem amo_50 (a b:Int)(w:World)(ha:0≤a)(ha':a<4294967296)(hb:0≤b)(hb':b<4294967296):
  Calls Tryz.prog 140 #[.int .i64 50,.int .u32 a,.int .u32 b] w fun e w'=>e=.returned (.int .u32 (Wd.amo 50 a b))∧w'=w:=by
 go_enter Tryz.func140,Tryz.ntmps140
 go_wp2_with (go_at_call 112;refine (alu_any _ _ _ _ (by omega) (by omega) (by omega) (by omega)).mono ?_;rintro e w' ⟨rfl,rfl⟩)
 go_ret
 exact ⟨ret_int (rfl),rfl⟩
theorem amo_51 (a b:Int)(w:World)(ha:0≤a)(ha':a<4294967296)(hb:0≤b)(hb':b<4294967296):
  Calls Tryz.prog 140 #[.int .i64 51,.int .u32 a,.int .u32 b] w fun e w'=>e=.returned (.int .u32 (Wd.amo 51 a b))∧w'=w:=by
 go_enter Tryz.func140,Tryz.ntmps140
 go_wp2_with (go_at_call 112;refine (alu_any _ _ _ _ (by omega) (by omega) (by omega) (by omega)).mono ?_;rintro e w' ⟨rfl,rfl⟩)
 go_ret
 exact ⟨ret_int (rfl),rfl⟩
theorem amo_52 (a b:Int)(w:World)(ha:0≤a)(ha':a<4294967296)(hb:0≤b)(hb':b<4294967296):
  Calls Tryz.prog 140 #[.int .i64 52,.int .u32 a,.int .u32 b] w fun e w'=>e=.returned (.int .u32 (Wd.amo 52 a b))∧w'=w:=by
 go_enter Tryz.func140,Tryz.ntmps140
 go_wp2_with (go_at_call 112;refine (alu_any _ _ _ _ (by omega) (by omega) (by omega) (by omega)).mono ?_;rintro e w' ⟨rfl,rfl⟩)
 go_ret
 exact ⟨ret_int (rfl),rfl⟩
theorem amo_53 (a b:Int)(w:World)(ha:0≤a)(ha':a<4294967296)(hb:0≤b)(hb':b<4294967296):
  Calls Tryz.prog 140 #[.int .i64 53,.int .u32 a,.int .u32 b] w fun e w'=>e=.returned (.int .u32 (Wd.amo 53 a b))∧w'=w:=by
 have la:Hid (Wd.sg a%4294967296=a):=Wd.sg_lo ha ha'
 have lb:Hid (Wd.sg b%4294967296=b):=Wd.sg_lo hb hb'
 go_enter Tryz.func140,Tryz.ntmps140
 go_wp2_with (go_at_call 129;refine (signed_any _ _ (by omega) (by omega)).mono ?_;rintro e w' ⟨rfl,rfl⟩)
 all_goals
  go_ret
  exact ⟨ret_int (by have:=la.out;have:=lb.out;show _=(if Wd.sg a<Wd.sg b then a else b);split<;>omega),rfl⟩
theorem amo_54 (a b:Int)(w:World)(ha:0≤a)(ha':a<4294967296)(hb:0≤b)(hb':b<4294967296):
  Calls Tryz.prog 140 #[.int .i64 54,.int .u32 a,.int .u32 b] w fun e w'=>e=.returned (.int .u32 (Wd.amo 54 a b))∧w'=w:=by
 have la:Hid (Wd.sg a%4294967296=a):=Wd.sg_lo ha ha'
 have lb:Hid (Wd.sg b%4294967296=b):=Wd.sg_lo hb hb'
 go_enter Tryz.func140,Tryz.ntmps140
 go_wp2_with (go_at_call 129;refine (signed_any _ _ (by omega) (by omega)).mono ?_;rintro e w' ⟨rfl,rfl⟩)
 all_goals
  go_ret
  exact ⟨ret_int (by have:=la.out;have:=lb.out;show _=(if Wd.sg a<Wd.sg b then b else a);split<;>omega),rfl⟩
theorem amo_55 (a b:Int)(w:World)(ha:0≤a)(ha':a<4294967296)(hb:0≤b)(hb':b<4294967296):
  Calls Tryz.prog 140 #[.int .i64 55,.int .u32 a,.int .u32 b] w fun e w'=>e=.returned (.int .u32 (Wd.amo 55 a b))∧w'=w:=by
 have la:Hid (Wd.sg a%4294967296=a):=Wd.sg_lo ha ha'
 have lb:Hid (Wd.sg b%4294967296=b):=Wd.sg_lo hb hb'
 go_enter Tryz.func140,Tryz.ntmps140
 go_wp2_with (go_at_call 129;refine (signed_any _ _ (by omega) (by omega)).mono ?_;rintro e w' ⟨rfl,rfl⟩)
 all_goals
  go_ret
  exact ⟨ret_int (by have:=la.out;have:=lb.out;show _=(if a<b then a else b);split<;>omega),rfl⟩
theorem amo_56 (a b:Int)(w:World)(ha:0≤a)(ha':a<4294967296)(hb:0≤b)(hb':b<4294967296):
  Calls Tryz.prog 140 #[.int .i64 56,.int .u32 a,.int .u32 b] w fun e w'=>e=.returned (.int .u32 (Wd.amo 56 a b))∧w'=w:=by
 have la:Hid (Wd.sg a%4294967296=a):=Wd.sg_lo ha ha'
 have lb:Hid (Wd.sg b%4294967296=b):=Wd.sg_lo hb hb'
 go_enter Tryz.func140,Tryz.ntmps140
 go_wp2_with (go_at_call 129;refine (signed_any _ _ (by omega) (by omega)).mono ?_;rintro e w' ⟨rfl,rfl⟩)
 all_goals
  go_ret
  exact ⟨ret_int (by have:=la.out;have:=lb.out;show _=(if a<b then b else a);split<;>omega),rfl⟩
theorem amo_any (op a b:Int)(w:World)(ha:0≤a)(ha':a<4294967296)(hb:0≤b)(hb':b<4294967296):
  Calls Tryz.prog 140 #[.int .i64 op,.int .u32 a,.int .u32 b] w fun e w'=>e=.returned (.int .u32 (Wd.amo op a b))∧w'=w:=by
 by_cases h48:op=48
 ·subst h48;exact amo_48 a b w ha ha' hb hb'
 by_cases h49:op=49
 ·subst h49;exact amo_49 a b w ha ha' hb hb'
 by_cases h50:op=50
 ·subst h50;exact amo_50 a b w ha ha' hb hb'
 by_cases h51:op=51
 ·subst h51;exact amo_51 a b w ha ha' hb hb'
 by_cases h52:op=52
 ·subst h52;exact amo_52 a b w ha ha' hb hb'
 by_cases h53:op=53
 ·subst h53;exact amo_53 a b w ha ha' hb hb'
 by_cases h54:op=54
 ·subst h54;exact amo_54 a b w ha ha' hb hb'
 by_cases h55:op=55
 ·subst h55;exact amo_55 a b w ha ha' hb hb'
 by_cases h56:op=56
 ·subst h56;exact amo_56 a b w ha ha' hb hb'
 have H:Hid (Wd.amo op a b=0):=(by unfold Wd.amo;rw [if_neg h48,if_neg h49,if_neg h50,if_neg h51,if_neg h52,if_neg h53,if_neg h54,if_neg h55,if_neg h56]:_=_)
 replace h48:(op == 48)=false:=beq_eq_false_iff_ne.2 h48
 replace h49:(op == 49)=false:=beq_eq_false_iff_ne.2 h49
 replace h50:(op == 50)=false:=beq_eq_false_iff_ne.2 h50
 replace h51:(op == 51)=false:=beq_eq_false_iff_ne.2 h51
 replace h52:(op == 52)=false:=beq_eq_false_iff_ne.2 h52
 replace h53:(op == 53)=false:=beq_eq_false_iff_ne.2 h53
 replace h54:(op == 54)=false:=beq_eq_false_iff_ne.2 h54
 replace h55:(op == 55)=false:=beq_eq_false_iff_ne.2 h55
 replace h56:(op == 56)=false:=beq_eq_false_iff_ne.2 h56
 go_enter Tryz.func140,Tryz.ntmps140
 go_wp2
 go_ret
 exact ⟨ret_int H.out.symm,rfl⟩
end Go.Proofs.YtchllaeembmioaaGreatDoor.Ww
namespace Go.Proofs.YtchllaeembmioaaGreatDoor.Hc
open Go.ChangeShapes Go.WideShapes Go.ChangeAt Go.RowKit Mm Hh

variable {h : Hv} {w : World} {base g : Nat} {l : List UInt8} {os : List Int} {ss : List (Int × Int)}
theorem within_any (n a b:Int)(w:World):Calls Tryz.prog 90 #[.int .i64 n,.int .i64 a,.int .i64 b] w fun e w'=>e=.returned (.bool (decide (a≤n) && decide (n≤b)))∧w'=w:=by
 by_cases h1:a≤n
 ·by_cases h2:n≤b
  ·go_enter Tryz.func90,Tryz.ntmps90
   go_wp2
   go_ret
   exact ⟨ret_bool (by simp [h1,h2]),rfl⟩
  ·go_enter Tryz.func90,Tryz.ntmps90
   go_wp2
   go_ret
   exact ⟨ret_bool (by simp [h1,h2]),rfl⟩
 ·go_enter Tryz.func90,Tryz.ntmps90
  go_wp2
  go_ret
  exact ⟨ret_bool (by simp;omega),rfl⟩
theorem may_get (h:Hv)(o:h.Ok):(hA h)[0]?=some (.int .u32 (rg h 0))∧(hA h)[33]?=some (.bool h.held)∧(hA h)[34]?=some (.int .u32 h.heldAt)∧(hA h)[35]?=some (.int .i64 h.state)∧(hA h)[36]?=some (.int .i64 h.cause):=by
 unfold hA
 simp only [List.getElem?_toArray]
 exact ⟨hL_reg o (by omega),hL_fld o 1,hL_fld o 2,hL_fld o 3,hL_fld o 4⟩
theorem may_any {h:Hv}(o:h.Ok)(w:World):Calls Tryz.prog 69 #[.agg (hA h)] w fun e w'=>e=.returned (.bool (may h))∧Gr w w':=by
 obtain ⟨c0,c1,c2,c3,c4⟩:=may_get h o
 have HM:Hid (may h=decide (rg h 0=0∧(h.held=false→h.heldAt=0)∧(((h.state=0∨h.state=1)∧h.cause=0)∨(h.state=2∧1≤h.cause∧h.cause≤6)))):=rfl
 generalize may h=M at *
 generalize hA h=A at *
 generalize rg h 0=x0 at *
 generalize h.held=x1 at *
 generalize h.heldAt=x2 at *
 generalize h.state=x3 at *
 generalize h.cause=x4 at *
 clear o
 cases x1
 all_goals
  go_enter Tryz.func69,Tryz.ntmps69
  go_wp2_with (go_at_call 90;refine (within_any _ _ _ _).mono ?_;rintro e w' ⟨rfl,rfl⟩)
  all_goals
   clear c0 c1 c2 c3 c4
   go_ret
   refine ⟨ret_bool ?_,(Gr.refl _).alloc _⟩
   rw [HM.out,Bool.eq_iff_iff]
   simp at *
   omega
theorem rmay_any {h:Hv}(o:h.Ok)(w:World):Calls Tryz.prog 16 #[.agg (hA h)] w fun e w'=>e=.returned (.bool (may h))∧Gr w w':=by
 obtain ⟨c0,c1,c2,c3,c4⟩:=may_get h o
 have HM:Hid (may h=decide (rg h 0=0∧(h.held=false→h.heldAt=0)∧(((h.state=0∨h.state=1)∧h.cause=0)∨(h.state=2∧1≤h.cause∧h.cause≤6)))):=rfl
 generalize may h=M at *
 generalize hA h=A at *
 generalize rg h 0=x0 at *
 generalize h.held=x1 at *
 generalize h.heldAt=x2 at *
 generalize h.state=x3 at *
 generalize h.cause=x4 at *
 clear o
 cases x1
 all_goals
  go_enter Tryz.func16,Tryz.ntmps16
  go_wp2
  all_goals
   clear c0 c1 c2 c3 c4
   go_ret
   refine ⟨ret_bool ?_,(Gr.refl _).alloc _⟩
   rw [HM.out,Bool.eq_iff_iff]
   simp at *
   omega
theorem trap_any (I:In w base g h l os ss)(c:Int):
  Calls Tryz.prog 67 #[.pointer (some ⟨g,0,none⟩),.int .i64 c] w fun e w'=>e=.returned (.tuple #[])∧In w' base g (h.trap c) l os ss∧Ch g w w':=by
 obtain ⟨c0,rfl,I⟩:=I
 have k1:w.cell? ⟨g,35,none⟩=some (.int .i64 c0.h.state):=(I.hcell (by omega)).trans (hL_fld I.ok 3)
 have k2:w.cell? ⟨g,36,none⟩=some (.int .i64 c0.h.cause):=(I.hcell (by omega)).trans (hL_fld I.ok 4)
 have fz:=I.fz
 have o1:Hv.Ok { c0.h with state:=2 }:=⟨I.ok.len,I.ok.reg,I.ok.pc0,I.ok.pc1,I.ok.at0,I.ok.at1⟩
 have J:Hid (Inv ((w.setCell ⟨g,35,none⟩ (.int .i64 2)).setCell ⟨g,36,none⟩ (.int .i64 c)) base g { c0 with h:=c0.h.trap c } l os ss):=
  (I.set (by omega) (set_state I.ok 2) o1).set (c:={ c0 with h:={ c0.h with state:=2 } }) (by omega) (set_cause o1 c) (I.ok.trap c)
 generalize c0.h.state=x1 at k1
 generalize c0.h.cause=x2 at k2
 clear I o1
 go_enter Tryz.func67,Tryz.ntmps67
 go_wp2
 go_end0
 exact ⟨rfl,⟨_,rfl,J.out⟩,((Ch.refl g w).setCell _ _).setCell _ _⟩
theorem andNot1 (x:Int)(h0:0≤x)(h1:x<4294967296):bits .andNot .u32 x 1=x-x%2:=by
 obtain ⟨x,rfl⟩:=Int.eq_ofNat_of_zero_le h0
 show IntKind.u32.wrap ((BitVec.ofInt 32 (x:Int) &&& ~~~ BitVec.ofInt 32 1).toNat:Int)=_
 have e:(~~~ BitVec.ofInt 32 1).toNat=(2 ^ 31-1)*2 ^ 1:=by decide
 rw [BitVec.toNat_and,ofInt32 x h1,e,Dc.nand_mask]
 show ((x/2 ^ 1%2 ^ 31*2 ^ 1:Nat):Int)%4294967296=_
 omega
end Go.Proofs.YtchllaeembmioaaGreatDoor.Hc
namespace Go.Proofs.YtchllaeembmioaaGreatDoor.Hc
open Go.ChangeShapes Go.WideShapes Go.ChangeAt Go.RowKit Mm Hh

variable {a op : Int} {w w' W : World} {base g n b : Nat} {h : Hv} {l : List UInt8} {os : List Int} {ss : List (Int × Int)} {x v : Value} {xs : List Value}
theorem step_append_own {P:Program}{ops:Array Oper}{o:Oper}{a:Act}{K:Act→World→Prop}{Q:Exit→Act→World→Prop}{E:Prop}
  (hg:o.guard=none)(s x:Operand)(t:TypeId)(hop:o.op=Op.call { callee:=Callee.builtin Builtin.append,args:=#[s,x],argTypes:=#[t,t] })
  (base:Nat)(e:TypeId)(i:TypeInfo)(z:Value)(size bytes:Nat)(h1:P.underlying t=some (.slice e))(h2:P.info? e=some i)(h3:i.zero=some z)(h4:i.size=size)(h5:i.bytes=bytes)(h6:z.cells.size=size)(h7:0<size)
  (v:Value)(n:Nat)(olds:List Value)(hs:a.eval s=v)(hown:w.ownsRow base e size v n olds)
  (ad:Addr)(m c:Nat)(news:List Value)(hx:a.eval x=.slice (some ad) m c)(hn:news.length=m*size)(hc:∀j u,news[j]?=some u→w.cell? (ad.add j)=some u)(h1c:∀u∈news,u.oneCell'=true)
  (b1:n+m≤maxLen)(b2:(n+m)*bytes≤140737488355328)(hbase:base≤w.heap.size)
  (hK:∀v' w',w'.ownsRow base e size v' (n+m) (olds++news)→w.grownBy w' v.ownBlock→K (a.put o.dst v') w'):
  if Region.wanted o (yielded ops a.tmps)=true then Oper.wp P o a w K Q else E:=by
 have hw:Region.wanted o (yielded ops a.tmps)=true:=by simp [Region.wanted,hg]
 rw [if_pos hw]
 obtain ⟨v',w',hrun,r1,r2,_⟩:=run_append_own (P:=P) w base t o.type e i z size bytes h1 h2 h3 h4 h5 h6 h7 v n olds hown ad m c news hn hc h1c b1 b2 hbase
 unfold Oper.wp
 simp [execOp,hop,resolve,invoke,builtin,hs,hx,hrun,Result.andThen]
 exact hK v' w' r1 r2
structure Tb (w:World) (base:Nat):Prop where
 sizes:∀i n,([0,0,0,0,0,0,0,0,0,0,0,0,0,0,0,0,1,2,4]:List Int)[i]?=some n→w.cell? ⟨4,i,none⟩=some (.int .u32 n)
 opers:∀i n,([0,0,0,0,0,0,0,0,0,0,0,0,0,0,0,0,0,0,0,28,31,32,33,36,37,30,34,35]:List Int)[i]?=some n→w.cell? ⟨1,i,none⟩=some (.int .i64 n)
 b1:4<base
 b2:1<base
theorem Tb.of (T:Tb w base)(h:Fr base w w'):Tb w' base:=
 ⟨fun i n e=>(Below.cell h.below (by exact T.b1)).trans (T.sizes i n e),fun i n e=>(Below.cell h.below (by exact T.b2)).trans (T.opers i n e),T.b1,T.b2⟩
theorem infoR:(Tryz.prog.info? 109).map (fun i=>(i.zero,i.size,i.bytes))=some (some (.agg #[.int .u32 0,.int .u32 0]),2,8):=by kernel_rfl
theorem infoU:(Tryz.prog.info? 42).map (fun i=>(i.zero,i.size,i.bytes))=some (some (.int .u32 0),1,4):=by kernel_rfl
theorem mem_store {ao:Option Addr}(cap:Nat)(op a x:Int)(M:Mem w ao n l)(hn:n≤140737488351232)(h0:0≤a)(h1:a<4294967296)(hx0:0≤x)(hx1:x<4294967296)(ok:stOk l op a=true):
  Calls Tryz.prog 130 #[.slice ao n cap,.int .i64 op,.int .u32 a,.int .u32 x] w fun e w'=>e=.returned (.tuple #[.slice (some ⟨w.heap.size,0,none⟩) n n,.bool true])∧Row w' w.heap.size (stL l op a x)∧Gr w w':=by
 have hl:=M.len
 have hok:thr n (ssz op) a=true:=by unfold stOk at ok;rw [hl] at ok;exact ok
 have e2:stL l op a x=put l a.toNat x (ssz op):=by unfold stL;rw [ok];rfl
 rw [e2]
 obtain ⟨b,o,rfl,hb,hc⟩:=M.spot (thr_pos hok h0)
 obtain ⟨a,rfl⟩:=Int.eq_ofNat_of_zero_le h0
 exact Mm.Store_yes b o n cap l op x a w hn hl (by omega) hb hx0 hx1 hc hok
theorem stL_len {x:Int}(ok:stOk l op a=true):(stL l op a x).length=l.length:=by unfold stL;rw [ok];exact len_put _ _ _ _
theorem stOk_op (ok:stOk l op a=true):op=16∨op=17∨op=18:=by
 have h:¬ssz op=0:=by
  intro h
  simp [stOk,thr,h] at ok
 unfold ssz at h
 repeat' split at h
 all_goals omega
theorem Gr.drew {a:World}(h:Gr a w):Gr a w.drew:=h.drewN 1
theorem owns_gr {e sz:Nat}(h:w.ownsRow base e sz v n xs)(q:Gr w w'):w'.ownsRow base e sz v n xs:=
 owns_to h fun k o f hk=>q.block k (gs hk).1
theorem own_form {size:Nat}{e:TypeId}(h:w.ownsRow base e size v n xs)(hn:0<n):∃g cap,v=.slice (some ⟨g,0,none⟩) n cap:=by
 rcases h.2 with ⟨_,h0⟩|⟨g,cap,_,hv,_⟩
 ·omega
 ·exact ⟨g,cap,hv⟩
theorem two_cells {y:Value}(h0:W.cell? ⟨b,0,none⟩=some x)(h1:W.cell? ⟨b,1,none⟩=some y):∀j u,([x,y]:List Value)[j]?=some u→W.cell? ((⟨b,0,none⟩:Addr).add j)=some u:=by
 intro j u hj
 rw [add_at]
 match j,hj with
 | 0,hj=>simp at hj;subst hj;exact h0
 | 1,hj=>simp at hj;subst hj;exact h1
theorem two_one (a b:Int):∀u∈[Value.int .u32 a,Value.int .u32 b],u.oneCell'=true:=by
 intro u hu
 simp at hu
 rcases hu with rfl|rfl<;>rfl
theorem one_cell (h0:W.cell? ⟨b,0,none⟩=some x):∀j u,([x]:List Value)[j]?=some u→W.cell? ((⟨b,0,none⟩:Addr).add j)=some u:=by
 intro j u hj
 rw [add_at]
 match j,hj with
 | 0,hj=>simp at hj;subst hj;exact h0
theorem one_one (a:Int):∀u∈[Value.int .u32 a],u.oneCell'=true:=by
 intro u hu
 simp at hu
 subst hu
 rfl
end Go.Proofs.YtchllaeembmioaaGreatDoor.Hc
namespace Go.Proofs.YtchllaeembmioaaGreatDoor.Kc
open Go.ChangeShapes Go.WideShapes Go.ChangeAt Go.RowKit Mm Ts Hc

variable {w w' : World} {bs : List Bv} {xs : List Value} {b : Bv} {u v : Value} {f t : Int} {j k n : Nat}
structure Bw (w:World) (bs:List Bv) (xs:List Value):Prop where
 len:xs.length=bs.length*2
 at_:∀(j:Nat) (b:Bv),bs[j]?=some b→∃u v,xs[j*2]?=some u∧xs[j*2+1]?=some v∧Bc w b u v
theorem Bc.ones (h:Bc w b u v):u.oneCell'=true∧v.oneCell'=true∧∃sa sn sc,v=.slice sa sn sc:=by
 obtain ⟨rfl,_,sa,sn,sc,rfl,_⟩:=h
 exact ⟨rfl,rfl,sa,sn,sc,rfl⟩
def keepL (f t:Int) (bs:List Bv):List Bv:=bs.filter fun b=>!hasB b f t
theorem keep_take (h:bs[j]?=some b):keepL f t (bs.take (j+1))=if hasB b f t=true then keepL f t (bs.take j) else keepL f t (bs.take j)++[b]:=by
 unfold keepL
 rw [List.take_add_one,h,List.filter_append]
 split
 ·rename_i q;simp [q]
 ·rename_i q;simp [q]
theorem keep_len (f t:Int)(bs:List Bv)(j:Nat):(keepL f t (bs.take j)).length≤j:=by
 unfold keepL
 refine Nat.le_trans (List.length_filter_le _ _) ?_
 simp
 omega
theorem infoB:(Tryz.prog.info? 45).map (fun i=>(i.zero,i.size,i.bytes))=some (some (.agg #[.int .u32 0,.slice none 0 0]),2,32):=by kernel_rfl
theorem iCa:(Tryz.prog.info? 35).map (·.size)=some 4:=by kernel_rfl
theorem up_h (g:Gr w w'){x:Obj}(h:w.heap[k]?=some x):w'.heap[k]?=some x:=by
 rw [g.block k (gs h).1];exact h
theorem row_keep {W:World}{base:Nat}{V:Value}(O:W.ownsRow base 45 2 V n xs)(q:W.grownBy w' V.ownBlock){c:Array Value}{t:Nat}{f:Nat×Nat}(h:W.heap[k]?=some (.cells c t f))(ht:t≠45):w'.heap[k]?=some (.cells c t f):=by
 rw [q.block k (gs h).1 (fun e=>by
  rcases O.2 with ⟨h0,_⟩|⟨g',cp,cur,hv,_,hg,_⟩
  ·rw [h0] at e;cases e
  ·rw [hv] at e
   injection e with e
   exact ne_of_types h hg ht e)]
 exact h
theorem two_ones (h1:u.oneCell'=true)(h2:v.oneCell'=true):∀x∈[u,v],x.oneCell'=true:=by
 intro x hx
 simp only [List.mem_cons,List.not_mem_nil,or_false] at hx
 rcases hx with rfl|rfl<;>assumption
end Go.Proofs.YtchllaeembmioaaGreatDoor.Kc
namespace Go.Proofs.YtchllaeembmioaaGreatDoor.Kc
open Go.ChangeShapes Go.WideShapes Go.ChangeAt Go.RowKit Mm Ts Hc

variable {bs : List Bv} {w w' : World} {base n g cp z : Nat} {xs : List Value} {Z : Array Value}
def rmK (k:Int):List Bv→Nat→List Bv
 | [],_=>[]
 | b::r,i=>if (i:Int)=k then rmK k r (i+1) else b::rmK k r (i+1)
theorem rm_len (k:Int):∀(l:List Bv) (i:Nat),(rmK k l i).length≤l.length
 | [],i=>Nat.le_refl _
 | b::r,i=>by
  have:=rm_len k r (i+1)
  unfold rmK
  split
  ·simp;omega
  ·simp;omega
theorem cells_own (O:w.ownsRow base 45 2 (.slice (some ⟨g,0,none⟩) n cp) n xs):g<w.heap.size∧n≤cp∧∀j u,xs[j]?=some u→w.cell? ⟨g,j,none⟩=some u:=by
 refine ⟨(O.lt g rfl).2,?_,fun j u hu=>?_⟩
 ·rcases O.2 with ⟨h,_⟩|⟨g',cap,cur,e,_,_,h,_⟩
  ·cases h
  ·injection e with _ _ e3
   omega
 ·have:=O.cells (g:=g) rfl j u hu
  rwa [add_at,Nat.zero_add] at this
theorem bs_own (O:w.ownsRow base 45 2 (.slice (some ⟨g,0,none⟩) n cp) n xs)(W:Bw w bs xs)(k m:Nat)(hm:bs.length=k+m):Bs w (some ⟨g,k*2,none⟩) m (bs.drop k):=by
 obtain ⟨hg,_,hc⟩:=cells_own O
 refine ⟨by simp;omega,fun _=>⟨g,k*2,rfl,hg,fun j x hx=>?_⟩⟩
 rw [List.getElem?_drop] at hx
 obtain ⟨u,v,h1,h2,h3⟩:=W.at_ (k+j) x hx
 refine ⟨u,v,?_,?_,h3⟩
 ·rw [show k*2+j*2=(k+j)*2 by omega]
  exact hc _ _ h1
 ·rw [show k*2+j*2+1=(k+j)*2+1 by omega]
  exact hc _ _ h2
theorem bs_nil (w:World)(a:Option Addr):Bs w a 0 []:=⟨rfl,fun h=>absurd h (by omega)⟩
end Go.Proofs.YtchllaeembmioaaGreatDoor.Kc
namespace Go.Proofs.YtchllaeembmioaaGreatDoor.Kc
open Go.ChangeShapes Go.WideShapes Go.ChangeAt Go.RowKit Mm Ts Hc

variable {w : World}
def fnd (pc:Int) (bs:List Bv):Bv:=if 0≤place pc bs 0 then bs.getD (place pc bs 0).toNat ⟨0,[]⟩ else ⟨0,[]⟩
def putL (room:Int) (bs:List Bv) (b0:Bv):List Bv:=if room<((rmK (place b0.pc bs 0) bs 0++[b0]).length:Int) then (rmK (place b0.pc bs 0) bs 0++[b0]).drop 1 else rmK (place b0.pc bs 0) bs 0++[b0]
def putP (room pu:Int) (bs:List Bv) (b0:Bv):Int:=if room<((rmK (place b0.pc bs 0) bs 0++[b0]).length:Int) then wrap64 (pu+1) else pu
theorem place_bd (pc:Int):∀(bs:List Bv) (k:Nat),place pc bs k = -1∨∃j x,place pc bs k=((k+j:Nat):Int)∧bs[j]?=some x
 | [],k=>.inl rfl
 | b::r,k=>by
  unfold place
  split
  ·exact .inr ⟨0,b,rfl,rfl⟩
  ·rcases place_bd pc r (k+1) with h|⟨j,x,h,hx⟩
   ·exact .inl h
   ·exact .inr ⟨j+1,x,by rw [h];congr 1;omega,by simpa using hx⟩
end Go.Proofs.YtchllaeembmioaaGreatDoor.Kc
