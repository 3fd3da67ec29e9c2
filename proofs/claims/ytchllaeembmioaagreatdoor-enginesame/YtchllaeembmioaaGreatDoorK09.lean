/-
  Walks1, Walks2: texts of ours that lie in one file.
-/
import Derived.Test.YtchllaeembmioaaGreatDoorK07
import Derived.Deep.MidRow
set_option linter.unusedVariables false
set_option linter.unusedSimpArgs false
set_option maxHeartbeats 8000000
set_option maxRecDepth 100000
namespace Go.Proofs.YtchllaeembmioaaGreatDoor.Dw
open Go.ChangeShapes Go.WideShapes Go.ChangeAt Go.RowKit

variable {a b : Int}
theorem ret_int {k:IntKind}(h:a=b):Ending.returned (.int k a)=.returned (.int k b):=by rw [h]
theorem ret_bool {a b:Bool}(h:a=b):Ending.returned (.bool a)=.returned (.bool b):=by rw [h]
theorem wrap_u32' (n:Int):IntKind.u32.wrap n=n%4294967296:=by rfl
theorem ofInt32 (a:Nat)(ha:(a:Int)<4294967296):(BitVec.ofInt 32 (a:Int)).toNat=a:=by
 rw [BitVec.ofInt_natCast,BitVec.toNat_ofNat];exact Nat.mod_eq_of_lt (by omega)
theorem bits_and_u32 (a b:Int)(ha:0≤a)(ha':a<4294967296)(hb:0≤b)(hb':b<4294967296):bits .and .u32 a b=Wd.band a b:=by
 obtain ⟨a,rfl⟩:=Int.eq_ofNat_of_zero_le ha
 obtain ⟨b,rfl⟩:=Int.eq_ofNat_of_zero_le hb
 have hx:a &&& b<2 ^ 32:=Nat.and_lt_two_pow _ (by omega)
 show IntKind.u32.wrap ((BitVec.ofInt 32 (a:Int) &&& BitVec.ofInt 32 (b:Int)).toNat:Int)=_
 rw [BitVec.toNat_and,ofInt32 a ha',ofInt32 b hb',wrap_u32']
 simp only [Wd.band,Int.toNat_natCast]
 omega
theorem bits_or_u32 (a b:Int)(ha:0≤a)(ha':a<4294967296)(hb:0≤b)(hb':b<4294967296):bits .or .u32 a b=Wd.bor a b:=by
 obtain ⟨a,rfl⟩:=Int.eq_ofNat_of_zero_le ha
 obtain ⟨b,rfl⟩:=Int.eq_ofNat_of_zero_le hb
 have hx:a ||| b<2 ^ 32:=Nat.or_lt_two_pow (by omega) (by omega)
 show IntKind.u32.wrap ((BitVec.ofInt 32 (a:Int) ||| BitVec.ofInt 32 (b:Int)).toNat:Int)=_
 rw [BitVec.toNat_or,ofInt32 a ha',ofInt32 b hb',wrap_u32']
 simp only [Wd.bor,Int.toNat_natCast]
 omega
theorem within_any (a b c:Int)(w:World):
  Calls Tryz.prog 126 #[.int .i64 a,.int .i64 b,.int .i64 c] w fun e w'=>e=.returned (.bool (decide (b≤a) && decide (a≤c)))∧w'=w:=by
 by_cases h:b≤a
 all_goals
  go_enter Tryz.func126,Tryz.ntmps126
  go_wp2
  go_ret
  exact ⟨ret_bool (by simp [h];try omega),rfl⟩
theorem and_mask (x:Int)(n:Nat)(h0:0≤x)(h1:x<4294967296)(hn:n≤31):bits .and .u32 x ((2 ^ n-1)%4294967296)=x%2 ^ n:=by
 have hp:(2:Int) ^ n=((2 ^ n:Nat):Int):=by simp
 have hb:(2:Nat) ^ n≤2 ^ 31:=Nat.pow_le_pow_right (by omega) hn
 have hb0:0<(2:Nat) ^ n:=Nat.two_pow_pos _
 obtain ⟨x,rfl⟩:=Int.eq_ofNat_of_zero_le h0
 have e:((2:Int) ^ n-1)%4294967296=((2 ^ n-1:Nat):Int):=by rw [hp];omega
 rw [e,bits_and_u32 _ _ h0 h1 (by omega) (by omega)]
 unfold Wd.band
 rw [Int.toNat_natCast,Int.toNat_natCast,Nat.and_two_pow_sub_one_eq_mod,hp]
 omega
theorem bor_lo (x y:Int)(i:Nat)(hx:0≤x)(hy:0≤y)(h:x<2 ^ i):Wd.bor x (y*2 ^ i)=x+y*2 ^ i:=by
 obtain ⟨x,rfl⟩:=Int.eq_ofNat_of_zero_le hx
 obtain ⟨y,rfl⟩:=Int.eq_ofNat_of_zero_le hy
 have e:(y:Int)*2 ^ i=((y*2 ^ i:Nat):Int):=by simp
 have h':x<2 ^ i:=by
  have:((2:Int) ^ i)=((2 ^ i:Nat):Int):=by simp
  rw [this] at h;omega
 rw [e]
 unfold Wd.bor
 rw [Int.toNat_natCast,Int.toNat_natCast,Nat.or_comm,Dc.nor_add _ _ _ h']
 omega
theorem bor_comm (x y:Int):Wd.bor x y=Wd.bor y x:=by unfold Wd.bor;rw [Nat.or_comm]
theorem bor_hi (x y:Int)(i:Nat)(hx:0≤x)(hy:0≤y)(h:x<2 ^ i):Wd.bor (y*2 ^ i) x=y*2 ^ i+x:=by
 rw [bor_comm,bor_lo x y i hx hy h];omega
theorem taken_any (a at' n:Int)(w:World)(ha:0≤a)(ha':a<4294967296)(h1:0≤at')(h2:at'≤31)(h3:0≤n)(h4:n≤31):
  Calls Tryz.prog 128 #[.int .u32 a,.int .i64 at',.int .i64 n] w fun e w'=>e=.returned (.int .u32 (a/2 ^ at'.toNat%2 ^ n.toNat))∧∃m,w'=w.drewN m:=by
 go_enter Tryz.func128,Tryz.ntmps128
 go_wp2
 refine wp_region_quiet_lit (by kernel_rfl) (by kernel_rfl) ?_
 iterate 8 go_big_quiet_step (fail)
 refine wpQuiet_nil ?_;intro _ h;obtain ⟨nq,h2⟩:=h;subst h2
 go_wp2
 go_ret
 refine ⟨ret_int (and_mask _ _ (Int.ediv_nonneg ha (Int.pow_nonneg (by omega))) ?_ (by omega)),_,rfl⟩
 exact Int.lt_of_le_of_lt (Int.ediv_le_self _ ha) ha'
theorem taken_as (a at' n r:Int)(w:World)(ha:0≤a)(ha':a<4294967296)(h1:0≤at')(h2:at'≤31)(h3:0≤n)(h4:n≤31)(hr:a/2 ^ at'.toNat%2 ^ n.toNat=r):
  Calls Tryz.prog 128 #[.int .u32 a,.int .i64 at',.int .i64 n] w fun e w'=>e=.returned (.int .u32 r)∧∃m,w'=w.drewN m:=hr ▸ taken_any a at' n w ha ha' h1 h2 h3 h4
theorem row_num (low m u:Int)(h1:0≤low)(h2:low<4096)(h3:0≤m)(h4:m<8)(h5:0≤u)(h6:u<128):
  bits .or .u32 (bits .or .u32 low (m*4096)) (u*33554432)=low+m*4096+u*33554432:=by
 rw [show m*4096=m*2 ^ 12 by omega,show u*33554432=u*2 ^ 25 by omega]
 rw [bits_or_u32 low _ h1 (by omega) (by omega) (by omega),bor_lo low m 12 h1 h3 (by omega)]
 rw [bits_or_u32 _ _ (by omega) (by omega) (by omega) (by omega),bor_lo _ u 25 (by omega) h5 (by omega)]
theorem row_any (op first low:Int)(b:Nat)(ms:List Int)(w:World)(T:Tab w)(hm:∀i n,ms[i]?=some n→w.cell? ⟨b,i,none⟩=some (.int .u32 n))(hms:∀n∈ms,0≤n∧n<8)
  (h1:first≤op)(h2:op-first<ms.length)(h3:0≤op)(h4:op<60)(h5:0≤low)(h6:low<128)(h7 : -1≤first)(h8:ms.length≤20):
  Calls Tryz.prog 125 #[.int .i64 op,.int .i64 first,.int .u32 low,.slice (some ⟨b,0,none⟩) ms.length ms.length] w fun e w'=>e=.returned (.int .u32 (Dc.rowOf op first low ms))∧Gr w w':=by
 obtain ⟨m,hm1⟩:∃m,ms[(op-first).toNat]?=some m:=⟨_,List.getElem?_eq_getElem (by omega)⟩
 have hl:Dc.uppers.length=60:=by decide
 obtain ⟨u,hu1⟩:∃u,Dc.uppers[op.toNat]?=some u:=⟨_,List.getElem?_eq_getElem (by omega)⟩
 have hmb:=hms m (List.mem_of_getElem? hm1)
 have hub:0≤u∧u<128:=by
  have:∀u∈Dc.uppers,0≤u∧u<128:=by decide
  exact this u (List.mem_of_getElem? hu1)
 have c1:=hm _ _ hm1
 have c2:=T.uppers _ _ hu1
 have E:Hid (Dc.rowOf op first low ms=low+m*4096+u*33554432):=by
  show _=_
  unfold Dc.rowOf Dc.nth
  rw [List.getD,hm1,List.getD,hu1];rfl
 clear hm hms hm1 hu1 T hl
 go_enter Tryz.func125,Tryz.ntmps125
 go_wp2
 refine wp_region_quiet_lit (by kernel_rfl) (by kernel_rfl) ?_
 iterate 15 go_big_quiet_step (fail)
 refine wpQuiet_nil ?_;intro _ h;obtain ⟨nq,h2⟩:=h;subst h2
 go_wp2
 go_ret
 rw [E.out]
 exact ⟨ret_int (row_num low m u h5 (by omega) hmb.1 hmb.2 hub.1 hub.2),(Gr.refl w).drewN _⟩
theorem within_yes (a b c:Int)(w:World)(h:b≤a∧a≤c):
  Calls Tryz.prog 126 #[.int .i64 a,.int .i64 b,.int .i64 c] w fun e w'=>e=.returned (.bool true)∧w'=w:=by
 refine (within_any a b c w).mono ?_
 rintro e w' ⟨rfl,rfl⟩
 exact ⟨ret_bool (by simp [h]),rfl⟩
theorem within_no (a b c:Int)(w:World)(h:¬(b≤a∧a≤c)):
  Calls Tryz.prog 126 #[.int .i64 a,.int .i64 b,.int .i64 c] w fun e w'=>e=.returned (.bool false)∧w'=w:=by
 refine (within_any a b c w).mono ?_
 rintro e w' ⟨rfl,rfl⟩
 exact ⟨ret_bool (by rw [←Bool.decide_and];simpa using h),rfl⟩
theorem cells_new (w:World)(ms:List Int)(t:TypeId):∀i n,ms[i]?=some n→(w.alloc (.cells (ms.map (Value.int .u32)).toArray t)).cell? ⟨w.heap.size,i,none⟩=some (.int .u32 n):=by
 intro i n h
 rw [World.cell?_alloc_new];simp [h]
def Told (op:Int):Prop:=∀w:World,Tab w→Calls Tryz.prog 107 #[.int .i64 op] w fun e w'=>e=.returned (.tuple #[.int .i64 (Dc.frm op),.int .u32 (Dc.tbits op)])∧Gr w w'
theorem ret_two {c d:Int}(h:a=c)(h':b=d):Ending.returned (.tuple #[.int .i64 a,.int .u32 b])=.returned (.tuple #[.int .i64 c,.int .u32 d]):=by rw [h,h']
theorem told_4 (op:Int)(h1:4≤op)(h2:op≤4):Told op:=by
 intro w T
 have F:Hid (Dc.frm op=3):=by
  show _=_
  unfold Dc.frm
  repeat (first|rw [if_pos (by omega)]|rw [if_neg (by omega)])
 have B:Hid (Dc.tbits op=Dc.rowOf op 4 103 [0]):=by
  show _=_
  unfold Dc.tbits
  repeat (first|rw [if_pos (by omega)]|rw [if_neg (by omega)])
 have e1:(op == 1)=false:=by simp;omega
 have e2:(op == 2)=false:=by simp;omega
 have e3:(op == 3)=false:=by simp;omega
 have e4:(op == 4)=true:=by simp;omega
 have e57:(op == 57)=false:=by simp;omega
 have e58:(op == 58)=false:=by simp;omega
 have e59:(op == 59)=false:=by simp;omega
 go_enter Tryz.func107,Tryz.ntmps107
 go_wp2_with (go_at_call 125;refine (row_any _ _ _ _ [0] _ (T.of ((Gr.refl _).alloc _ _)) (cells_new _ [0] _) (by decide) (by omega) (by simp<;>omega) (by omega) (by omega) (by omega) (by omega) (by omega) (by decide)).mono ?_;rintro e w' ⟨rfl,g⟩)
 go_ret2
 exact ⟨ret_two F.out.symm B.out.symm,((Gr.refl _).alloc _ _).trans g⟩
theorem told_5 (op:Int)(h1:5≤op)(h2:op≤10):Told op:=by
 intro w T
 have F:Hid (Dc.frm op=5):=by
  show _=_
  unfold Dc.frm
  repeat (first|rw [if_pos (by omega)]|rw [if_neg (by omega)])
 have B:Hid (Dc.tbits op=Dc.rowOf op 5 99 [0,1,4,5,6,7]):=by
  show _=_
  unfold Dc.tbits
  repeat (first|rw [if_pos (by omega)]|rw [if_neg (by omega)])
 have e1:(op == 1)=false:=by simp;omega
 have e2:(op == 2)=false:=by simp;omega
 have e3:(op == 3)=false:=by simp;omega
 have e4:(op == 4)=false:=by simp;omega
 have e57:(op == 57)=false:=by simp;omega
 have e58:(op == 58)=false:=by simp;omega
 have e59:(op == 59)=false:=by simp;omega
 go_enter Tryz.func107,Tryz.ntmps107
 go_wp2_with (first|(go_at_call 126;first|(refine (within_yes _ _ _ _ (by omega)).mono ?_;rintro e w' ⟨rfl,rfl⟩)|(refine (within_no _ _ _ _ (by omega)).mono ?_;rintro e w' ⟨rfl,rfl⟩))|(go_at_call 125;refine (row_any _ _ _ _ [0,1,4,5,6,7] _ (T.of ((Gr.refl _).alloc _ _)) (cells_new _ [0,1,4,5,6,7] _) (by decide) (by omega) (by simp<;>omega) (by omega) (by omega) (by omega) (by omega) (by omega) (by decide)).mono ?_;rintro e w' ⟨rfl,g⟩))
 go_ret2
 exact ⟨ret_two F.out.symm B.out.symm,((Gr.refl _).alloc _ _).trans g⟩
theorem told_11 (op:Int)(h1:11≤op)(h2:op≤15):Told op:=by
 intro w T
 have F:Hid (Dc.frm op=3):=by
  show _=_
  unfold Dc.frm
  repeat (first|rw [if_pos (by omega)]|rw [if_neg (by omega)])
 have B:Hid (Dc.tbits op=Dc.rowOf op 11 3 [0,1,2,4,5]):=by
  show _=_
  unfold Dc.tbits
  repeat (first|rw [if_pos (by omega)]|rw [if_neg (by omega)])
 have e1:(op == 1)=false:=by simp;omega
 have e2:(op == 2)=false:=by simp;omega
 have e3:(op == 3)=false:=by simp;omega
 have e4:(op == 4)=false:=by simp;omega
 have e57:(op == 57)=false:=by simp;omega
 have e58:(op == 58)=false:=by simp;omega
 have e59:(op == 59)=false:=by simp;omega
 go_enter Tryz.func107,Tryz.ntmps107
 go_wp2_with (first|(go_at_call 126;first|(refine (within_yes _ _ _ _ (by omega)).mono ?_;rintro e w' ⟨rfl,rfl⟩)|(refine (within_no _ _ _ _ (by omega)).mono ?_;rintro e w' ⟨rfl,rfl⟩))|(go_at_call 125;refine (row_any _ _ _ _ [0,1,2,4,5] _ (T.of ((Gr.refl _).alloc _ _)) (cells_new _ [0,1,2,4,5] _) (by decide) (by omega) (by simp<;>omega) (by omega) (by omega) (by omega) (by omega) (by omega) (by decide)).mono ?_;rintro e w' ⟨rfl,g⟩))
 go_ret2
 exact ⟨ret_two F.out.symm B.out.symm,((Gr.refl _).alloc _ _).trans g⟩
theorem told_16 (op:Int)(h1:16≤op)(h2:op≤18):Told op:=by
 intro w T
 have F:Hid (Dc.frm op=6):=by
  show _=_
  unfold Dc.frm
  repeat (first|rw [if_pos (by omega)]|rw [if_neg (by omega)])
 have B:Hid (Dc.tbits op=Dc.rowOf op 16 35 [0,1,2]):=by
  show _=_
  unfold Dc.tbits
  repeat (first|rw [if_pos (by omega)]|rw [if_neg (by omega)])
 have e1:(op == 1)=false:=by simp;omega
 have e2:(op == 2)=false:=by simp;omega
 have e3:(op == 3)=false:=by simp;omega
 have e4:(op == 4)=false:=by simp;omega
 have e57:(op == 57)=false:=by simp;omega
 have e58:(op == 58)=false:=by simp;omega
 have e59:(op == 59)=false:=by simp;omega
 go_enter Tryz.func107,Tryz.ntmps107
 go_wp2_with (first|(go_at_call 126;first|(refine (within_yes _ _ _ _ (by omega)).mono ?_;rintro e w' ⟨rfl,rfl⟩)|(refine (within_no _ _ _ _ (by omega)).mono ?_;rintro e w' ⟨rfl,rfl⟩))|(go_at_call 125;refine (row_any _ _ _ _ [0,1,2] _ (T.of ((Gr.refl _).alloc _ _)) (cells_new _ [0,1,2] _) (by decide) (by omega) (by simp<;>omega) (by omega) (by omega) (by omega) (by omega) (by omega) (by decide)).mono ?_;rintro e w' ⟨rfl,g⟩))
 go_ret2
 exact ⟨ret_two F.out.symm B.out.symm,((Gr.refl _).alloc _ _).trans g⟩
theorem told_19 (op:Int)(h1:19≤op)(h2:op≤24):Told op:=by
 intro w T
 have F:Hid (Dc.frm op=3):=by
  show _=_
  unfold Dc.frm
  repeat (first|rw [if_pos (by omega)]|rw [if_neg (by omega)])
 have B:Hid (Dc.tbits op=Dc.rowOf op 19 19 [0,2,3,4,6,7]):=by
  show _=_
  unfold Dc.tbits
  repeat (first|rw [if_pos (by omega)]|rw [if_neg (by omega)])
 have e1:(op == 1)=false:=by simp;omega
 have e2:(op == 2)=false:=by simp;omega
 have e3:(op == 3)=false:=by simp;omega
 have e4:(op == 4)=false:=by simp;omega
 have e57:(op == 57)=false:=by simp;omega
 have e58:(op == 58)=false:=by simp;omega
 have e59:(op == 59)=false:=by simp;omega
 go_enter Tryz.func107,Tryz.ntmps107
 go_wp2_with (first|(go_at_call 126;first|(refine (within_yes _ _ _ _ (by omega)).mono ?_;rintro e w' ⟨rfl,rfl⟩)|(refine (within_no _ _ _ _ (by omega)).mono ?_;rintro e w' ⟨rfl,rfl⟩))|(go_at_call 125;refine (row_any _ _ _ _ [0,2,3,4,6,7] _ (T.of ((Gr.refl _).alloc _ _)) (cells_new _ [0,2,3,4,6,7] _) (by decide) (by omega) (by simp<;>omega) (by omega) (by omega) (by omega) (by omega) (by omega) (by decide)).mono ?_;rintro e w' ⟨rfl,g⟩))
 go_ret2
 exact ⟨ret_two F.out.symm B.out.symm,((Gr.refl _).alloc _ _).trans g⟩
theorem told_25 (op:Int)(h1:25≤op)(h2:op≤27):Told op:=by
 intro w T
 have F:Hid (Dc.frm op=4):=by
  show _=_
  unfold Dc.frm
  repeat (first|rw [if_pos (by omega)]|rw [if_neg (by omega)])
 have B:Hid (Dc.tbits op=Dc.rowOf op 25 19 [1,5,5]):=by
  show _=_
  unfold Dc.tbits
  repeat (first|rw [if_pos (by omega)]|rw [if_neg (by omega)])
 have e1:(op == 1)=false:=by simp;omega
 have e2:(op == 2)=false:=by simp;omega
 have e3:(op == 3)=false:=by simp;omega
 have e4:(op == 4)=false:=by simp;omega
 have e57:(op == 57)=false:=by simp;omega
 have e58:(op == 58)=false:=by simp;omega
 have e59:(op == 59)=false:=by simp;omega
 go_enter Tryz.func107,Tryz.ntmps107
 go_wp2_with (first|(go_at_call 126;first|(refine (within_yes _ _ _ _ (by omega)).mono ?_;rintro e w' ⟨rfl,rfl⟩)|(refine (within_no _ _ _ _ (by omega)).mono ?_;rintro e w' ⟨rfl,rfl⟩))|(go_at_call 125;refine (row_any _ _ _ _ [1,5,5] _ (T.of ((Gr.refl _).alloc _ _)) (cells_new _ [1,5,5] _) (by decide) (by omega) (by simp<;>omega) (by omega) (by omega) (by omega) (by omega) (by omega) (by decide)).mono ?_;rintro e w' ⟨rfl,g⟩))
 go_ret2
 exact ⟨ret_two F.out.symm B.out.symm,((Gr.refl _).alloc _ _).trans g⟩
theorem told_28 (op:Int)(h1:28≤op)(h2:op≤37):Told op:=by
 intro w T
 have F:Hid (Dc.frm op=7):=by
  show _=_
  unfold Dc.frm
  repeat (first|rw [if_pos (by omega)]|rw [if_neg (by omega)])
 have B:Hid (Dc.tbits op=Dc.rowOf op 28 51 [0,0,1,2,3,4,5,5,6,7]):=by
  show _=_
  unfold Dc.tbits
  repeat (first|rw [if_pos (by omega)]|rw [if_neg (by omega)])
 have e1:(op == 1)=false:=by simp;omega
 have e2:(op == 2)=false:=by simp;omega
 have e3:(op == 3)=false:=by simp;omega
 have e4:(op == 4)=false:=by simp;omega
 have e57:(op == 57)=false:=by simp;omega
 have e58:(op == 58)=false:=by simp;omega
 have e59:(op == 59)=false:=by simp;omega
 go_enter Tryz.func107,Tryz.ntmps107
 go_wp2_with (first|(go_at_call 126;first|(refine (within_yes _ _ _ _ (by omega)).mono ?_;rintro e w' ⟨rfl,rfl⟩)|(refine (within_no _ _ _ _ (by omega)).mono ?_;rintro e w' ⟨rfl,rfl⟩))|(go_at_call 125;refine (row_any _ _ _ _ [0,0,1,2,3,4,5,5,6,7] _ (T.of ((Gr.refl _).alloc _ _)) (cells_new _ [0,0,1,2,3,4,5,5,6,7] _) (by decide) (by omega) (by simp<;>omega) (by omega) (by omega) (by omega) (by omega) (by omega) (by decide)).mono ?_;rintro e w' ⟨rfl,g⟩))
 go_ret2
 exact ⟨ret_two F.out.symm B.out.symm,((Gr.refl _).alloc _ _).trans g⟩
theorem told_38 (op:Int)(h1:38≤op)(h2:op≤45):Told op:=by
 intro w T
 have F:Hid (Dc.frm op=7):=by
  show _=_
  unfold Dc.frm
  repeat (first|rw [if_pos (by omega)]|rw [if_neg (by omega)])
 have B:Hid (Dc.tbits op=Dc.rowOf op 38 51 [0,1,2,3,4,5,6,7]):=by
  show _=_
  unfold Dc.tbits
  repeat (first|rw [if_pos (by omega)]|rw [if_neg (by omega)])
 have e1:(op == 1)=false:=by simp;omega
 have e2:(op == 2)=false:=by simp;omega
 have e3:(op == 3)=false:=by simp;omega
 have e4:(op == 4)=false:=by simp;omega
 have e57:(op == 57)=false:=by simp;omega
 have e58:(op == 58)=false:=by simp;omega
 have e59:(op == 59)=false:=by simp;omega
 go_enter Tryz.func107,Tryz.ntmps107
 go_wp2_with (first|(go_at_call 126;first|(refine (within_yes _ _ _ _ (by omega)).mono ?_;rintro e w' ⟨rfl,rfl⟩)|(refine (within_no _ _ _ _ (by omega)).mono ?_;rintro e w' ⟨rfl,rfl⟩))|(go_at_call 125;refine (row_any _ _ _ _ [0,1,2,3,4,5,6,7] _ (T.of ((Gr.refl _).alloc _ _)) (cells_new _ [0,1,2,3,4,5,6,7] _) (by decide) (by omega) (by simp<;>omega) (by omega) (by omega) (by omega) (by omega) (by omega) (by decide)).mono ?_;rintro e w' ⟨rfl,g⟩))
 go_ret2
 exact ⟨ret_two F.out.symm B.out.symm,((Gr.refl _).alloc _ _).trans g⟩
theorem told_46 (op:Int)(h1:46≤op)(h2:op≤56):Told op:=by
 intro w T
 have F:Hid (Dc.frm op=8):=by
  show _=_
  unfold Dc.frm
  repeat (first|rw [if_pos (by omega)]|rw [if_neg (by omega)])
 have B:Hid (Dc.tbits op=Dc.rowOf op op 47 [2]):=by
  show _=_
  unfold Dc.tbits
  repeat (first|rw [if_pos (by omega)]|rw [if_neg (by omega)])
 have e1:(op == 1)=false:=by simp;omega
 have e2:(op == 2)=false:=by simp;omega
 have e3:(op == 3)=false:=by simp;omega
 have e4:(op == 4)=false:=by simp;omega
 have e57:(op == 57)=false:=by simp;omega
 have e58:(op == 58)=false:=by simp;omega
 have e59:(op == 59)=false:=by simp;omega
 go_enter Tryz.func107,Tryz.ntmps107
 go_wp2_with (first|(go_at_call 126;first|(refine (within_yes _ _ _ _ (by omega)).mono ?_;rintro e w' ⟨rfl,rfl⟩)|(refine (within_no _ _ _ _ (by omega)).mono ?_;rintro e w' ⟨rfl,rfl⟩))|(go_at_call 125;refine (row_any _ _ _ _ [2] _ (T.of ((Gr.refl _).alloc _ _)) (cells_new _ [2] _) (by decide) (by omega) (by simp<;>omega) (by omega) (by omega) (by omega) (by omega) (by omega) (by decide)).mono ?_;rintro e w' ⟨rfl,g⟩))
 go_ret2
 exact ⟨ret_two F.out.symm B.out.symm,((Gr.refl _).alloc _ _).trans g⟩
theorem told_57:Told 57:=by
 intro w T
 go_enter Tryz.func107,Tryz.ntmps107
 go_wp2_with (first|(go_at_call 126;first|(refine (within_yes _ _ _ _ (by omega)).mono ?_;rintro e w' ⟨rfl,rfl⟩)|(refine (within_no _ _ _ _ (by omega)).mono ?_;rintro e w' ⟨rfl,rfl⟩))|(go_at_call 125;refine (row_any 57 57 15 _ [0] _ (T.of ((Gr.refl _).alloc _ _)) (cells_new _ [0] _) (by decide) (by omega) (by simp<;>omega) (by omega) (by omega) (by omega) (by omega) (by omega) (by decide)).mono ?_;rintro e w' ⟨rfl,g⟩))
 go_ret2
 exact ⟨rfl,((Gr.refl _).alloc _ _).trans g⟩
theorem told_1:Told 1:=by
 intro w T
 go_enter Tryz.func107,Tryz.ntmps107
 go_wp2_with fail
 go_ret2
 exact ⟨rfl,Gr.refl _⟩
theorem told_2:Told 2:=by
 intro w T
 go_enter Tryz.func107,Tryz.ntmps107
 go_wp2_with fail
 go_ret2
 exact ⟨rfl,Gr.refl _⟩
theorem told_3:Told 3:=by
 intro w T
 go_enter Tryz.func107,Tryz.ntmps107
 go_wp2_with fail
 go_ret2
 exact ⟨rfl,Gr.refl _⟩
theorem told_58:Told 58:=by
 intro w T
 go_enter Tryz.func107,Tryz.ntmps107
 go_wp2_with (go_at_call 126;(refine (within_no _ _ _ _ (by omega)).mono ?_;rintro e w' ⟨rfl,rfl⟩))
 go_ret2
 exact ⟨rfl,Gr.refl _⟩
theorem told_59:Told 59:=by
 intro w T
 go_enter Tryz.func107,Tryz.ntmps107
 go_wp2_with (go_at_call 126;(refine (within_no _ _ _ _ (by omega)).mono ?_;rintro e w' ⟨rfl,rfl⟩))
 go_ret2
 exact ⟨rfl,Gr.refl _⟩
theorem told_none (op:Int)(h:op<1∨59<op):Told op:=by
 intro w T
 have F:Hid (Dc.frm op=0):=by
  show _=_
  unfold Dc.frm
  repeat (first|rw [if_pos (by omega)]|rw [if_neg (by omega)])
 have B:Hid (Dc.tbits op=0):=by
  show _=_
  unfold Dc.tbits
  repeat (first|rw [if_neg (by omega)])
 have e1:(op == 1)=false:=by simp;omega
 have e2:(op == 2)=false:=by simp;omega
 have e3:(op == 3)=false:=by simp;omega
 have e4:(op == 4)=false:=by simp;omega
 have e57:(op == 57)=false:=by simp;omega
 have e58:(op == 58)=false:=by simp;omega
 have e59:(op == 59)=false:=by simp;omega
 go_enter Tryz.func107,Tryz.ntmps107
 go_wp2_with (go_at_call 126;(refine (within_no _ _ _ _ (by omega)).mono ?_;rintro e w' ⟨rfl,rfl⟩))
 go_ret2
 exact ⟨ret_two F.out.symm B.out.symm,Gr.refl _⟩
theorem told_any (op:Int):Told op:=by
 by_cases h0:op<1∨59<op
 ·exact told_none op h0
 by_cases e1:op=1
 ·subst e1;exact told_1
 by_cases e2:op=2
 ·subst e2;exact told_2
 by_cases e3:op=3
 ·subst e3;exact told_3
 by_cases e58:op=58
 ·subst e58;exact told_58
 by_cases e59:op=59
 ·subst e59;exact told_59
 by_cases h4:op≤4
 ·exact told_4 op (by omega) h4
 by_cases h5:op≤10
 ·exact told_5 op (by omega) h5
 by_cases h11:op≤15
 ·exact told_11 op (by omega) h11
 by_cases h16:op≤18
 ·exact told_16 op (by omega) h16
 by_cases h19:op≤24
 ·exact told_19 op (by omega) h19
 by_cases h25:op≤27
 ·exact told_25 op (by omega) h25
 by_cases h28:op≤37
 ·exact told_28 op (by omega) h28
 by_cases h38:op≤45
 ·exact told_38 op (by omega) h38
 by_cases h46:op≤56
 ·exact told_46 op (by omega) h46
 obtain rfl:op=57:=by omega
 exact told_57
theorem span_any (a:Int)(w:World)(h0:0≤a)(h1:a<4294967296):
  Calls Tryz.prog 106 #[.int .u32 a] w fun e w'=>e=.returned (.tuple #[.int .i64 (Dc.sp1 (a%128)),.int .i64 (Dc.sp2 (a%128))])∧w'=w:=by
 have B:bits .and .u32 a 127=a%128:=(bits_and_u32 a 127 h0 h1 (by omega) (by omega)).trans (Dc.band1 h0 h1)
 by_cases e55:a%128=55
 ·have b55:(a%128 == 55)=true:=by simp [e55]
  have S1:Hid (Dc.sp1 (a%128)=1):=by show _=_;rw [e55];rfl
  have S2:Hid (Dc.sp2 (a%128)=1):=by show _=_;rw [e55];rfl
  clear e55
  go_enter Tryz.func106,Tryz.ntmps106
  go_wp2
  go_ret2
  rw [S1.out,S2.out]
  exact ⟨rfl,rfl⟩
 have b55:(a%128 == 55)=false:=by simp [e55]
 by_cases e23:a%128=23
 ·have b23:(a%128 == 23)=true:=by simp [e23]
  have S1:Hid (Dc.sp1 (a%128)=2):=by show _=_;rw [e23];rfl
  have S2:Hid (Dc.sp2 (a%128)=2):=by show _=_;rw [e23];rfl
  clear e23
  go_enter Tryz.func106,Tryz.ntmps106
  go_wp2
  go_ret2
  rw [S1.out,S2.out]
  exact ⟨rfl,rfl⟩
 have b23:(a%128 == 23)=false:=by simp [e23]
 by_cases e111:a%128=111
 ·have b111:(a%128 == 111)=true:=by simp [e111]
  have S1:Hid (Dc.sp1 (a%128)=3):=by show _=_;rw [e111];rfl
  have S2:Hid (Dc.sp2 (a%128)=3):=by show _=_;rw [e111];rfl
  clear e111
  go_enter Tryz.func106,Tryz.ntmps106
  go_wp2
  go_ret2
  rw [S1.out,S2.out]
  exact ⟨rfl,rfl⟩
 have b111:(a%128 == 111)=false:=by simp [e111]
 by_cases e103:a%128=103
 ·have b103:(a%128 == 103)=true:=by simp [e103]
  have S1:Hid (Dc.sp1 (a%128)=4):=by show _=_;rw [e103];rfl
  have S2:Hid (Dc.sp2 (a%128)=4):=by show _=_;rw [e103];rfl
  clear e103
  go_enter Tryz.func106,Tryz.ntmps106
  go_wp2
  go_ret2
  rw [S1.out,S2.out]
  exact ⟨rfl,rfl⟩
 have b103:(a%128 == 103)=false:=by simp [e103]
 by_cases e99:a%128=99
 ·have b99:(a%128 == 99)=true:=by simp [e99]
  have S1:Hid (Dc.sp1 (a%128)=5):=by show _=_;rw [e99];rfl
  have S2:Hid (Dc.sp2 (a%128)=10):=by show _=_;rw [e99];rfl
  clear e99
  go_enter Tryz.func106,Tryz.ntmps106
  go_wp2
  go_ret2
  rw [S1.out,S2.out]
  exact ⟨rfl,rfl⟩
 have b99:(a%128 == 99)=false:=by simp [e99]
 by_cases e3:a%128=3
 ·have b3:(a%128 == 3)=true:=by simp [e3]
  have S1:Hid (Dc.sp1 (a%128)=11):=by show _=_;rw [e3];rfl
  have S2:Hid (Dc.sp2 (a%128)=15):=by show _=_;rw [e3];rfl
  clear e3
  go_enter Tryz.func106,Tryz.ntmps106
  go_wp2
  go_ret2
  rw [S1.out,S2.out]
  exact ⟨rfl,rfl⟩
 have b3:(a%128 == 3)=false:=by simp [e3]
 by_cases e35:a%128=35
 ·have b35:(a%128 == 35)=true:=by simp [e35]
  have S1:Hid (Dc.sp1 (a%128)=16):=by show _=_;rw [e35];rfl
  have S2:Hid (Dc.sp2 (a%128)=18):=by show _=_;rw [e35];rfl
  clear e35
  go_enter Tryz.func106,Tryz.ntmps106
  go_wp2
  go_ret2
  rw [S1.out,S2.out]
  exact ⟨rfl,rfl⟩
 have b35:(a%128 == 35)=false:=by simp [e35]
 by_cases e19:a%128=19
 ·have b19:(a%128 == 19)=true:=by simp [e19]
  have S1:Hid (Dc.sp1 (a%128)=19):=by show _=_;rw [e19];rfl
  have S2:Hid (Dc.sp2 (a%128)=27):=by show _=_;rw [e19];rfl
  clear e19
  go_enter Tryz.func106,Tryz.ntmps106
  go_wp2
  go_ret2
  rw [S1.out,S2.out]
  exact ⟨rfl,rfl⟩
 have b19:(a%128 == 19)=false:=by simp [e19]
 by_cases e51:a%128=51
 ·have b51:(a%128 == 51)=true:=by simp [e51]
  have S1:Hid (Dc.sp1 (a%128)=28):=by show _=_;rw [e51];rfl
  have S2:Hid (Dc.sp2 (a%128)=45):=by show _=_;rw [e51];rfl
  clear e51
  go_enter Tryz.func106,Tryz.ntmps106
  go_wp2
  go_ret2
  rw [S1.out,S2.out]
  exact ⟨rfl,rfl⟩
 have b51:(a%128 == 51)=false:=by simp [e51]
 by_cases e47:a%128=47
 ·have b47:(a%128 == 47)=true:=by simp [e47]
  have S1:Hid (Dc.sp1 (a%128)=46):=by show _=_;rw [e47];rfl
  have S2:Hid (Dc.sp2 (a%128)=56):=by show _=_;rw [e47];rfl
  clear e47
  go_enter Tryz.func106,Tryz.ntmps106
  go_wp2
  go_ret2
  rw [S1.out,S2.out]
  exact ⟨rfl,rfl⟩
 have b47:(a%128 == 47)=false:=by simp [e47]
 by_cases e15:a%128=15
 ·have b15:(a%128 == 15)=true:=by simp [e15]
  have S1:Hid (Dc.sp1 (a%128)=57):=by show _=_;rw [e15];rfl
  have S2:Hid (Dc.sp2 (a%128)=57):=by show _=_;rw [e15];rfl
  clear e15
  go_enter Tryz.func106,Tryz.ntmps106
  go_wp2
  go_ret2
  rw [S1.out,S2.out]
  exact ⟨rfl,rfl⟩
 have b15:(a%128 == 15)=false:=by simp [e15]
 by_cases e115:a%128=115
 ·have b115:(a%128 == 115)=true:=by simp [e115]
  have S1:Hid (Dc.sp1 (a%128)=58):=by show _=_;rw [e115];rfl
  have S2:Hid (Dc.sp2 (a%128)=59):=by show _=_;rw [e115];rfl
  clear e115
  go_enter Tryz.func106,Tryz.ntmps106
  go_wp2
  go_ret2
  rw [S1.out,S2.out]
  exact ⟨rfl,rfl⟩
 have b115:(a%128 == 115)=false:=by simp [e115]
 have S1:Hid (Dc.sp1 (a%128)=0):=by show _=_;unfold Dc.sp1;simp [e55,e23,e111,e103,e99,e3,e35,e19,e51,e47,e15,e115]
 have S2:Hid (Dc.sp2 (a%128) = -1):=by show _=_;unfold Dc.sp2;simp [e55,e23,e111,e103,e99,e3,e35,e19,e51,e47,e15,e115]
 clear e55 e23 e111 e103 e99 e3 e35 e19 e51 e47 e15 e115
 go_enter Tryz.func106,Tryz.ntmps106
 go_wp2
 go_ret2
 rw [S1.out,S2.out]
 exact ⟨rfl,rfl⟩
end Go.Proofs.YtchllaeembmioaaGreatDoor.Dw
namespace Go.Proofs.YtchllaeembmioaaGreatDoor.Dw
open Go.ChangeShapes Go.WideShapes Go.ChangeAt Go.RowKit

variable {u s : Int} {p : Nat → Int × Int × Int} {j k : Nat}
theorem or_add (n x:Int)(i:Nat)(h0:0≤n)(hx:0≤x)(hm:n%2 ^ i=0)(hl:x<2 ^ i)(hb:n+x<4294967296):bits .or .u32 n x=n+x:=by
 rw [bits_or_u32 n x h0 (by omega) hx (by omega)]
 have e:n=n/2 ^ i*2 ^ i:=by
  have:=Int.mul_ediv_add_emod n (2 ^ i)
  rw [hm,Int.mul_comm] at this
  omega
 have hn:0≤n/2 ^ i:=Int.ediv_nonneg h0 (Int.pow_nonneg (by omega))
 have:=bor_hi x (n/2 ^ i) i hx hn hl
 rwa [←e] at this
theorem imm_0 (a:Int)(h0:0≤a)(h1:a<4294967296):0=Dc.immF 0 a:=rfl
theorem imm_1 (a:Int)(h0:0≤a)(h1:a<4294967296):wrap32 (a/4096*4096)=Dc.immF 1 a:=by
 show _=Wd.sg a-a%4096
 unfold wrap32 Wd.sg;split<;>omega
theorem imm_2 (a:Int)(h0:0≤a)(h1:a<4294967296):wrap32 ((a/2147483648*1048576+a/4096%256*4096+a/1048576%2*2048+a/2097152%1024*2)*2048)/2048=Dc.immF 2 a:=by
 show _=Dc.sgn 1048576 (a/2147483648*1048576+a/4096%256*4096+a/1048576%2*2048+a/2097152%1024*2)
 unfold wrap32 Dc.sgn;split<;>omega
theorem imm_3 (a:Int)(h0:0≤a)(h1:a<4294967296):wrap32 (a/1048576*1048576)/1048576=Dc.immF 3 a:=by
 show _=Dc.sgn 2048 (a/1048576)
 unfold wrap32 Dc.sgn;split<;>omega
theorem imm_4 (a:Int)(h0:0≤a)(h1:a<4294967296):a/1048576%32=Dc.immF 4 a:=rfl
theorem imm_5 (a:Int)(h0:0≤a)(h1:a<4294967296):wrap32 ((a/2147483648*4096+a/128%2*2048+a/33554432%64*32+a/256%16*2)*524288)/524288=Dc.immF 5 a:=by
 show _=Dc.sgn 4096 (a/2147483648*4096+a/128%2*2048+a/33554432%64*32+a/256%16*2)
 unfold wrap32 Dc.sgn;split<;>omega
theorem imm_6 (a:Int)(h0:0≤a)(h1:a<4294967296):wrap32 ((a/33554432*32+a/128%32)*1048576)/1048576=Dc.immF 6 a:=by
 show _=Dc.sgn 2048 (a/33554432*32+a/128%32)
 unfold wrap32 Dc.sgn;split<;>omega
theorem imm_7 (a:Int)(h0:0≤a)(h1:a<4294967296):0=Dc.immF 7 a:=rfl
theorem imm_8 (a:Int)(h0:0≤a)(h1:a<4294967296):a/33554432%4=Dc.immF 8 a:=rfl
theorem imm_9 (a:Int)(h0:0≤a)(h1:a<4294967296):0=Dc.immF 9 a:=rfl
theorem bor_assoc (a b c:Int):Wd.bor (Wd.bor a b) c=Wd.bor a (Wd.bor b c):=by
 unfold Wd.bor;rw [Int.toNat_natCast,Int.toNat_natCast,Nat.or_assoc]
theorem ins_nat (n y i c:Nat)(hz:n/2 ^ i%2 ^ c=0)(hy:y<2 ^ c):n ||| y*2 ^ i=n+y*2 ^ i:=by
 have e1:n=n/2 ^ (i+c)*2 ^ (i+c)+n%2 ^ i:=by
  have a1:=Nat.div_add_mod n (2 ^ i)
  have a2:=Nat.div_add_mod (n/2 ^ i) (2 ^ c)
  rw [Nat.div_div_eq_div_mul,←Nat.pow_add,hz,Nat.add_zero] at a2
  rw [←a2,←Nat.mul_assoc,←Nat.pow_add,Nat.mul_comm] at a1
  exact a1.symm
 have hl:n%2 ^ i<2 ^ i:=Nat.mod_lt _ (Nat.two_pow_pos _)
 generalize n%2 ^ i=l at *
 generalize n/2 ^ (i+c)=h at *
 have hx:y*2 ^ i+l<2 ^ (i+c):=by
  have:(y+1)*2 ^ i≤2 ^ c*2 ^ i:=Nat.mul_le_mul_right _ hy
  rw [Nat.add_mul,Nat.one_mul] at this
  rw [Nat.pow_add,Nat.mul_comm (2 ^ i)]
  omega
 have hl':l<2 ^ (i+c):=by omega
 rw [e1,←Dc.nor_add l h (i+c) hl',Nat.or_assoc,Nat.or_comm l,Dc.nor_add l y i hl,Dc.nor_add _ h (i+c) hx,Dc.nor_add l h (i+c) hl']
 omega
theorem ins_bor (n y:Int)(i c:Nat)(h0:0≤n)(hy:0≤y)(hz:n/2 ^ i%2 ^ c=0)(hl:y<2 ^ c):Wd.bor n (y*2 ^ i)=n+y*2 ^ i:=by
 obtain ⟨n,rfl⟩:=Int.eq_ofNat_of_zero_le h0
 obtain ⟨y,rfl⟩:=Int.eq_ofNat_of_zero_le hy
 have p1:((2:Int) ^ i)=((2 ^ i:Nat):Int):=by simp
 have p2:((2:Int) ^ c)=((2 ^ c:Nat):Int):=by simp
 rw [p1,p2] at hz
 rw [p2] at hl
 have hz':n/2 ^ i%2 ^ c=0:=by exact_mod_cast hz
 have:=ins_nat n y i c hz' (by omega)
 rw [p1]
 unfold Wd.bor
 rw [show (y:Int)*((2 ^ i:Nat):Int)=((y*2 ^ i:Nat):Int) by simp,Int.toNat_natCast,Int.toNat_natCast,this]
 omega
theorem or_ins (n y:Int)(i c:Nat)(h0:0≤n)(hy:0≤y)(hz:n/2 ^ i%2 ^ c=0)(hl:y<2 ^ c)(hb:n<4294967296)(hx:y*2 ^ i<4294967296)(hx0:0≤y*2 ^ i):bits .or .u32 n (y*2 ^ i)=n+y*2 ^ i:=by
 rw [bits_or_u32 n _ h0 hb hx0 hx]
 exact ins_bor n y i c h0 hy hz hl
theorem z_2 (x y z:Int)(a1:0≤x)(a2:x<2)(b1:0≤y)(b2:y<256)(c1:0≤z)(c2:z<2):(x*2147483648+y*4096+z*1048576)/2 ^ 21%2 ^ 10=0:=by
 have:(x*2147483648+y*4096+z*1048576)/2 ^ 21=x*1024:=by omega
 rw [this];omega
theorem z_5 (x y z:Int)(a1:0≤x)(a2:x<2)(b1:0≤y)(b2:y<2)(c1:0≤z)(c2:z<64):(x*2147483648+y*128+z*33554432)/2 ^ 8%2 ^ 4=0:=by
 have:(x*2147483648+y*128+z*33554432)/2 ^ 8=x*8388608+z*131072:=by omega
 rw [this];omega
def ReadImm (f:Int):Prop:=∀(a:Int) (w:World),Tab w→0≤a→a<4294967296→Calls Tryz.prog 127 #[.int .i64 f,.int .u32 a] w fun e w'=>e=.returned (.int .i32 (Dc.immF f a))∧Gr w w'
def orP (u:Int) (p:Nat→Int×Int×Int):Nat→Int
 | 0=>0
 | j+1=>bits .or .u32 (orP u p j) (u/2 ^ (p j).1.toNat%2 ^ (p j).2.1.toNat*2 ^ (p j).2.2.toNat%4294967296)
theorem orP_zero (h:orP u p j=s)(hs:0≤s∧s<4294967296)(hc:(p j).2.1=0):orP u p (j+1)=s:=by
 rw [orP,h,hc]
 have e:u/2 ^ (p j).1.toNat%2 ^ (0:Int).toNat*2 ^ (p j).2.2.toNat%4294967296=0*2 ^ 0:=by
  rw [show (2:Int) ^ (0:Int).toNat=1 from rfl,Int.emod_one,Int.zero_mul]
  rfl
 rw [e,or_ins s 0 0 0 hs.1 (by omega) (by omega) (by omega) hs.2 (by omega) (by omega)]
 omega
theorem orP_ins (h:orP u p j=s)(b c a:Nat)(hp:p j=((b:Int),(c:Int),(a:Int)))(hs:0≤s∧s<4294967296)(hz:s/2 ^ a%2 ^ c=0)(hc:(2:Int) ^ c*2 ^ a≤4294967296)(h2:(0:Int)<2 ^ a)(h3:(0:Int)<2 ^ c):orP u p (j+1)=s+u/2 ^ b%2 ^ c*2 ^ a:=by
 rw [orP,h,hp]
 simp only [Int.toNat_natCast]
 have y0:0≤u/2 ^ b%2 ^ c:=Int.emod_nonneg _ (by omega)
 have y1:u/2 ^ b%2 ^ c<2 ^ c:=Int.emod_lt_of_pos _ h3
 generalize u/2 ^ b%2 ^ c=y at *
 have y2:0≤y*2 ^ a:=Int.mul_nonneg y0 (by omega)
 have y3:y*2 ^ a<4294967296:=Int.lt_of_lt_of_le (Int.mul_lt_mul_of_pos_right y1 h2) hc
 rw [Int.emod_eq_of_lt y2 y3,or_ins s y a c hs.1 y0 hz y1 hs.2 y3 y2]
def twelve (q:Nat→Int):Array Value:=#[.int .i64 (q 0),.int .i64 (q 1),.int .i64 (q 2),.int .i64 (q 3),.int .i64 (q 4),.int .i64 (q 5),.int .i64 (q 6),.int .i64 (q 7),.int .i64 (q 8),.int .i64 (q 9),.int .i64 (q 10),.int .i64 (q 11)]
theorem idx12 (q:Nat→Int)(w:World):∀j,j<4→(Instr.index 182 (.agg (twelve q)) (.int .i64 (j:Nat))).run Tryz.prog w=.ok (.agg #[.int .i64 (q (3*j)),.int .i64 (q (3*j+1)),.int .i64 (q (3*j+2))]) w
 | 0,_=>by kernel_rfl
 | 1,_=>by kernel_rfl
 | 2,_=>by kernel_rfl
 | 3,_=>by kernel_rfl
 | j+4,h=>absurd h (by omega)
def pcs (k i:Nat):Int:=(pieces k).getD i 0
theorem pcs_at (k:Nat)(hk:k<10)(i:Nat)(hi:i<12):shapes[k*17+4+i]?=some (.int .i64 (pcs k i)):=by
 have hk':k=0∨k=1∨k=2∨k=3∨k=4∨k=5∨k=6∨k=7∨k=8∨k=9:=by omega
 have hi':i=0∨i=1∨i=2∨i=3∨i=4∨i=5∨i=6∨i=7∨i=8∨i=9∨i=10∨i=11:=by omega
 rcases hk' with rfl|rfl|rfl|rfl|rfl|rfl|rfl|rfl|rfl|rfl<;>rcases hi' with rfl|rfl|rfl|rfl|rfl|rfl|rfl|rfl|rfl|rfl|rfl|rfl<;>rfl
theorem spare_at (k:Nat)(hk:k<10):shapes[k*17+16]?=some (.int .i64 (spare k))∧0≤spare k∧spare k≤31:=by
 have hk':k=0∨k=1∨k=2∨k=3∨k=4∨k=5∨k=6∨k=7∨k=8∨k=9:=by omega
 rcases hk' with rfl|rfl|rfl|rfl|rfl|rfl|rfl|rfl|rfl|rfl<;>exact ⟨rfl,by decide,by decide⟩
theorem pcs_bd (k:Nat)(hk:k<10)(i:Nat):0≤pcs k i∧pcs k i≤31:=by
 have h:∀x∈pieces k,0≤x∧x≤31:=by
  have hk':k=0∨k=1∨k=2∨k=3∨k=4∨k=5∨k=6∨k=7∨k=8∨k=9:=by omega
  rcases hk' with rfl|rfl|rfl|rfl|rfl|rfl|rfl|rfl|rfl|rfl<;>decide
 unfold pcs
 rw [List.getD_eq_getElem?_getD]
 cases e:(pieces k)[i]? with
 | none=>simp
 | some x=>exact h x (List.mem_of_getElem? e)
theorem range12 (hk:k<10){w:World}(T:Tab w):w.rangeAt 0 (k*17+4) (twelve (pcs k)).toList:=fun j v hv=>by
 have hj:j<12:=(List.getElem?_eq_some_iff.1 hv).1
 have:(twelve (pcs k)).toList[j]?=some (.int .i64 (pcs k j)):=by
  have hj':j=0∨j=1∨j=2∨j=3∨j=4∨j=5∨j=6∨j=7∨j=8∨j=9∨j=10∨j=11:=by omega
  rcases hj' with rfl|rfl|rfl|rfl|rfl|rfl|rfl|rfl|rfl|rfl|rfl|rfl<;>rfl
 rw [this] at hv
 injection hv with hv
 rw [←hv]
 exact T.shapes _ _ (pcs_at k hk j hj)
theorem wrap_mod (x:Int):wrap32 (x%4294967296)=wrap32 x:=by unfold wrap32;omega
def pR (k j:Nat):Int×Int×Int:=(pcs k (3*j),pcs k (3*j+2),pcs k (3*j+1))
theorem ri_gen (hk:k<10)(a:Int)(w:World)(T:Tab w)(u0:0≤a)(u1:a<4294967296):
  Calls Tryz.prog 127 #[.int .i64 k,.int .u32 a] w fun e w'=>e=.returned (.int .i32 (wrap32 (orP a (pR k) 4*2 ^ (spare k).toNat)/2 ^ (spare k).toNat))∧Gr w w':=by
 have HX:Hid (∀j,j<4→∀w:World,(Instr.index 182 (.agg (twelve (pcs k))) (.int .i64 (j:Nat))).run Tryz.prog w=.ok (.agg #[.int .i64 (pcs k (3*j)),.int .i64 (pcs k (3*j+1)),.int .i64 (pcs k (3*j+2))]) w):=fun j h w=>idx12 (pcs k) w j h
 have HR:=range12 hk T
 have hsz:(Tryz.prog.info? 182).map (·.size)=some (twelve (pcs k)).toList.length:=by kernel_rfl
 have HT:Hid _:=T
 have hb:=pcs_bd k hk
 obtain ⟨s1,s2,s3⟩:=spare_at k hk
 have HS1:Hid _:=s1
 have HP:Hid (∀j,orP a (pR k) (j+1)=bits .or .u32 (orP a (pR k) j) (a/2 ^ (pcs k (3*j)).toNat%2 ^ (pcs k (3*j+2)).toNat*2 ^ (pcs k (3*j+1)).toNat%4294967296)):=fun j=>rfl
 clear T s1
 generalize spare k=sp at *
 go_enter Tryz.func127,Tryz.ntmps127
 go_wp2_with (refine wpList_load_mid rfl 182 _ rfl 0 (k*17+4) rfl (twelve (pcs k)).toList _ HR Tryz.underlying182 rfl hsz ?_)
 go_loopw [5,13] (fun s i wr=>Gr w wr∧∃j:Nat,j≤4∧i=.int .i64 j∧s=.int .u32 (orP a (pR k) j)) (fun _ i _=>4-(intOf i).toNat)
 case atStart=>exact ⟨Gr.refl _,0,Nat.zero_le _,rfl,rfl⟩
 case round=>
  obtain ⟨g,j,hj,rfl,rfl⟩:=hrel
  by_cases hlt:j<4
  ·have x:=HX.out j hlt
   obtain ⟨b0,b1⟩:=hb (3*j)
   obtain ⟨d0,d1⟩:=hb (3*j+1)
   obtain ⟨e0,e1⟩:=hb (3*j+2)
   have HO:Hid (orP a (pR k) (j+1)=bits .or .u32 (orP a (pR k) j) (a/2 ^ (pcs k (3*j)).toNat%2 ^ (pcs k (3*j+2)).toNat*2 ^ (pcs k (3*j+1)).toNat%4294967296)):=HP.out j
   generalize orP a (pR k) j=s at *
   generalize pcs k (3*j)=qa at *
   generalize pcs k (3*j+1)=qb at *
   generalize pcs k (3*j+2)=qc at *
   obtain ⟨y,hy⟩:∃y,a/2 ^ qa.toNat%2 ^ qc.toNat=y:=⟨_,rfl⟩
   rw [hy] at HO
   have HY:Hid _:=hy
   clear hy
   go_wp2
   refine wp_region_quiet_lit (by kernel_rfl) (by kernel_rfl) ?_
   iterate 6 go_big_quiet_step (fail)
   go_big_quiet_step (exact Calls.quiet_of (taken_as a qa qc y _ u0 u1 b0 b1 e0 e1 HY.out))
   iterate 5 go_big_quiet_step (fail)
   refine wpQuiet_nil ?_;intro _ h;obtain ⟨nq,h2⟩:=h;subst h2
   go_wp2
   go_roundw
   case rel=>exact ⟨(g.alloc _ _).drewN _,j+1,by omega,by go_num,by rw [HO.out]⟩
   case measure=>simp [intOf];omega
  ·have ej:j=4:=by omega
   subst ej
   have c16:wr.cell? ⟨0,k*17+16,none⟩=some (.int .i64 sp):=(HT.out.of g).shapes _ _ HS1.out
   go_wp2
   go_ret
   exact ⟨ret_int (by rw [wrap_mod]),g⟩
theorem readImm_0:ReadImm 0:=by
 intro a w T h0 h1
 refine (ri_gen (k:=0) (by omega) a w T h0 h1).mono fun e w' ⟨he,hg⟩=>⟨he.trans (ret_int ?_),hg⟩
 have e0:orP a (pR 0) 0=0:=rfl
 have e1:=orP_zero e0 ⟨by omega,by omega⟩ rfl
 have e2:=orP_zero e1 ⟨by omega,by omega⟩ rfl
 have e3:=orP_zero e2 ⟨by omega,by omega⟩ rfl
 have e4:=orP_zero e3 ⟨by omega,by omega⟩ rfl
 rw [e4]
 refine Eq.trans ?_ (imm_0 a h0 h1)
 show wrap32 (_*1)/1=_
 rw [Int.mul_one,Int.ediv_one]
 unfold wrap32
 omega
theorem readImm_1:ReadImm 1:=by
 intro a w T h0 h1
 refine (ri_gen (k:=1) (by omega) a w T h0 h1).mono fun e w' ⟨he,hg⟩=>⟨he.trans (ret_int ?_),hg⟩
 have e0:orP a (pR 1) 0=0:=rfl
 have e1:=orP_ins e0 12 20 12 rfl ⟨by omega,by omega⟩ (by omega) (by decide) (by decide) (by decide)
 have e2:=orP_zero e1 ⟨by omega,by omega⟩ rfl
 have e3:=orP_zero e2 ⟨by omega,by omega⟩ rfl
 have e4:=orP_zero e3 ⟨by omega,by omega⟩ rfl
 rw [e4]
 refine Eq.trans ?_ (imm_1 a h0 h1)
 show wrap32 (_*1)/1=_
 rw [Int.mul_one,Int.ediv_one]
 congr 1
 omega
theorem readImm_2:ReadImm 2:=by
 intro a w T h0 h1
 refine (ri_gen (k:=2) (by omega) a w T h0 h1).mono fun e w' ⟨he,hg⟩=>⟨he.trans (ret_int ?_),hg⟩
 have e0:orP a (pR 2) 0=0:=rfl
 have e1:=orP_ins e0 31 1 20 rfl ⟨by omega,by omega⟩ (by omega) (by decide) (by decide) (by decide)
 have e2:=orP_ins e1 12 8 12 rfl ⟨by omega,by omega⟩ (by omega) (by decide) (by decide) (by decide)
 have e3:=orP_ins e2 20 1 11 rfl ⟨by omega,by omega⟩ (by omega) (by decide) (by decide) (by decide)
 have e4:=orP_ins e3 21 10 1 rfl ⟨by omega,by omega⟩ (by omega) (by decide) (by decide) (by decide)
 rw [e4]
 refine Eq.trans ?_ (imm_2 a h0 h1)
 show wrap32 (_*2048)/2048=_
 congr 3
 omega
theorem readImm_3:ReadImm 3:=by
 intro a w T h0 h1
 refine (ri_gen (k:=3) (by omega) a w T h0 h1).mono fun e w' ⟨he,hg⟩=>⟨he.trans (ret_int ?_),hg⟩
 have e0:orP a (pR 3) 0=0:=rfl
 have e1:=orP_ins e0 20 12 0 rfl ⟨by omega,by omega⟩ (by omega) (by decide) (by decide) (by decide)
 have e2:=orP_zero e1 ⟨by omega,by omega⟩ rfl
 have e3:=orP_zero e2 ⟨by omega,by omega⟩ rfl
 have e4:=orP_zero e3 ⟨by omega,by omega⟩ rfl
 rw [e4]
 refine Eq.trans ?_ (imm_3 a h0 h1)
 show wrap32 (_*1048576)/1048576=_
 congr 2
 omega
theorem readImm_4:ReadImm 4:=by
 intro a w T h0 h1
 refine (ri_gen (k:=4) (by omega) a w T h0 h1).mono fun e w' ⟨he,hg⟩=>⟨he.trans (ret_int ?_),hg⟩
 have e0:orP a (pR 4) 0=0:=rfl
 have e1:=orP_ins e0 20 5 0 rfl ⟨by omega,by omega⟩ (by omega) (by decide) (by decide) (by decide)
 have e2:=orP_zero e1 ⟨by omega,by omega⟩ rfl
 have e3:=orP_zero e2 ⟨by omega,by omega⟩ rfl
 have e4:=orP_zero e3 ⟨by omega,by omega⟩ rfl
 rw [e4]
 refine Eq.trans ?_ (imm_4 a h0 h1)
 show wrap32 (_*1)/1=_
 rw [Int.mul_one,Int.ediv_one]
 unfold wrap32
 omega
theorem readImm_5:ReadImm 5:=by
 intro a w T h0 h1
 refine (ri_gen (k:=5) (by omega) a w T h0 h1).mono fun e w' ⟨he,hg⟩=>⟨he.trans (ret_int ?_),hg⟩
 have e0:orP a (pR 5) 0=0:=rfl
 have e1:=orP_ins e0 31 1 12 rfl ⟨by omega,by omega⟩ (by omega) (by decide) (by decide) (by decide)
 have e2:=orP_ins e1 7 1 11 rfl ⟨by omega,by omega⟩ (by omega) (by decide) (by decide) (by decide)
 have e3:=orP_ins e2 25 6 5 rfl ⟨by omega,by omega⟩ (by omega) (by decide) (by decide) (by decide)
 have e4:=orP_ins e3 8 4 1 rfl ⟨by omega,by omega⟩ (by omega) (by decide) (by decide) (by decide)
 rw [e4]
 refine Eq.trans ?_ (imm_5 a h0 h1)
 show wrap32 (_*524288)/524288=_
 congr 3
 omega
theorem readImm_6:ReadImm 6:=by
 intro a w T h0 h1
 refine (ri_gen (k:=6) (by omega) a w T h0 h1).mono fun e w' ⟨he,hg⟩=>⟨he.trans (ret_int ?_),hg⟩
 have e0:orP a (pR 6) 0=0:=rfl
 have e1:=orP_ins e0 25 7 5 rfl ⟨by omega,by omega⟩ (by omega) (by decide) (by decide) (by decide)
 have e2:=orP_ins e1 7 5 0 rfl ⟨by omega,by omega⟩ (by omega) (by decide) (by decide) (by decide)
 have e3:=orP_zero e2 ⟨by omega,by omega⟩ rfl
 have e4:=orP_zero e3 ⟨by omega,by omega⟩ rfl
 rw [e4]
 refine Eq.trans ?_ (imm_6 a h0 h1)
 show wrap32 (_*1048576)/1048576=_
 congr 3
 omega
theorem readImm_7:ReadImm 7:=by
 intro a w T h0 h1
 refine (ri_gen (k:=7) (by omega) a w T h0 h1).mono fun e w' ⟨he,hg⟩=>⟨he.trans (ret_int ?_),hg⟩
 have e0:orP a (pR 7) 0=0:=rfl
 have e1:=orP_zero e0 ⟨by omega,by omega⟩ rfl
 have e2:=orP_zero e1 ⟨by omega,by omega⟩ rfl
 have e3:=orP_zero e2 ⟨by omega,by omega⟩ rfl
 have e4:=orP_zero e3 ⟨by omega,by omega⟩ rfl
 rw [e4]
 refine Eq.trans ?_ (imm_7 a h0 h1)
 show wrap32 (_*1)/1=_
 rw [Int.mul_one,Int.ediv_one]
 unfold wrap32
 omega
theorem readImm_8:ReadImm 8:=by
 intro a w T h0 h1
 refine (ri_gen (k:=8) (by omega) a w T h0 h1).mono fun e w' ⟨he,hg⟩=>⟨he.trans (ret_int ?_),hg⟩
 have e0:orP a (pR 8) 0=0:=rfl
 have e1:=orP_ins e0 25 2 0 rfl ⟨by omega,by omega⟩ (by omega) (by decide) (by decide) (by decide)
 have e2:=orP_zero e1 ⟨by omega,by omega⟩ rfl
 have e3:=orP_zero e2 ⟨by omega,by omega⟩ rfl
 have e4:=orP_zero e3 ⟨by omega,by omega⟩ rfl
 rw [e4]
 refine Eq.trans ?_ (imm_8 a h0 h1)
 show wrap32 (_*1)/1=_
 rw [Int.mul_one,Int.ediv_one]
 unfold wrap32
 omega
theorem readImm_9:ReadImm 9:=by
 intro a w T h0 h1
 refine (ri_gen (k:=9) (by omega) a w T h0 h1).mono fun e w' ⟨he,hg⟩=>⟨he.trans (ret_int ?_),hg⟩
 have e0:orP a (pR 9) 0=0:=rfl
 have e1:=orP_zero e0 ⟨by omega,by omega⟩ rfl
 have e2:=orP_zero e1 ⟨by omega,by omega⟩ rfl
 have e3:=orP_zero e2 ⟨by omega,by omega⟩ rfl
 have e4:=orP_zero e3 ⟨by omega,by omega⟩ rfl
 rw [e4]
 refine Eq.trans ?_ (imm_9 a h0 h1)
 show wrap32 (_*1)/1=_
 rw [Int.mul_one,Int.ediv_one]
 unfold wrap32
 omega
theorem readImm_any (f:Int)(h0:0≤f)(h1:f≤9):ReadImm f:=by
 have h:f=0∨f=1∨f=2∨f=3∨f=4∨f=5∨f=6∨f=7∨f=8∨f=9:=by omega
 rcases h with rfl|rfl|rfl|rfl|rfl|rfl|rfl|rfl|rfl|rfl
 ·exact readImm_0
 ·exact readImm_1
 ·exact readImm_2
 ·exact readImm_3
 ·exact readImm_4
 ·exact readImm_5
 ·exact readImm_6
 ·exact readImm_7
 ·exact readImm_8
 ·exact readImm_9
end Go.Proofs.YtchllaeembmioaaGreatDoor.Dw
