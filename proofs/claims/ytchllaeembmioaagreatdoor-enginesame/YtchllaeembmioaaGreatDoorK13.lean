/-
  Mb1, Ref1Walks: texts of ours that lie in one file.
-/
import Derived.Test.YtchllaeembmioaaGreatDoorK11
import Derived.Test.YtchllaeembmioaaGreatDoorK12
import Derived.Test.YtchllaeembmioaaGreatDoorK03
import Derived.Test.YtchllaeembmioaaGreatDoorRows
import Derived.Test.YtchllaeembmioaaGreatDoorK01
import Derived.WalkKit
import Derived.ProofKit
import Derived.OpenShut
set_option linter.unusedVariables false
set_option linter.unusedSimpArgs false
set_option maxHeartbeats 8000000
set_option maxRecDepth 100000
namespace Go.Proofs.YtchllaeembmioaaGreatDoor.Mc
open Go.ChangeShapes Go.WideShapes Go.ChangeAt Go.RowKit Mm Hh Hc

theorem ret_bool {a b:Bool}(h:a=b):Ending.returned (.bool a)=.returned (.bool b):=by rw [h]
theorem meets_any {x f t:Int}(hx0:0≤x)(hx:x<4294967296)(hf0:0≤f)(hf:f<4294967296)(w:World):
  Calls Tryz.prog 65 #[.int .u32 x,.agg #[.int .u32 f,.int .u32 t]] w fun e w'=>e=.returned (.bool (decide (x<t) && decide (f<x+4)))∧Gr w w':=by
 by_cases h1:x<t
 ·have HE:Hid ((decide (x<t) && decide (f<x+4))=decide (f<x+4)):=by unfold Hid;simp [h1]
  rw [HE.out]
  go_enter Tryz.func65,Tryz.ntmps65
  go_wp2
  go_ret
  exact ⟨rfl,(Gr.refl _).alloc _⟩
 ·have HE:Hid ((decide (x<t) && decide (f<x+4))=false):=by unfold Hid;simp [h1]
  rw [HE.out]
  go_enter Tryz.func65,Tryz.ntmps65
  go_wp2
  go_ret
  exact ⟨rfl,(Gr.refl _).alloc _⟩
def mayM (mn:Nat) (hs:List Hv):Bool:=decide (mn≤4096∧1≤hs.length∧hs.length≤4) && hs.all may
theorem wrong_may (m:List UInt8)(hs:List Hv)(ps:List (Int×Int)):wrong m hs ps=if mayM m.length hs=false then 2 else if 300<ps.length then 1 else if ps.all (pickOk hs.length)=false then 3 else 0:=by
 unfold wrong mayM
 by_cases h:4096<m.length∨hs.length<1∨4<hs.length
 ·rw [if_pos h,if_pos];rw [decide_eq_false (by omega)];rfl
 ·rw [if_neg h,decide_eq_true (show m.length≤4096∧1≤hs.length∧hs.length≤4 by omega)];simp only [Bool.true_and]
theorem MMay_any {ma ha:Option Addr}{hn:Nat}(mc hc:Nat){hs:List Hv}{w:World}(mn:Nat)(H:Hs w ha hn hs)(b1:mn≤140737488351232)(b2:hn≤140737488351232):
  Calls Tryz.prog 51 #[.agg #[.slice ma mn mc,.slice ha hn hc]] w fun e w'=>e=.returned (.bool (mayM mn hs))∧Gr w w':=by
 have hl:=H.len
 by_cases c1:4096<mn∨hn<1∨4<hn
 ·have HE:Hid (mayM mn hs=false):=by unfold Hid mayM;rw [decide_eq_false (by omega)];rfl
  clear H
  have c2:4096<mn∨(¬4096<mn∧hn<1)∨(¬4096<mn∧¬hn<1∧4<hn):=by omega
  clear c1
  rcases c2 with c|⟨c,d⟩|⟨c,d,e⟩
  all_goals
   go_enter Tryz.func51,Tryz.ntmps51
   go_wp2
   go_ret
   exact ⟨ret_bool HE.out.symm,(Gr.refl _).alloc _⟩
 ·have n1:¬4096<mn:=by omega
  have n2:¬hn<1:=by omega
  have n3:¬4<hn:=by omega
  obtain ⟨b,o,rfl,hb,hcell⟩:=H.spot (by omega)
  have HW:Hid (mayM mn hs=hs.all may):=by unfold Hid mayM;rw [decide_eq_true (by omega)];rfl
  have HK:Hid (∀i h,hs[i]?=some h→w.rangeAt b (o+i*37) (hL h)):=hcell
  have HO:Hid (∀h∈hs,h.Ok):=H.ok
  have HL:Hid (hs.length=hn):=hl
  clear hcell H c1 hl
  go_enter Tryz.func51,Tryz.ntmps51
  go_wp2
  go_loopw [24] (fun i wr=>∃k:Nat,k≤hn∧i=.int .i64 k∧(hs.take k).all may=true∧Gr w wr) (fun i _=>hn-(intOf i).toNat)
  case atStart=>exact ⟨0,Nat.zero_le _,rfl,rfl,(Gr.refl _).alloc _⟩
  case round=>
   obtain ⟨k,hk,rfl,hall,G⟩:=hrel
   have HG:Hid (Gr w wr):=G
   have HA:Hid ((hs.take k).all may=true):=hall
   clear G hall
   by_cases hlt:k<hn
   ·obtain ⟨h,hh⟩:∃h,hs[k]?=some h:=⟨_,List.getElem?_eq_getElem (by rw [HL.out];exact hlt)⟩
    have HH:Hid (hs[k]?=some h):=hh
    have okh:=HO.out h (List.mem_of_getElem? hh)
    have RG:Hid (wr.rangeAt b (o+k*37) (hL h)):=fun j v hv=>(HG.out.cell _ (by exact hb)).trans (HK.out k h hh j v hv)
    have HLL:Hid ((hL h).length=37):=hL_len okh
    have HSZ:Hid ((hL h).toArray.size=37):=by unfold Hid;simp [HLL.out]
    have HONE:Hid ((hL h).toArray.all (·.oneCell')=true):=one_hA h
    have M1:Hid (∀W:World,Calls Tryz.prog 69 #[.agg (hL h).toArray] W fun e w'=>e=.returned (.bool (may h))∧Gr W w'):=fun W=>may_any okh W
    have HW4:Hid (∀Y:Array Value,Gr wr ((wr.alloc (.cells Y 51)).setRow wr.heap.size (hL h).toArray)):=fun Y=>gr_setRow ((Gr.refl _).alloc _) (Nat.le_refl _) _
    have HX4:Hid (∀Y:Array Value,((wr.alloc (.cells Y 51)).setRow wr.heap.size (hL h).toArray).heap[wr.heap.size]?=some (.cells (hL h).toArray 51 (0,0))):=fun Y=>setRow_heap _ _ _ _ _ (0,0) (heap_alloc_new wr _)
    clear hh okh
    cases hmb:may h with
    | true=>
     have M2:Hid (∀W:World,Calls Tryz.prog 69 #[.agg (hL h).toArray] W fun e w'=>e=.returned (.bool true)∧Gr W w'):=fun W=>by have:=M1.out W;rwa [hmb] at this
     have HN:Hid ((hs.take (k+1)).all may=true):=by unfold Hid;rw [all_take may hs k h HH.out,HA.out,hmb];rfl
     clear M1 hmb
     go_wp2_with (first
      | (refine wpList_load_mid rfl 51 _ rfl b (o+k*37) rfl (hL h) _ ?r1 Tryz.underlying51 rfl (by rw [HLL.out];exact iH) ?_;(case r1=>exact RG.out))
      | (refine wpList_store_row rfl 51 _ _ rfl wr.heap.size (hL h).toArray rfl rfl 51 _ (heap_alloc_new wr _) (by rw [HSZ.out];exact iH) (by rw [HSZ.out];rfl) HONE.out ?_)
      | (refine wpList_load_row rfl 51 _ rfl wr.heap.size rfl 51 (hL h).toArray (0,0) _ ?r2 Tryz.underlying51 rfl (by rw [HSZ.out];exact iH) ?_;(case r2=>exact HX4.out _)))
     refine (M2.out _).mono ?_
     rintro e w1 ⟨rfl,G1⟩
     have HG1:Hid (Gr w w1):=HG.out.trans ((HW4.out _).trans G1)
     clear G1 M2 HG RG HW4 HX4
     go_wp2_with fail
     go_roundw
     case rel=>exact ⟨k+1,by omega,by go_num,HN.out,HG1.out⟩
     case measure=>simp [intOf];omega
    | false=>
     have M2:Hid (∀W:World,Calls Tryz.prog 69 #[.agg (hL h).toArray] W fun e w'=>e=.returned (.bool false)∧Gr W w'):=fun W=>by have:=M1.out W;rwa [hmb] at this
     have HE:Hid (mayM mn hs=false):=by unfold Hid;rw [HW.out];exact all_false HH.out hmb
     clear M1 hmb
     go_wp2_with (first
      | (refine wpList_load_mid rfl 51 _ rfl b (o+k*37) rfl (hL h) _ ?r1 Tryz.underlying51 rfl (by rw [HLL.out];exact iH) ?_;(case r1=>exact RG.out))
      | (refine wpList_store_row rfl 51 _ _ rfl wr.heap.size (hL h).toArray rfl rfl 51 _ (heap_alloc_new wr _) (by rw [HSZ.out];exact iH) (by rw [HSZ.out];rfl) HONE.out ?_)
      | (refine wpList_load_row rfl 51 _ rfl wr.heap.size rfl 51 (hL h).toArray (0,0) _ ?r2 Tryz.underlying51 rfl (by rw [HSZ.out];exact iH) ?_;(case r2=>exact HX4.out _)))
     refine (M2.out _).mono ?_
     rintro e w1 ⟨rfl,G1⟩
     have HG1:Hid (Gr w w1):=HG.out.trans ((HW4.out _).trans G1)
     clear G1 M2 HG RG HW4 HX4
     go_wp2_with fail
     go_ret
     exact ⟨ret_bool HE.out.symm,HG1.out⟩
   ·have HE:Hid (mayM mn hs=true):=by have:=HA.out;rw [show k=hn by omega,←HL.out,List.take_length] at this;unfold Hid;rw [HW.out];exact this
    go_wp2_with fail
    go_ret
    exact ⟨ret_bool HE.out.symm,HG.out⟩
end Go.Proofs.YtchllaeembmioaaGreatDoor.Mc
namespace Go.Proofs.YtchllaeembmioaaGreatDoor.Rw
open Go.ChangeShapes Go.WideShapes Go.ChangeAt Go.RowKit

theorem ret_int {k:IntKind}{a b:Int}(h:a=b):Ending.returned (.int k a)=.returned (.int k b):=by rw [h]
theorem ret_bool {a b:Bool}(h:a=b):Ending.returned (.bool a)=.returned (.bool b):=by rw [h]
theorem Signed_any (a:Int)(w:World)(ha:0≤a)(ha':a<4294967296):
  Calls Tryz.prog 47 #[.int .u32 a] w fun e w'=>e=.returned (.int .i64 (Wd.sg a))∧w'=w:=by
 by_cases h:a<2147483648
 ·have H:Hid (Wd.sg a=a):=(if_pos h:Wd.sg a=a)
  go_enter Tryz.func47,Tryz.ntmps47
  go_wp2
  go_ret
  exact ⟨ret_int H.out.symm,rfl⟩
 ·have H:Hid (Wd.sg a=a-4294967296):=(if_neg h:Wd.sg a=_)
  go_enter Tryz.func47,Tryz.ntmps47
  go_wp2
  go_ret
  exact ⟨ret_int H.out.symm,rfl⟩
theorem of_neg (n r:Int)(e:n.tmod 4294967296=r)(h:r<0):r+4294967296=Wd.lo n ∧ -4294967296<r:=by
 unfold Wd.lo
 have h1:=Int.tmod_eq_emod (a:=n) (b:=4294967296)
 split at h1<;>omega
theorem of_pos (n r:Int)(e:n.tmod 4294967296=r)(h:¬r<0):r=Wd.lo n:=by
 unfold Wd.lo
 have h1:=Int.tmod_eq_emod (a:=n) (b:=4294967296)
 split at h1<;>omega
theorem Of_any (n:Int)(w:World)(hn : -9223372036854775808≤n)(hn':n≤9223372036854775807):
  Calls Tryz.prog 35 #[.int .i64 n] w fun e w'=>e=.returned (.int .u32 (Wd.lo n))∧w'=w:=by
 obtain ⟨l0,l1⟩:=Wd.lo_bd n
 by_cases h:n.tmod 4294967296<0
 ·have e:=of_neg n _ rfl h
  have H:Hid _:=e.1
  have e2:=e.2
  clear e
  go_enter Tryz.func35,Tryz.ntmps35
  go_wp2
  go_ret
  exact ⟨ret_int H.out,rfl⟩
 ·have H:Hid (n.tmod 4294967296=Wd.lo n):=of_pos n _ rfl h
  go_enter Tryz.func35,Tryz.ntmps35
  go_wp2
  go_ret
  exact ⟨ret_int (by have:=H.out;omega),rfl⟩
theorem Power_any (n:Nat)(w:World)(hn:n≤32):
  Calls Tryz.prog 59 #[.int .i64 n] w fun e w'=>e=.returned (.int .i64 ((2 ^ n:Nat):Int))∧w'=w:=by
 go_enter Tryz.func59,Tryz.ntmps59
 go_wp2
 go_loop [3,4] (fun p i=>∃k:Nat,k≤n∧i=.int .i64 k∧p=.int .i64 ((2 ^ k:Nat):Int)) (fun _ i=>n-(intOf i).toNat)
 case atStart=>exact ⟨0,Nat.zero_le _,rfl,rfl⟩
 case round=>
  obtain ⟨k,hk,rfl,rfl⟩:=hrel
  by_cases hlt:k<n
  ·have h2:2 ^ k≤2 ^ 32:=Nat.pow_le_pow_right (by omega) (by omega)
   have HS:Hid (2 ^ (k+1)=2 ^ k+2 ^ k):=(by rw [Nat.pow_succ];omega:2 ^ (k+1)=_)
   generalize 2 ^ k=P at *
   go_wp2
   go_round
   case rel=>exact ⟨k+1,by omega,by go_num,by rw [HS.out];go_num⟩
   case measure=>simp [intOf];omega
  ·obtain rfl:k=n:=by omega
   go_wp2
   go_ret
   exact ⟨rfl,rfl⟩
theorem floor_neg (a b r:Int)(hb:0<b)(e:a.tmod b=r)(h:r<0):(a-(r+b)).tdiv b=a/b:=by
 have h1:=Int.tmod_eq_emod (a:=a) (b:=b)
 have h2:=Int.emod_lt_of_pos a hb
 have h3:=Int.emod_nonneg a (Int.ne_of_gt hb)
 have h4:r+b=a%b:=by
  split at h1
  ·omega
  ·have:(b.natAbs:Int)=b:=Int.natAbs_of_nonneg (Int.le_of_lt hb)
   omega
 rw [h4]
 have h5:a-a%b=b*(a/b):=by have:=Int.mul_ediv_add_emod a b;omega
 rw [h5,Int.mul_tdiv_cancel_left _ (Int.ne_of_gt hb)]
theorem floor_pos (a b r:Int)(hb:0<b)(e:a.tmod b=r)(h:¬r<0):(a-r).tdiv b=a/b:=by
 have h1:=Int.tmod_eq_emod (a:=a) (b:=b)
 have h2:=Int.emod_lt_of_pos a hb
 have h4:r=a%b:=by
  split at h1
  ·omega
  ·have:(b.natAbs:Int)=b:=Int.natAbs_of_nonneg (Int.le_of_lt hb)
   omega
 rw [h4]
 have h5:a-a%b=b*(a/b):=by have:=Int.mul_ediv_add_emod a b;omega
 rw [h5,Int.mul_tdiv_cancel_left _ (Int.ne_of_gt hb)]
theorem floor_any (a b:Int)(w:World)(hb:0<b)(hb':b≤4294967296)(ha : -9223372000000000000≤a)(ha':a≤9223372000000000000):
  Calls Tryz.prog 60 #[.int .i64 a,.int .i64 b] w fun e w'=>e=.returned (.int .i64 (a/b))∧w'=w:=by
 have r1:a.tmod b<b:=Int.tmod_lt_of_pos a hb
 have r2 : -b<a.tmod b:=by
  have:=Int.lt_tmod_of_pos a hb
  omega
 by_cases h:a.tmod b<0
 ·have H:Hid ((a-(a.tmod b+b)).tdiv b=a/b):=floor_neg a b _ hb rfl h
  go_enter Tryz.func60,Tryz.ntmps60
  go_wp2
  go_ret
  exact ⟨ret_int H.out,rfl⟩
 ·have H:Hid ((a-a.tmod b).tdiv b=a/b):=floor_pos a b _ hb rfl h
  go_enter Tryz.func60,Tryz.ntmps60
  go_wp2
  go_ret
  exact ⟨ret_int H.out,rfl⟩
theorem truth_any (b:Bool)(w:World):
  Calls Tryz.prog 61 #[.bool b] w fun e w'=>e=.returned (.int .u32 (Wd.tr b))∧w'=w:=by
 cases b
 all_goals
  go_enter Tryz.func61,Tryz.ntmps61
  go_wp2
  go_ret
  exact ⟨rfl,rfl⟩
theorem upper_hi (a b:Int):Wd.lo ((a*(b/65536)+a*(b%65536)/65536)/65536)=Wd.hi (a*b):=by
 unfold Wd.lo Wd.hi
 have e:a*b=a*(b%65536)+65536*(a*(b/65536)):=by
  have h:=Int.mul_ediv_add_emod b 65536
  calc a*b=a*(65536*(b/65536)+b%65536):=by rw [h]
   _=a*(65536*(b/65536))+a*(b%65536):=by rw [Int.mul_add]
   _=a*(b%65536)+65536*(a*(b/65536)):=by rw [Int.add_comm,Int.mul_left_comm]
 have e2:a*b/65536=a*(b/65536)+a*(b%65536)/65536:=by
  rw [e,Int.add_mul_ediv_left _ _ (by decide),Int.add_comm]
 rw [←e2,Int.ediv_ediv_of_nonneg (by decide)]
 rfl
theorem upper_bd {x y z:Int}(hx : -2147483648≤x)(hx':x<4294967296)(hy:0≤y)(hy':y<65536) : -140737488355328≤x*y∧x*y≤281474976710656:=by
 by_cases h:0≤x
 ·have a1:x*y≤x*65536:=Int.mul_le_mul_of_nonneg_left (by omega) h
  have a2:0≤x*y:=Int.mul_nonneg h hy
  omega
 ·have a1:x*y≤0:=Int.mul_nonpos_of_nonpos_of_nonneg (by omega) hy
  have a2:x*65536≤x*y:=Int.mul_le_mul_of_nonpos_left (by omega) (by omega)
  omega
theorem upper_any (a b:Int)(w:World)(ha : -2147483648≤a)(ha':a<4294967296)(hb:0≤b)(hb':b<4294967296):
  Calls Tryz.prog 62 #[.int .i64 a,.int .i64 b] w fun e w'=>e=.returned (.int .u32 (Wd.hi (a*b)))∧w'=w:=by
 have b1:=@upper_bd a (b/65536) 0 ha ha' (by omega) (by omega)
 have b2:=@upper_bd a (b%65536) 0 ha ha' (by omega) (by omega)
 have H:Hid _:=upper_hi a b
 go_enter Tryz.func62,Tryz.ntmps62
 go_wp2_with (first|(go_at_call 60;refine (floor_any _ _ _ (by omega) (by omega) (by omega) (by omega)).mono ?_;rintro e w' ⟨rfl,rfl⟩)|(go_at_call 35;refine (Of_any _ _ (by omega) (by omega)).mono ?_;rintro e w' ⟨rfl,rfl⟩))
 go_ret
 exact ⟨ret_int H.out,rfl⟩
theorem bit_step (F k:Nat):F%2 ^ (k+1)=F%2 ^ k+if F/2 ^ k%2=1 then 2 ^ k else 0:=by
 rw [Nat.mod_pow_succ]
 by_cases h:F/2 ^ k%2=1
 ·rw [h,if_pos rfl,Nat.mul_one]
 ·rw [if_neg h,show F/2 ^ k%2=0 by omega,Nat.mul_zero]
theorem bit_half (A k:Nat):A/2 ^ (k+1)=A/2 ^ k/2:=by
 rw [Nat.pow_succ,Nat.div_div_eq_div_mul]
theorem bit_tb (F k:Nat):F/2 ^ k%2=if F.testBit k then 1 else 0:=by
 rw [Nat.testBit_eq_decide_div_mod_eq]
 by_cases h:F/2 ^ k%2=1<;>simp [h]<;>omega
theorem bit_and (A B k:Nat):(A &&& B)/2 ^ k%2=if A/2 ^ k%2=1∧B/2 ^ k%2=1 then 1 else 0:=by
 simp only [bit_tb,Nat.testBit_and];cases A.testBit k<;>cases B.testBit k<;>rfl
theorem bit_or (A B k:Nat):(A ||| B)/2 ^ k%2=if A/2 ^ k%2=1∨B/2 ^ k%2=1 then 1 else 0:=by
 simp only [bit_tb,Nat.testBit_or];cases A.testBit k<;>cases B.testBit k<;>rfl
theorem bit_xor (A B k:Nat):(A ^^^ B)/2 ^ k%2=if ¬(A/2 ^ k%2=1↔B/2 ^ k%2=1) then 1 else 0:=by
 simp only [bit_tb,Nat.testBit_xor];cases A.testBit k<;>cases B.testBit k<;>rfl
theorem bits_and (A B:Nat)(w:World)(ha:A<4294967296)(hb:B<4294967296):
  Calls Tryz.prog 58 #[.int .i64 37,.int .u32 A,.int .u32 B] w fun e w'=>e=.returned (.int .u32 ((A &&& B:Nat):Int))∧w'=w:=by
 have hF:A &&& B<2 ^ 32:=Nat.and_lt_two_pow _ (by omega)
 go_enter Tryz.func58,Tryz.ntmps58
 go_wp2
 go_loop [7,8,9,10] (fun x y n i=>∃k:Nat,k≤32∧i=.int .i64 k∧x=.int .i64 ((A/2 ^ k:Nat):Int)∧y=.int .i64 ((B/2 ^ k:Nat):Int)∧n=.int .i64 (((A &&& B)%2 ^ k:Nat):Int)) (fun _ _ _ i=>32-(intOf i).toNat)
 case atStart=>exact ⟨0,by omega,rfl,by simp,by simp,by simp [Nat.mod_one]⟩
 case round=>
  obtain ⟨k,hk,rfl,rfl,rfl,rfl⟩:=hrel
  by_cases hlt:k<32
  ·have hs:Hid _:=bit_step (A &&& B) k
   have hA:Hid _:=bit_half A k
   have hB:Hid _:=bit_half B k
   have hb1:Hid _:=bit_and A B k
   have h2:2 ^ k≤2 ^ 31:=Nat.pow_le_pow_right (by omega) (by omega)
   have hm:(A &&& B)%2 ^ k<2 ^ k:=Nat.mod_lt _ (Nat.two_pow_pos k)
   have hAx:A/2 ^ k≤A:=Nat.div_le_self _ _
   have hBx:B/2 ^ k≤B:=Nat.div_le_self _ _
   have hPw:Hid (∀w:World,_):=fun w=>Power_any k w hk
   generalize A/2 ^ k=X at *
   generalize B/2 ^ k=Y at *
   by_cases hp:X%2=1
   ·by_cases hq:Y%2=1
    ·have hn:Hid ((A &&& B)%2 ^ (k+1)=(A &&& B)%2 ^ k+2 ^ k):=by have h1:=hs.out;rw [hb1.out] at h1;show _=_;simpa [hp,hq] using h1
     clear hs hb1
     generalize (A &&& B)%2 ^ k=M at *
     generalize 2 ^ k=P at *
     have tx:((X:Int)%2 == 1)=true:=beq_iff_eq.2 (by omega)
     have ty:((Y:Int)%2 == 1)=true:=beq_iff_eq.2 (by omega)
     go_wp2_with (go_at_call 59;refine (hPw.out _).mono ?_;rintro e w' ⟨rfl,rfl⟩)
     go_round
     case rel=>exact ⟨k+1,by omega,by go_num,by rw [hA.out];go_num,by rw [hB.out];go_num,by rw [hn.out];go_num⟩
     case measure=>simp [intOf];omega
    ·have hn:Hid ((A &&& B)%2 ^ (k+1)=(A &&& B)%2 ^ k):=by have h1:=hs.out;rw [hb1.out] at h1;show _=_;simpa [hp,hq] using h1
     clear hs hb1
     generalize (A &&& B)%2 ^ k=M at *
     generalize 2 ^ k=P at *
     have tx:((X:Int)%2 == 1)=true:=beq_iff_eq.2 (by omega)
     have ty:((Y:Int)%2 == 1)=false:=beq_eq_false_iff_ne.2 (by omega)
     go_wp2
     go_round
     case rel=>exact ⟨k+1,by omega,by go_num,by rw [hA.out];go_num,by rw [hB.out];go_num,by rw [hn.out]⟩
     case measure=>simp [intOf];omega
   ·by_cases hq:Y%2=1
    ·have hn:Hid ((A &&& B)%2 ^ (k+1)=(A &&& B)%2 ^ k):=by have h1:=hs.out;rw [hb1.out] at h1;show _=_;simpa [hp,hq] using h1
     clear hs hb1
     generalize (A &&& B)%2 ^ k=M at *
     generalize 2 ^ k=P at *
     have tx:((X:Int)%2 == 1)=false:=beq_eq_false_iff_ne.2 (by omega)
     have ty:((Y:Int)%2 == 1)=true:=beq_iff_eq.2 (by omega)
     go_wp2
     go_round
     case rel=>exact ⟨k+1,by omega,by go_num,by rw [hA.out];go_num,by rw [hB.out];go_num,by rw [hn.out]⟩
     case measure=>simp [intOf];omega
    ·have hn:Hid ((A &&& B)%2 ^ (k+1)=(A &&& B)%2 ^ k):=by have h1:=hs.out;rw [hb1.out] at h1;show _=_;simpa [hp,hq] using h1
     clear hs hb1
     generalize (A &&& B)%2 ^ k=M at *
     generalize 2 ^ k=P at *
     have tx:((X:Int)%2 == 1)=false:=beq_eq_false_iff_ne.2 (by omega)
     have ty:((Y:Int)%2 == 1)=false:=beq_eq_false_iff_ne.2 (by omega)
     go_wp2
     go_round
     case rel=>exact ⟨k+1,by omega,by go_num,by rw [hA.out];go_num,by rw [hB.out];go_num,by rw [hn.out]⟩
     case measure=>simp [intOf];omega
  ·obtain rfl:k=32:=by omega
   go_wp2_with (go_at_call 35;refine (Of_any _ _ (by omega) (by omega)).mono ?_;rintro e w' ⟨rfl,rfl⟩)
   go_ret
   exact ⟨ret_int (by unfold Wd.lo;omega),rfl⟩
theorem bits_or (A B:Nat)(w:World)(ha:A<4294967296)(hb:B<4294967296):
  Calls Tryz.prog 58 #[.int .i64 36,.int .u32 A,.int .u32 B] w fun e w'=>e=.returned (.int .u32 ((A ||| B:Nat):Int))∧w'=w:=by
 have hF:A ||| B<2 ^ 32:=Nat.or_lt_two_pow (by omega) (by omega)
 go_enter Tryz.func58,Tryz.ntmps58
 go_wp2
 go_loop [7,8,9,10] (fun x y n i=>∃k:Nat,k≤32∧i=.int .i64 k∧x=.int .i64 ((A/2 ^ k:Nat):Int)∧y=.int .i64 ((B/2 ^ k:Nat):Int)∧n=.int .i64 (((A ||| B)%2 ^ k:Nat):Int)) (fun _ _ _ i=>32-(intOf i).toNat)
 case atStart=>exact ⟨0,by omega,rfl,by simp,by simp,by simp [Nat.mod_one]⟩
 case round=>
  obtain ⟨k,hk,rfl,rfl,rfl,rfl⟩:=hrel
  by_cases hlt:k<32
  ·have hs:Hid _:=bit_step (A ||| B) k
   have hA:Hid _:=bit_half A k
   have hB:Hid _:=bit_half B k
   have hb1:Hid _:=bit_or A B k
   have h2:2 ^ k≤2 ^ 31:=Nat.pow_le_pow_right (by omega) (by omega)
   have hm:(A ||| B)%2 ^ k<2 ^ k:=Nat.mod_lt _ (Nat.two_pow_pos k)
   have hAx:A/2 ^ k≤A:=Nat.div_le_self _ _
   have hBx:B/2 ^ k≤B:=Nat.div_le_self _ _
   have hPw:Hid (∀w:World,_):=fun w=>Power_any k w hk
   generalize A/2 ^ k=X at *
   generalize B/2 ^ k=Y at *
   by_cases hp:X%2=1
   ·by_cases hq:Y%2=1
    ·have hn:Hid ((A ||| B)%2 ^ (k+1)=(A ||| B)%2 ^ k+2 ^ k):=by have h1:=hs.out;rw [hb1.out] at h1;show _=_;simpa [hp,hq] using h1
     clear hs hb1
     generalize (A ||| B)%2 ^ k=M at *
     generalize 2 ^ k=P at *
     have tx:((X:Int)%2 == 1)=true:=beq_iff_eq.2 (by omega)
     have ty:((Y:Int)%2 == 1)=true:=beq_iff_eq.2 (by omega)
     go_wp2_with (go_at_call 59;refine (hPw.out _).mono ?_;rintro e w' ⟨rfl,rfl⟩)
     go_round
     case rel=>exact ⟨k+1,by omega,by go_num,by rw [hA.out];go_num,by rw [hB.out];go_num,by rw [hn.out];go_num⟩
     case measure=>simp [intOf];omega
    ·have hn:Hid ((A ||| B)%2 ^ (k+1)=(A ||| B)%2 ^ k+2 ^ k):=by have h1:=hs.out;rw [hb1.out] at h1;show _=_;simpa [hp,hq] using h1
     clear hs hb1
     generalize (A ||| B)%2 ^ k=M at *
     generalize 2 ^ k=P at *
     have tx:((X:Int)%2 == 1)=true:=beq_iff_eq.2 (by omega)
     have ty:((Y:Int)%2 == 1)=false:=beq_eq_false_iff_ne.2 (by omega)
     go_wp2_with (go_at_call 59;refine (hPw.out _).mono ?_;rintro e w' ⟨rfl,rfl⟩)
     go_round
     case rel=>exact ⟨k+1,by omega,by go_num,by rw [hA.out];go_num,by rw [hB.out];go_num,by rw [hn.out];go_num⟩
     case measure=>simp [intOf];omega
   ·by_cases hq:Y%2=1
    ·have hn:Hid ((A ||| B)%2 ^ (k+1)=(A ||| B)%2 ^ k+2 ^ k):=by have h1:=hs.out;rw [hb1.out] at h1;show _=_;simpa [hp,hq] using h1
     clear hs hb1
     generalize (A ||| B)%2 ^ k=M at *
     generalize 2 ^ k=P at *
     have tx:((X:Int)%2 == 1)=false:=beq_eq_false_iff_ne.2 (by omega)
     have ty:((Y:Int)%2 == 1)=true:=beq_iff_eq.2 (by omega)
     go_wp2_with (go_at_call 59;refine (hPw.out _).mono ?_;rintro e w' ⟨rfl,rfl⟩)
     go_round
     case rel=>exact ⟨k+1,by omega,by go_num,by rw [hA.out];go_num,by rw [hB.out];go_num,by rw [hn.out];go_num⟩
     case measure=>simp [intOf];omega
    ·have hn:Hid ((A ||| B)%2 ^ (k+1)=(A ||| B)%2 ^ k):=by have h1:=hs.out;rw [hb1.out] at h1;show _=_;simpa [hp,hq] using h1
     clear hs hb1
     generalize (A ||| B)%2 ^ k=M at *
     generalize 2 ^ k=P at *
     have tx:((X:Int)%2 == 1)=false:=beq_eq_false_iff_ne.2 (by omega)
     have ty:((Y:Int)%2 == 1)=false:=beq_eq_false_iff_ne.2 (by omega)
     go_wp2
     go_round
     case rel=>exact ⟨k+1,by omega,by go_num,by rw [hA.out];go_num,by rw [hB.out];go_num,by rw [hn.out]⟩
     case measure=>simp [intOf];omega
  ·obtain rfl:k=32:=by omega
   go_wp2_with (go_at_call 35;refine (Of_any _ _ (by omega) (by omega)).mono ?_;rintro e w' ⟨rfl,rfl⟩)
   go_ret
   exact ⟨ret_int (by unfold Wd.lo;omega),rfl⟩
theorem bits_xor (A B:Nat)(w:World)(ha:A<4294967296)(hb:B<4294967296):
  Calls Tryz.prog 58 #[.int .i64 33,.int .u32 A,.int .u32 B] w fun e w'=>e=.returned (.int .u32 ((A ^^^ B:Nat):Int))∧w'=w:=by
 have hF:A ^^^ B<2 ^ 32:=Nat.xor_lt_two_pow (by omega) (by omega)
 go_enter Tryz.func58,Tryz.ntmps58
 go_wp2
 go_loop [7,8,9,10] (fun x y n i=>∃k:Nat,k≤32∧i=.int .i64 k∧x=.int .i64 ((A/2 ^ k:Nat):Int)∧y=.int .i64 ((B/2 ^ k:Nat):Int)∧n=.int .i64 (((A ^^^ B)%2 ^ k:Nat):Int)) (fun _ _ _ i=>32-(intOf i).toNat)
 case atStart=>exact ⟨0,by omega,rfl,by simp,by simp,by simp [Nat.mod_one]⟩
 case round=>
  obtain ⟨k,hk,rfl,rfl,rfl,rfl⟩:=hrel
  by_cases hlt:k<32
  ·have hs:Hid _:=bit_step (A ^^^ B) k
   have hA:Hid _:=bit_half A k
   have hB:Hid _:=bit_half B k
   have hb1:Hid _:=bit_xor A B k
   have h2:2 ^ k≤2 ^ 31:=Nat.pow_le_pow_right (by omega) (by omega)
   have hm:(A ^^^ B)%2 ^ k<2 ^ k:=Nat.mod_lt _ (Nat.two_pow_pos k)
   have hAx:A/2 ^ k≤A:=Nat.div_le_self _ _
   have hBx:B/2 ^ k≤B:=Nat.div_le_self _ _
   have hPw:Hid (∀w:World,_):=fun w=>Power_any k w hk
   generalize A/2 ^ k=X at *
   generalize B/2 ^ k=Y at *
   by_cases hp:X%2=1
   ·by_cases hq:Y%2=1
    ·have hn:Hid ((A ^^^ B)%2 ^ (k+1)=(A ^^^ B)%2 ^ k):=by have h1:=hs.out;rw [hb1.out] at h1;show _=_;simpa [hp,hq] using h1
     clear hs hb1
     generalize (A ^^^ B)%2 ^ k=M at *
     generalize 2 ^ k=P at *
     have tx:((X:Int)%2 == 1)=true:=beq_iff_eq.2 (by omega)
     have ty:((Y:Int)%2 == 1)=true:=beq_iff_eq.2 (by omega)
     go_wp2
     go_round
     case rel=>exact ⟨k+1,by omega,by go_num,by rw [hA.out];go_num,by rw [hB.out];go_num,by rw [hn.out]⟩
     case measure=>simp [intOf];omega
    ·have hn:Hid ((A ^^^ B)%2 ^ (k+1)=(A ^^^ B)%2 ^ k+2 ^ k):=by have h1:=hs.out;rw [hb1.out] at h1;show _=_;simpa [hp,hq] using h1
     clear hs hb1
     generalize (A ^^^ B)%2 ^ k=M at *
     generalize 2 ^ k=P at *
     have tx:((X:Int)%2 == 1)=true:=beq_iff_eq.2 (by omega)
     have ty:((Y:Int)%2 == 1)=false:=beq_eq_false_iff_ne.2 (by omega)
     go_wp2_with (go_at_call 59;refine (hPw.out _).mono ?_;rintro e w' ⟨rfl,rfl⟩)
     go_round
     case rel=>exact ⟨k+1,by omega,by go_num,by rw [hA.out];go_num,by rw [hB.out];go_num,by rw [hn.out];go_num⟩
     case measure=>simp [intOf];omega
   ·by_cases hq:Y%2=1
    ·have hn:Hid ((A ^^^ B)%2 ^ (k+1)=(A ^^^ B)%2 ^ k+2 ^ k):=by have h1:=hs.out;rw [hb1.out] at h1;show _=_;simpa [hp,hq] using h1
     clear hs hb1
     generalize (A ^^^ B)%2 ^ k=M at *
     generalize 2 ^ k=P at *
     have tx:((X:Int)%2 == 1)=false:=beq_eq_false_iff_ne.2 (by omega)
     have ty:((Y:Int)%2 == 1)=true:=beq_iff_eq.2 (by omega)
     go_wp2_with (go_at_call 59;refine (hPw.out _).mono ?_;rintro e w' ⟨rfl,rfl⟩)
     go_round
     case rel=>exact ⟨k+1,by omega,by go_num,by rw [hA.out];go_num,by rw [hB.out];go_num,by rw [hn.out];go_num⟩
     case measure=>simp [intOf];omega
    ·have hn:Hid ((A ^^^ B)%2 ^ (k+1)=(A ^^^ B)%2 ^ k):=by have h1:=hs.out;rw [hb1.out] at h1;show _=_;simpa [hp,hq] using h1
     clear hs hb1
     generalize (A ^^^ B)%2 ^ k=M at *
     generalize 2 ^ k=P at *
     have tx:((X:Int)%2 == 1)=false:=beq_eq_false_iff_ne.2 (by omega)
     have ty:((Y:Int)%2 == 1)=false:=beq_eq_false_iff_ne.2 (by omega)
     go_wp2
     go_round
     case rel=>exact ⟨k+1,by omega,by go_num,by rw [hA.out];go_num,by rw [hB.out];go_num,by rw [hn.out]⟩
     case measure=>simp [intOf];omega
  ·obtain rfl:k=32:=by omega
   go_wp2_with (go_at_call 35;refine (Of_any _ _ (by omega) (by omega)).mono ?_;rintro e w' ⟨rfl,rfl⟩)
   go_ret
   exact ⟨ret_int (by unfold Wd.lo;omega),rfl⟩
theorem bits_and' (a b:Int)(w:World)(ha:0≤a)(ha':a<4294967296)(hb:0≤b)(hb':b<4294967296):
  Calls Tryz.prog 58 #[.int .i64 37,.int .u32 a,.int .u32 b] w fun e w'=>e=.returned (.int .u32 (Wd.band a b))∧w'=w:=by
 obtain ⟨a,rfl⟩:=Int.eq_ofNat_of_zero_le ha
 obtain ⟨b,rfl⟩:=Int.eq_ofNat_of_zero_le hb
 exact bits_and a b w (by omega) (by omega)
theorem bits_or' (a b:Int)(w:World)(ha:0≤a)(ha':a<4294967296)(hb:0≤b)(hb':b<4294967296):
  Calls Tryz.prog 58 #[.int .i64 36,.int .u32 a,.int .u32 b] w fun e w'=>e=.returned (.int .u32 (Wd.bor a b))∧w'=w:=by
 obtain ⟨a,rfl⟩:=Int.eq_ofNat_of_zero_le ha
 obtain ⟨b,rfl⟩:=Int.eq_ofNat_of_zero_le hb
 exact bits_or a b w (by omega) (by omega)
theorem bits_xor' (a b:Int)(w:World)(ha:0≤a)(ha':a<4294967296)(hb:0≤b)(hb':b<4294967296):
  Calls Tryz.prog 58 #[.int .i64 33,.int .u32 a,.int .u32 b] w fun e w'=>e=.returned (.int .u32 (Wd.bxor a b))∧w'=w:=by
 obtain ⟨a,rfl⟩:=Int.eq_ofNat_of_zero_le ha
 obtain ⟨b,rfl⟩:=Int.eq_ofNat_of_zero_le hb
 exact bits_xor a b w (by omega) (by omega)
theorem Power_pw (b:Int)(w:World)(hb:0≤b):
  Calls Tryz.prog 59 #[.int .i64 (b%32)] w fun e w'=>e=.returned (.int .i64 (Wd.pw b))∧w'=w:=by
 have h:=Power_any (b.toNat%32) w (by omega)
 rw [Wd.pw_nat b hb]
 rw [show ((b.toNat%32:Nat):Int)=b%32 by omega] at h
 exact h
theorem Power_rest (b:Int)(w:World)(hb:0≤b):
  Calls Tryz.prog 59 #[.int .i64 (32-b%32)] w fun e w'=>e=.returned (.int .i64 ((2 ^ (32-b.toNat%32):Nat):Int))∧w'=w:=by
 have h:=Power_any (32-b.toNat%32) w (by omega)
 rw [show ((32-b.toNat%32:Nat):Int)=32-b%32 by omega] at h
 exact h
theorem sll_eq (a b:Int)(ha:0≤a)(hb:0≤b):a%((2 ^ (32-b.toNat%32):Nat):Int)*Wd.pw b=Wd.lo (a*Wd.pw b):=by
 rw [Wd.pw_nat b hb]
 obtain ⟨a,rfl⟩:=Int.eq_ofNat_of_zero_le ha
 obtain ⟨b,rfl⟩:=Int.eq_ofNat_of_zero_le hb
 simp only [Int.toNat_natCast,Wd.lo]
 have h:a%2 ^ (32-b%32)*2 ^ (b%32)=a*2 ^ (b%32)%4294967296:=by
  have h1:(4294967296:Nat)=2 ^ (32-b%32)*2 ^ (b%32):=by
   rw [←Nat.pow_add,show 32-b%32+b%32=32 by omega]
  rw [h1,Nat.mul_mod_mul_right]
 rw [←Int.natCast_emod,←Int.natCast_mul,←Int.natCast_mul,h]
 generalize a*2 ^ (b%32)=x
 omega
theorem sll_bd (a b:Int)(hb:0≤b):0≤a%((2 ^ (32-b.toNat%32):Nat):Int)∧a%((2 ^ (32-b.toNat%32):Nat):Int)<4294967296:=by
 have h1:2 ^ (32-b.toNat%32)≤2 ^ 32:=Nat.pow_le_pow_right (by omega) (by omega)
 have h2:0<2 ^ (32-b.toNat%32):=Nat.two_pow_pos _
 generalize 2 ^ (32-b.toNat%32)=P at *
 have h3:=Int.emod_nonneg a (show (P:Int)≠0 by omega)
 have h4:=Int.emod_lt_of_pos a (show (0:Int)<P by omega)
 omega
theorem alu_28 (a b:Int)(w:World)(ha:0≤a)(ha':a<4294967296)(hb:0≤b)(hb':b<4294967296):
  Calls Tryz.prog 40 #[.int .i64 28,.int .u32 a,.int .u32 b] w fun e w'=>e=.returned (.int .u32 (Wd.alu 28 a b))∧w'=w:=by
 have sa:=Wd.sg_bd ha ha'
 have sb:=Wd.sg_bd hb hb'
 go_enter Tryz.func40,Tryz.ntmps40
 go_wp2_with (first|(go_at_call 47;refine (Signed_any _ _ (by omega) (by omega)).mono ?_;rintro e w' ⟨rfl,rfl⟩)|(go_at_call 35;refine (Of_any _ _ (by omega) (by omega)).mono ?_;rintro e w' ⟨rfl,rfl⟩))
 go_ret
 exact ⟨ret_int (rfl),rfl⟩
theorem alu_29 (a b:Int)(w:World)(ha:0≤a)(ha':a<4294967296)(hb:0≤b)(hb':b<4294967296):
  Calls Tryz.prog 40 #[.int .i64 29,.int .u32 a,.int .u32 b] w fun e w'=>e=.returned (.int .u32 (Wd.alu 29 a b))∧w'=w:=by
 have sa:=Wd.sg_bd ha ha'
 have sb:=Wd.sg_bd hb hb'
 go_enter Tryz.func40,Tryz.ntmps40
 go_wp2_with (first|(go_at_call 47;refine (Signed_any _ _ (by omega) (by omega)).mono ?_;rintro e w' ⟨rfl,rfl⟩)|(go_at_call 35;refine (Of_any _ _ (by omega) (by omega)).mono ?_;rintro e w' ⟨rfl,rfl⟩))
 go_ret
 exact ⟨ret_int (rfl),rfl⟩
theorem alu_37 (a b:Int)(w:World)(ha:0≤a)(ha':a<4294967296)(hb:0≤b)(hb':b<4294967296):
  Calls Tryz.prog 40 #[.int .i64 37,.int .u32 a,.int .u32 b] w fun e w'=>e=.returned (.int .u32 (Wd.alu 37 a b))∧w'=w:=by
 have sa:=Wd.sg_bd ha ha'
 have sb:=Wd.sg_bd hb hb'
 go_enter Tryz.func40,Tryz.ntmps40
 go_wp2_with (first|(go_at_call 58;refine (bits_and' _ _ _ (by omega) (by omega) (by omega) (by omega)).mono ?_;rintro e w' ⟨rfl,rfl⟩)|(go_at_call 47;refine (Signed_any _ _ (by omega) (by omega)).mono ?_;rintro e w' ⟨rfl,rfl⟩))
 go_ret
 exact ⟨ret_int (rfl),rfl⟩
theorem alu_36 (a b:Int)(w:World)(ha:0≤a)(ha':a<4294967296)(hb:0≤b)(hb':b<4294967296):
  Calls Tryz.prog 40 #[.int .i64 36,.int .u32 a,.int .u32 b] w fun e w'=>e=.returned (.int .u32 (Wd.alu 36 a b))∧w'=w:=by
 have sa:=Wd.sg_bd ha ha'
 have sb:=Wd.sg_bd hb hb'
 go_enter Tryz.func40,Tryz.ntmps40
 go_wp2_with (first|(go_at_call 58;refine (bits_or' _ _ _ (by omega) (by omega) (by omega) (by omega)).mono ?_;rintro e w' ⟨rfl,rfl⟩)|(go_at_call 47;refine (Signed_any _ _ (by omega) (by omega)).mono ?_;rintro e w' ⟨rfl,rfl⟩))
 go_ret
 exact ⟨ret_int (rfl),rfl⟩
theorem alu_33 (a b:Int)(w:World)(ha:0≤a)(ha':a<4294967296)(hb:0≤b)(hb':b<4294967296):
  Calls Tryz.prog 40 #[.int .i64 33,.int .u32 a,.int .u32 b] w fun e w'=>e=.returned (.int .u32 (Wd.alu 33 a b))∧w'=w:=by
 have sa:=Wd.sg_bd ha ha'
 have sb:=Wd.sg_bd hb hb'
 go_enter Tryz.func40,Tryz.ntmps40
 go_wp2_with (first|(go_at_call 58;refine (bits_xor' _ _ _ (by omega) (by omega) (by omega) (by omega)).mono ?_;rintro e w' ⟨rfl,rfl⟩)|(go_at_call 47;refine (Signed_any _ _ (by omega) (by omega)).mono ?_;rintro e w' ⟨rfl,rfl⟩))
 go_ret
 exact ⟨ret_int (rfl),rfl⟩
end Go.Proofs.YtchllaeembmioaaGreatDoor.Rw
