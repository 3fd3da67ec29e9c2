/- ours -/
import Derived.Test.YtiadhbmnfjfioaaGreatDoorX20
set_option linter.unusedVariables false
set_option linter.unusedSimpArgs false
set_option maxHeartbeats 8000000
set_option maxRecDepth 100000
set_option linter.unusedSectionVars false
namespace Go.Proofs.YtiadhbmnfjfioaaGreatDoor
open Go.Proofs.Tryz hiding d0 d1
open Go.ChangeShapes Go.WideShapes Go.ChangeAt Go.RowKit
namespace As
open Mm

variable {w w' :World}
theorem bInfo:(prog.info? 74).map (·.size)=some 2:=by kernel_rfl
theorem aeR:liesAt prog prog.depth 74 (2/prog.cellsOf 74) 0 74 1=true:=by kernel_rfl
theorem Xz:(prog.info? 5).map (fun i=>(i.zero,i.size,i.bytes))=some (some (.int .u8 0),1,1):=by kernel_rfl
theorem xR {b:Nat}(h0:w.cell? ⟨b,0,none⟩=some (.pointer none))(hsh:w.shape? b=some (74,2))(hfz:w.frozen? ⟨b,0,none⟩=false):Calls prog 41 #[.pointer (some ⟨b,0,none⟩)] w fun e w'=>e=.returned (.tuple #[])/\w'=w.setCell ⟨b,0,none⟩ (.pointer (some ⟨b,0,none⟩)):=by obtain⟨j,hj,hjs⟩:=aqv.1 bInfo;go_enter func41,ntmps41;go_wp2;rw[Lib.run_to_unsafe w ⟨b,0,none⟩ underlying72 underlying162 hj (by rw[hjs];decide) hsh (Nat.zero_lt_succ 1)];simp only[Result.andThen];rw[Oper.upon_value];go_wp2;rw[run_callFunc_extern func74 (by kernel_rfl) (by kernel_rfl) (by kernel_rfl) (e:=Extern.AbiNoEscape.same) (by kernel_rfl),Lib.run_noEscape];simp only[Result.andThen];rw[Oper.upon_value];go_wp2;rw[Lib.run_from_unsafe w ⟨b,0,none⟩ underlying162 underlying72 hj hsh aeR];simp only[Result.andThen];rw[Oper.upon_value];go_wp2;go_end0;exact⟨rfl,rfl⟩
theorem xS {b:Nat}(h0:w.cell? ⟨b,0,none⟩=some (.pointer (some ⟨b,0,none⟩))):Calls prog 41 #[.pointer (some ⟨b,0,none⟩)] w fun e w'=>e=.returned (.tuple #[])/\w'=w:=by obtain⟨j,hj,_⟩:=aqv.1 bInfo;go_enter func41,ntmps41;go_wp2;rw[Lib.run_neq_ptr_same w _ underlying72 hj];go_wp2;go_end0;exact⟨rfl,rfl⟩
abbrev Bq (B b:Nat) (l:List UInt8) (w:World):Prop:=Lib.IsBuilderF 74 5 B b (Lib.byteCells l) w
theorem Ke {B b:Nat}{bs:List Value}(h:Lib.IsBuilderF 74 5 B b bs w):Calls prog 41 #[.pointer (some ⟨b,0,none⟩)] w fun e w'=>e=.returned (.tuple #[])/\Lib.BuilderAtF 74 5 B b (.pointer (some ⟨b,0,none⟩)) bs w'/\Below B w w'/\Lib.OthersKept 5 (some b) w w':=by
 rcases h with h|h
 ·refine(xR h.cell0 h.shape h.frozen0).mono ?_;rintro e w' ⟨rfl,rfl⟩;exact⟨rfl,h.used _,(auC B w).setCell (p:=⟨b,0,none⟩) h.1 _,(Lib.OthersKept.refl _ _ w).setCell ⟨b,0,none⟩ rfl _⟩
 ·refine(xS h.cell0).mono ?_;rintro e w' ⟨rfl,rfl⟩;exact⟨rfl,h,auC B _,Lib.OthersKept.refl _ _ _⟩
theorem Kq {B b:Nat}{bs:List Value}(s:ByteArray)(h:Lib.IsBuilderF 74 5 B b bs w)(hlen:bs.length+s.size<=140737488355328)(hBw:B<=w.heap.size):Calls prog 19 #[.pointer (some ⟨b,0,none⟩),.string s] w fun e w'=>e=.returned (.tuple #[.int .i64 s.size,.nilIface])/\Lib.IsBuilderF 74 5 B b (bs++Lib.strCells s) w'/\Below B w w'/\Lib.OthersKept 5 (some b) w w':=by
 obtain⟨i0,hi,hz0,hz1,hz2⟩:=auz Xz;have H:Hid (Calls prog 41 #[.pointer (some ⟨b,0,none⟩)] w fun e w'=>e=.returned (.tuple #[])/\Lib.BuilderAtF 74 5 B b (.pointer (some ⟨b,0,none⟩)) bs w'/\Below B w w'/\Lib.OthersKept 5 (some b) w w'):=Ke h;clear h;go_enter func19,ntmps19;go_wp2_with fail;refine H.out.mono ?_;rintro e w1 ⟨rfl,h1,hb1,hk1⟩;obtain⟨hB,v,hbk,hown,hne⟩:=h1;have c0:w1.cell? ⟨b,0,none⟩=some (.pointer (some ⟨b,0,none⟩)):=(cr hbk).trans rfl;have c1:w1.cell? ⟨b,1,none⟩=some v:=(cr hbk).trans rfl;go_wp2_with (at_builtin;refine Lib.wpList_append_own_stringF _ rfl _ _ 25 9 rfl B 5 i0 underlying25 underlying9 hi hz0 hz1 hz2 _ _ _ rfl hown s rfl ?c3 ?c4 ?c5 ?_)
 case c3=>unfold maxLen;omega
 case c4=>omega
 case c5=>have:=hb1.size;omega
 intro v' w2 hown' hgrow _;have hlt:b<w1.heap.size:=(gs hbk).1;have hb2:w2.heap[b]?=some (.cells #[.pointer (some ⟨b,0,none⟩),v] 74 (0,0)):=by
  rw[hgrow.block b hlt (fun e=>hne e.symm)];exact hbk
 have d0:w2.cell? ⟨b,0,none⟩=some (.pointer (some ⟨b,0,none⟩)):=(cr hb2).trans rfl;have d1:w2.cell? ⟨b,1,none⟩=some v:=(cr hb2).trans rfl;have f1:w2.frozen? ⟨b,1,none⟩=false:=lh hb2;obtain⟨ao,n',cap,rfl⟩:∃ao n' cap,v'=.slice ao n' cap:=by
  rcases hown'.2 with⟨hv,_⟩|⟨g,cap,cur,fz,hv,_⟩
  ·exact⟨_,_,_,hv⟩
  ·exact⟨_,_,_,hv⟩
 go_wp2;go_ret2;refine⟨rfl,.inr ?_,?_,(hk1.grown hgrow (Lib.ownsRowF_kind hown)).setCell ⟨b,1,none⟩ rfl _⟩
 ·exact Lib.BuilderAtF.put hB hb2 (bs':=bs++Lib.strCells s) (by simpa[Lib.strCells_length]using hown') (by decide)
 ·exact(hb1.grown hgrow (by have:=hb1.size;omega) (fun k hk=>(hown.lt k hk).1)).setCell (p:=⟨b,1,none⟩) hB _
theorem aF {op a b:Int}(h1:a<=op)(h2:op<=b)(w:World):Calls prog 94 #[.int .i64 op,.int .i64 a,.int .i64 b] w fun e w'=>e=.returned (.bool true)/\w=w':=by go_enter func94,ntmps94;go_wp2;go_ret;exact⟨rfl,rfl⟩
theorem ai {op a b:Int}(h:op<a\/b<op)(w:World):Calls prog 94 #[.int .i64 op,.int .i64 a,.int .i64 b] w fun e w'=>e=.returned (.bool false)/\w=w':=by
 by_cases h1:a<=op
 ·have h2:¬op<=b:=by omega
  go_enter func94,ntmps94;go_wp2;go_ret;exact⟨rfl,rfl⟩
 ·clear h;go_enter func94,ntmps94;go_wp2;go_ret;exact⟨rfl,rfl⟩
theorem Qk {op:Int}(h1:1<=op)(h2:op<=2)(w:World):Calls prog 67 #[.int .i64 op] w fun e w'=>e=.returned (str (jU op))/\w=w':=by rw[acs (by omega)];have H0:=kH (aF h1 h2);go_enter func67,ntmps67;go_wp2_with fail;refine(H0.out _).mono ?_;rintro e _ ⟨rfl,rfl⟩;go_wp2_with fail;go_ret;exact⟨rfl,rfl⟩
theorem Ql {op:Int}(h:op=3)(w:World):Calls prog 67 #[.int .i64 op] w fun e w'=>e=.returned (str (jU op))/\w=w':=by
 rw[acu (by omega)];have H0:Hid (∀w:World,Calls prog 94 #[.int .i64 op,.int .i64 1,.int .i64 2] w fun e w'=>e=.returned (.bool false)/\w=w'):=ai (by omega);have e3:(op ==3)=true:=by simp;omega
 clear h;go_enter func67,ntmps67;go_wp2_with fail;refine(H0.out _).mono ?_;rintro e _ ⟨rfl,rfl⟩;go_wp2_with fail;go_ret;exact⟨rfl,rfl⟩
theorem Qm {op:Int}(h:op=4)(w:World):Calls prog 67 #[.int .i64 op] w fun e w'=>e=.returned (str (jU op))/\w=w':=by
 rw[RD (by unfold F2;omega)];have H0:Hid (∀w:World,Calls prog 94 #[.int .i64 op,.int .i64 1,.int .i64 2] w fun e w'=>e=.returned (.bool false)/\w=w'):=ai (by omega);have e3:(op ==3)=false:=by simp;omega
 have e4:(op ==4)=true:=by simp;omega
 clear h;go_enter func67,ntmps67;go_wp2_with fail;refine(H0.out _).mono ?_;rintro e _ ⟨rfl,rfl⟩;go_wp2_with fail;go_ret;exact⟨rfl,rfl⟩
theorem Qn {op:Int}(h1:19<=op)(h2:op<=27)(w:World):Calls prog 67 #[.int .i64 op] w fun e w'=>e=.returned (str (jU op))/\w=w':=by
 rw[RD (by unfold F2;omega)];have H0:Hid (∀w:World,Calls prog 94 #[.int .i64 op,.int .i64 1,.int .i64 2] w fun e w'=>e=.returned (.bool false)/\w=w'):=ai (by omega);have e3:(op ==3)=false:=by simp;omega
 have e4:(op ==4)=false:=by simp;omega
 have H3:=kH (aF h1 h2);go_enter func67,ntmps67;go_wp2_with fail;refine(H0.out _).mono ?_;rintro e _ ⟨rfl,rfl⟩;go_wp2_with fail;refine(H3.out _).mono ?_;rintro e _ ⟨rfl,rfl⟩;go_wp2_with fail;go_ret;exact⟨rfl,rfl⟩
theorem Qo {op:Int}(h:op=57)(w:World):Calls prog 67 #[.int .i64 op] w fun e w'=>e=.returned (str (jU op))/\w=w':=by
 rw[RD (by unfold F2;omega)];have H0:Hid (∀w:World,Calls prog 94 #[.int .i64 op,.int .i64 1,.int .i64 2] w fun e w'=>e=.returned (.bool false)/\w=w'):=ai (by omega);have e3:(op ==3)=false:=by simp;omega
 have e4:(op ==4)=false:=by simp;omega
 have H3:Hid (∀w:World,Calls prog 94 #[.int .i64 op,.int .i64 19,.int .i64 27] w fun e w'=>e=.returned (.bool false)/\w=w'):=ai (by omega);have e57:(op ==57)=true:=by simp;omega
 clear h;go_enter func67,ntmps67;go_wp2_with fail;refine(H0.out _).mono ?_;rintro e _ ⟨rfl,rfl⟩;go_wp2_with fail;refine(H3.out _).mono ?_;rintro e _ ⟨rfl,rfl⟩;go_wp2_with fail;go_ret;exact⟨rfl,rfl⟩
theorem Qp {op:Int}(h1:5<=op)(h2:op<=10)(w:World):Calls prog 67 #[.int .i64 op] w fun e w'=>e=.returned (str (jU op))/\w=w':=by
 rw[acv (by omega)];have H0:Hid (∀w:World,Calls prog 94 #[.int .i64 op,.int .i64 1,.int .i64 2] w fun e w'=>e=.returned (.bool false)/\w=w'):=ai (by omega);have e3:(op ==3)=false:=by simp;omega
 have e4:(op ==4)=false:=by simp;omega
 have H3:Hid (∀w:World,Calls prog 94 #[.int .i64 op,.int .i64 19,.int .i64 27] w fun e w'=>e=.returned (.bool false)/\w=w'):=ai (by omega);have e57:(op ==57)=false:=by simp;omega
 have H5:=kH (aF h1 h2);go_enter func67,ntmps67;go_wp2_with fail;refine(H0.out _).mono ?_;rintro e _ ⟨rfl,rfl⟩;go_wp2_with fail;refine(H3.out _).mono ?_;rintro e _ ⟨rfl,rfl⟩;go_wp2_with fail;refine(H5.out _).mono ?_;rintro e _ ⟨rfl,rfl⟩;go_wp2_with fail;go_ret;exact⟨rfl,rfl⟩
theorem Qq {op:Int}(h1:11<=op)(h2:op<=15)(w:World):Calls prog 67 #[.int .i64 op] w fun e w'=>e=.returned (str (jU op))/\w=w':=by
 rw[acw (by omega)];have H0:Hid (∀w:World,Calls prog 94 #[.int .i64 op,.int .i64 1,.int .i64 2] w fun e w'=>e=.returned (.bool false)/\w=w'):=ai (by omega);have e3:(op ==3)=false:=by simp;omega
 have e4:(op ==4)=false:=by simp;omega
 have H3:Hid (∀w:World,Calls prog 94 #[.int .i64 op,.int .i64 19,.int .i64 27] w fun e w'=>e=.returned (.bool false)/\w=w'):=ai (by omega);have e57:(op ==57)=false:=by simp;omega
 have H5:Hid (∀w:World,Calls prog 94 #[.int .i64 op,.int .i64 5,.int .i64 10] w fun e w'=>e=.returned (.bool false)/\w=w'):=ai (by omega);have H6:=kH (aF h1 h2);go_enter func67,ntmps67;go_wp2_with fail;refine(H0.out _).mono ?_;rintro e _ ⟨rfl,rfl⟩;go_wp2_with fail;refine(H3.out _).mono ?_;rintro e _ ⟨rfl,rfl⟩;go_wp2_with fail;refine(H5.out _).mono ?_;rintro e _ ⟨rfl,rfl⟩;go_wp2_with fail;refine(H6.out _).mono ?_;rintro e _ ⟨rfl,rfl⟩;go_wp2_with fail;go_ret;exact⟨rfl,rfl⟩
theorem Qr {op:Int}(h1:16<=op)(h2:op<=18)(w:World):Calls prog 67 #[.int .i64 op] w fun e w'=>e=.returned (str (jU op))/\w=w':=by
 rw[acx (by omega)];have H0:Hid (∀w:World,Calls prog 94 #[.int .i64 op,.int .i64 1,.int .i64 2] w fun e w'=>e=.returned (.bool false)/\w=w'):=ai (by omega);have e3:(op ==3)=false:=by simp;omega
 have e4:(op ==4)=false:=by simp;omega
 have H3:Hid (∀w:World,Calls prog 94 #[.int .i64 op,.int .i64 19,.int .i64 27] w fun e w'=>e=.returned (.bool false)/\w=w'):=ai (by omega);have e57:(op ==57)=false:=by simp;omega
 have H5:Hid (∀w:World,Calls prog 94 #[.int .i64 op,.int .i64 5,.int .i64 10] w fun e w'=>e=.returned (.bool false)/\w=w'):=ai (by omega);have H6:Hid (∀w:World,Calls prog 94 #[.int .i64 op,.int .i64 11,.int .i64 15] w fun e w'=>e=.returned (.bool false)/\w=w'):=ai (by omega);have H7:=kH (aF h1 h2);go_enter func67,ntmps67;go_wp2_with fail;refine(H0.out _).mono ?_;rintro e _ ⟨rfl,rfl⟩;go_wp2_with fail;refine(H3.out _).mono ?_;rintro e _ ⟨rfl,rfl⟩;go_wp2_with fail;refine(H5.out _).mono ?_;rintro e _ ⟨rfl,rfl⟩;go_wp2_with fail;refine(H6.out _).mono ?_;rintro e _ ⟨rfl,rfl⟩;go_wp2_with fail;refine(H7.out _).mono ?_;rintro e _ ⟨rfl,rfl⟩;go_wp2_with fail;go_ret;exact⟨rfl,rfl⟩
theorem Qs {op:Int}(h1:28<=op)(h2:op<=45)(w:World):Calls prog 67 #[.int .i64 op] w fun e w'=>e=.returned (str (jU op))/\w=w':=by
 rw[acy (by omega)];have H0:Hid (∀w:World,Calls prog 94 #[.int .i64 op,.int .i64 1,.int .i64 2] w fun e w'=>e=.returned (.bool false)/\w=w'):=ai (by omega);have e3:(op ==3)=false:=by simp;omega
 have e4:(op ==4)=false:=by simp;omega
 have H3:Hid (∀w:World,Calls prog 94 #[.int .i64 op,.int .i64 19,.int .i64 27] w fun e w'=>e=.returned (.bool false)/\w=w'):=ai (by omega);have e57:(op ==57)=false:=by simp;omega
 have H5:Hid (∀w:World,Calls prog 94 #[.int .i64 op,.int .i64 5,.int .i64 10] w fun e w'=>e=.returned (.bool false)/\w=w'):=ai (by omega);have H6:Hid (∀w:World,Calls prog 94 #[.int .i64 op,.int .i64 11,.int .i64 15] w fun e w'=>e=.returned (.bool false)/\w=w'):=ai (by omega);have H7:Hid (∀w:World,Calls prog 94 #[.int .i64 op,.int .i64 16,.int .i64 18] w fun e w'=>e=.returned (.bool false)/\w=w'):=ai (by omega);have H8:=kH (aF h1 h2);go_enter func67,ntmps67;go_wp2_with fail;refine(H0.out _).mono ?_;rintro e _ ⟨rfl,rfl⟩;go_wp2_with fail;refine(H3.out _).mono ?_;rintro e _ ⟨rfl,rfl⟩;go_wp2_with fail;refine(H5.out _).mono ?_;rintro e _ ⟨rfl,rfl⟩;go_wp2_with fail;refine(H6.out _).mono ?_;rintro e _ ⟨rfl,rfl⟩;go_wp2_with fail;refine(H7.out _).mono ?_;rintro e _ ⟨rfl,rfl⟩;go_wp2_with fail;refine(H8.out _).mono ?_;rintro e _ ⟨rfl,rfl⟩;go_wp2_with fail;go_ret;exact⟨rfl,rfl⟩
theorem Qt {op:Int}(h:op=46)(w:World):Calls prog 67 #[.int .i64 op] w fun e w'=>e=.returned (str (jU op))/\w=w':=by
 rw[acz (by omega)];have H0:Hid (∀w:World,Calls prog 94 #[.int .i64 op,.int .i64 1,.int .i64 2] w fun e w'=>e=.returned (.bool false)/\w=w'):=ai (by omega);have e3:(op ==3)=false:=by simp;omega
 have e4:(op ==4)=false:=by simp;omega
 have H3:Hid (∀w:World,Calls prog 94 #[.int .i64 op,.int .i64 19,.int .i64 27] w fun e w'=>e=.returned (.bool false)/\w=w'):=ai (by omega);have e57:(op ==57)=false:=by simp;omega
 have H5:Hid (∀w:World,Calls prog 94 #[.int .i64 op,.int .i64 5,.int .i64 10] w fun e w'=>e=.returned (.bool false)/\w=w'):=ai (by omega);have H6:Hid (∀w:World,Calls prog 94 #[.int .i64 op,.int .i64 11,.int .i64 15] w fun e w'=>e=.returned (.bool false)/\w=w'):=ai (by omega);have H7:Hid (∀w:World,Calls prog 94 #[.int .i64 op,.int .i64 16,.int .i64 18] w fun e w'=>e=.returned (.bool false)/\w=w'):=ai (by omega);have H8:Hid (∀w:World,Calls prog 94 #[.int .i64 op,.int .i64 28,.int .i64 45] w fun e w'=>e=.returned (.bool false)/\w=w'):=ai (by omega);have e46:(op ==46)=true:=by simp;omega
 clear h;go_enter func67,ntmps67;go_wp2_with fail;refine(H0.out _).mono ?_;rintro e _ ⟨rfl,rfl⟩;go_wp2_with fail;refine(H3.out _).mono ?_;rintro e _ ⟨rfl,rfl⟩;go_wp2_with fail;refine(H5.out _).mono ?_;rintro e _ ⟨rfl,rfl⟩;go_wp2_with fail;refine(H6.out _).mono ?_;rintro e _ ⟨rfl,rfl⟩;go_wp2_with fail;refine(H7.out _).mono ?_;rintro e _ ⟨rfl,rfl⟩;go_wp2_with fail;refine(H8.out _).mono ?_;rintro e _ ⟨rfl,rfl⟩;go_wp2_with fail;go_ret;exact⟨rfl,rfl⟩
theorem Kt {op:Int}(h1:47<=op)(h2:op<=56)(w:World):Calls prog 67 #[.int .i64 op] w fun e w'=>e=.returned (str (jU op))/\w=w':=by
 rw[acA (by omega)];have H0:Hid (∀w:World,Calls prog 94 #[.int .i64 op,.int .i64 1,.int .i64 2] w fun e w'=>e=.returned (.bool false)/\w=w'):=ai (by omega);have e3:(op ==3)=false:=by simp;omega
 have e4:(op ==4)=false:=by simp;omega
 have H3:Hid (∀w:World,Calls prog 94 #[.int .i64 op,.int .i64 19,.int .i64 27] w fun e w'=>e=.returned (.bool false)/\w=w'):=ai (by omega);have e57:(op ==57)=false:=by simp;omega
 have H5:Hid (∀w:World,Calls prog 94 #[.int .i64 op,.int .i64 5,.int .i64 10] w fun e w'=>e=.returned (.bool false)/\w=w'):=ai (by omega);have H6:Hid (∀w:World,Calls prog 94 #[.int .i64 op,.int .i64 11,.int .i64 15] w fun e w'=>e=.returned (.bool false)/\w=w'):=ai (by omega);have H7:Hid (∀w:World,Calls prog 94 #[.int .i64 op,.int .i64 16,.int .i64 18] w fun e w'=>e=.returned (.bool false)/\w=w'):=ai (by omega);have H8:Hid (∀w:World,Calls prog 94 #[.int .i64 op,.int .i64 28,.int .i64 45] w fun e w'=>e=.returned (.bool false)/\w=w'):=ai (by omega);have e46:(op ==46)=false:=by simp;omega
 have H10:=kH (aF h1 h2);go_enter func67,ntmps67;go_wp2_with fail;refine(H0.out _).mono ?_;rintro e _ ⟨rfl,rfl⟩;go_wp2_with fail;refine(H3.out _).mono ?_;rintro e _ ⟨rfl,rfl⟩;go_wp2_with fail;refine(H5.out _).mono ?_;rintro e _ ⟨rfl,rfl⟩;go_wp2_with fail;refine(H6.out _).mono ?_;rintro e _ ⟨rfl,rfl⟩;go_wp2_with fail;refine(H7.out _).mono ?_;rintro e _ ⟨rfl,rfl⟩;go_wp2_with fail;refine(H8.out _).mono ?_;rintro e _ ⟨rfl,rfl⟩;go_wp2_with fail;refine(H10.out _).mono ?_;rintro e _ ⟨rfl,rfl⟩;go_wp2_with fail;go_ret;exact⟨rfl,rfl⟩
theorem Qu {op:Int}(h:op<1\/58<=op)(w:World):Calls prog 67 #[.int .i64 op] w fun e w'=>e=.returned (str (jU op))/\w=w':=by
 rw[acB h];have H0:Hid (∀w:World,Calls prog 94 #[.int .i64 op,.int .i64 1,.int .i64 2] w fun e w'=>e=.returned (.bool false)/\w=w'):=ai (by omega);have e3:(op ==3)=false:=by simp;omega
 have e4:(op ==4)=false:=by simp;omega
 have H3:Hid (∀w:World,Calls prog 94 #[.int .i64 op,.int .i64 19,.int .i64 27] w fun e w'=>e=.returned (.bool false)/\w=w'):=ai (by omega);have e57:(op ==57)=false:=by simp;omega
 have H5:Hid (∀w:World,Calls prog 94 #[.int .i64 op,.int .i64 5,.int .i64 10] w fun e w'=>e=.returned (.bool false)/\w=w'):=ai (by omega);have H6:Hid (∀w:World,Calls prog 94 #[.int .i64 op,.int .i64 11,.int .i64 15] w fun e w'=>e=.returned (.bool false)/\w=w'):=ai (by omega);have H7:Hid (∀w:World,Calls prog 94 #[.int .i64 op,.int .i64 16,.int .i64 18] w fun e w'=>e=.returned (.bool false)/\w=w'):=ai (by omega);have H8:Hid (∀w:World,Calls prog 94 #[.int .i64 op,.int .i64 28,.int .i64 45] w fun e w'=>e=.returned (.bool false)/\w=w'):=ai (by omega);have e46:(op ==46)=false:=by simp;omega
 have H10:Hid (∀w:World,Calls prog 94 #[.int .i64 op,.int .i64 47,.int .i64 56] w fun e w'=>e=.returned (.bool false)/\w=w'):=ai (by omega);go_enter func67,ntmps67;go_wp2_with fail;refine(H0.out _).mono ?_;rintro e _ ⟨rfl,rfl⟩;go_wp2_with fail;refine(H3.out _).mono ?_;rintro e _ ⟨rfl,rfl⟩;go_wp2_with fail;refine(H5.out _).mono ?_;rintro e _ ⟨rfl,rfl⟩;go_wp2_with fail;refine(H6.out _).mono ?_;rintro e _ ⟨rfl,rfl⟩;go_wp2_with fail;refine(H7.out _).mono ?_;rintro e _ ⟨rfl,rfl⟩;go_wp2_with fail;refine(H8.out _).mono ?_;rintro e _ ⟨rfl,rfl⟩;go_wp2_with fail;refine(H10.out _).mono ?_;rintro e _ ⟨rfl,rfl⟩;go_wp2_with fail;go_ret;exact⟨rfl,rfl⟩
theorem Ku (op:Int)(w:World):Calls prog 67 #[.int .i64 op] w fun e w'=>e=.returned (str (jU op))/\w=w':=by
 by_cases c0:1<=op/\op<=2
 ·exact Qk c0.1 c0.2 w
 by_cases c1:op=3
 ·exact Ql c1 w
 by_cases c2:op=4
 ·exact Qm c2 w
 by_cases c3:19<=op/\op<=27
 ·exact Qn c3.1 c3.2 w
 by_cases c4:op=57
 ·exact Qo c4 w
 by_cases c5:5<=op/\op<=10
 ·exact Qp c5.1 c5.2 w
 by_cases c6:11<=op/\op<=15
 ·exact Qq c6.1 c6.2 w
 by_cases c7:16<=op/\op<=18
 ·exact Qr c7.1 c7.2 w
 by_cases c8:28<=op/\op<=45
 ·exact Qs c8.1 c8.2 w
 by_cases c9:op=46
 ·exact Qt c9 w
 by_cases c10:47<=op/\op<=56
 ·exact Kt c10.1 c10.2 w
 exact Qu (by omega) w
theorem abv (op:Int):∀c∈jU op,c=100\/c=115\/c=116\/c=105\/c=117\/c=44\/c=40\/c=41:=by
 unfold jU;repeat' split
 all_goals decide
theorem zM (op:Int):(jU op).length<=7:=by
 unfold jU;repeat' split
 all_goals decide
abbrev df (f:Fi):Value:=.agg #[.int .i64 f.1,.int .i64 f.2.1,.int .i64 f.2.2.1,.int .i64 f.2.2.2.1,.int .i32 f.2.2.2.2]
structure Ib (rd a b n:Int):Prop where
 d0:0<=rd
 d1:rd<=31
 a0:0<=a
 a1:a<=31
 b0:0<=b
 b1:b<=31
 n0 : -2147483648<=n
 n1:n<2147483648
theorem Ib.of {op rd a b n:Int}(h:Re.XI op rd a b n)(n0 : -2147483648<=n)(n1:n<2147483648):Ib rd a b n:=⟨h.1.2.2.1,h.1.2.2.2.1,h.1.2.2.2.2.1,h.1.2.2.2.2.2.1,h.1.2.2.2.2.2.2.1,h.1.2.2.2.2.2.2.2,n0,n1⟩
theorem Qw {op rd a b n:Int}(R:Ib rd a b n)(T:gz w):Calls prog 68 #[.agg #[.int .i64 op,.int .i64 rd,.int .i64 a,.int .i64 b,.int .i32 n],.int .i32 100] w fun e w'=>e=.returned (str (rg rd))/\Gr w w':=by
 have HC:Hid (∀w:World,gz w->Calls prog 95 #[.int .i64 rd] w fun e w'=>e=.returned (str (rg rd))/\Gr w w'):=fun w T=>kJ (by have:=R.d0;omega) (by have:=R.d1;omega) T
 have HT:=kH T;have n0:=R.n0;have n1:=R.n1;generalize str (rg rd)=V at *
 go_enter func68,ntmps68;go_wp2_with fail;refine(HC.out _ (HT.out.of ((Gr.refl _).alloc _))).mono ?_;rintro e w1 ⟨rfl,G1⟩;go_wp2_with fail;go_ret;exact⟨rfl,((Gr.refl _).alloc _).trans G1⟩
theorem Qx {op rd a b n:Int}(R:Ib rd a b n)(T:gz w):Calls prog 68 #[.agg #[.int .i64 op,.int .i64 rd,.int .i64 a,.int .i64 b,.int .i32 n],.int .i32 115] w fun e w'=>e=.returned (str (rg a))/\Gr w w':=by
 have HC:Hid (∀w:World,gz w->Calls prog 95 #[.int .i64 a] w fun e w'=>e=.returned (str (rg a))/\Gr w w'):=fun w T=>kJ (by have:=R.a0;omega) (by have:=R.a1;omega) T
 have HT:=kH T;have n0:=R.n0;have n1:=R.n1;generalize str (rg a)=V at *
 go_enter func68,ntmps68;go_wp2_with fail;refine(HC.out _ (HT.out.of ((Gr.refl _).alloc _))).mono ?_;rintro e w1 ⟨rfl,G1⟩;go_wp2_with fail;go_ret;exact⟨rfl,((Gr.refl _).alloc _).trans G1⟩
theorem Qy {op rd a b n:Int}(R:Ib rd a b n)(T:gz w):Calls prog 68 #[.agg #[.int .i64 op,.int .i64 rd,.int .i64 a,.int .i64 b,.int .i32 n],.int .i32 116] w fun e w'=>e=.returned (str (rg b))/\Gr w w':=by
 have HC:Hid (∀w:World,gz w->Calls prog 95 #[.int .i64 b] w fun e w'=>e=.returned (str (rg b))/\Gr w w'):=fun w T=>kJ (by have:=R.b0;omega) (by have:=R.b1;omega) T
 have HT:=kH T;have n0:=R.n0;have n1:=R.n1;generalize str (rg b)=V at *
 go_enter func68,ntmps68;go_wp2_with fail;refine(HC.out _ (HT.out.of ((Gr.refl _).alloc _))).mono ?_;rintro e w1 ⟨rfl,G1⟩;go_wp2_with fail;go_ret;exact⟨rfl,((Gr.refl _).alloc _).trans G1⟩
theorem Qz {op rd a b n:Int}(R:Ib rd a b n)(T:gz w):Calls prog 68 #[.agg #[.int .i64 op,.int .i64 rd,.int .i64 a,.int .i64 b,.int .i32 n],.int .i32 105] w fun e w'=>e=.returned (str (num n))/\Gr w w':=by
 have HC:Hid (∀w:World,gz w->Calls prog 96 #[.int .i64 n] w fun e w'=>e=.returned (str (num n))/\Gr w w'):=fun w T=>tH (by have:=R.n0;omega) (by have:=R.n1;omega) T
 have HT:=kH T;have n0:=R.n0;have n1:=R.n1;generalize str (num n)=V at *
 go_enter func68,ntmps68;go_wp2_with fail;refine(HC.out _ (HT.out.of ((Gr.refl _).alloc _))).mono ?_;rintro e w1 ⟨rfl,G1⟩;go_wp2_with fail;go_ret;exact⟨rfl,((Gr.refl _).alloc _).trans G1⟩
theorem QB {op rd a b n:Int}(R:Ib rd a b n)(T:gz w):Calls prog 68 #[.agg #[.int .i64 op,.int .i64 rd,.int .i64 a,.int .i64 b,.int .i32 n],.int .i32 117] w fun e w'=>e=.returned (str (num (n/4096)))/\Gr w w':=by
 have HC:Hid (∀w:World,gz w->Calls prog 96 #[.int .i64 (n/4096)] w fun e w'=>e=.returned (str (num (n/4096)))/\Gr w w'):=fun w T=>tH (by have:=R.n0;omega) (by have:=R.n1;omega) T
 have HT:=kH T;have n0:=R.n0;have n1:=R.n1;generalize str (num (n/4096))=V at *
 go_enter func68,ntmps68;go_wp2_with fail;refine(HC.out _ (HT.out.of ((Gr.refl _).alloc _))).mono ?_;rintro e w1 ⟨rfl,G1⟩;go_wp2_with fail;go_ret;exact⟨rfl,((Gr.refl _).alloc _).trans G1⟩
theorem pI {op rd a b n:Int}(R:Ib rd a b n)(T:gz w){c:Nat}(hc:c=100\/c=115\/c=116\/c=105\/c=117\/c=44\/c=40\/c=41):Calls prog 68 #[.agg #[.int .i64 op,.int .i64 rd,.int .i64 a,.int .i64 b,.int .i32 n],.int .i32 (c:Int)] w fun e w'=>e=.returned (str (dA rd a b n c))/\Gr w w':=by
 rcases hc with rfl|rfl|rfl|rfl|rfl|hc
 ·exact Qw R T
 ·exact Qx R T
 ·exact Qy R T
 ·exact Qz R T
 ·exact QB R T
 ·clear T R;rcases hc with rfl|rfl|rfl
  all_goals
   go_enter func68,ntmps68;go_wp2_with fail;go_ret;exact⟨rfl,(Gr.refl _).alloc _⟩
end As
namespace As
open Mm

theorem upA {w w':World}(g:Gr w w'){k:Nat}{x:Obj}(h:w.heap[k]?=some x):w'.heap[k]?=some x:=by rw[au1 g k (gs h).1];exact h
end As
namespace As
open Mm

variable {w w' :World}
theorem V3 {T e:TypeId}{B b:Nat}{bs:List Value}(h:Lib.IsBuilderF T e B b bs w)(G:Gr w w'):Lib.IsBuilderF T e B b bs w':=by
 have one:∀p,Lib.BuilderAtF T e B b p bs w->Lib.BuilderAtF T e B b p bs w':=fun p ⟨hB,v,hb,hown,hne⟩=>
  ⟨hB,v,(au1 G b (gs hb).1).trans hb,hown.kept (row:=none) ⟨G.os,G.tape,G.output,G.size,fun k hk _=>au1 G k hk⟩ (by cases v.ownBlock<;>simp),hne⟩
 exact h.elim (fun x=>.inl (one _ x)) (fun x=>.inr (one _ x))
theorem _root_.Go.Proofs.YtiadhbmnfjfioaaGreatDoor.Mm.Gr.trans' {a b c:World}(h:Gr a b)(k:Below (a.heap.size+1) b c):Gr a c:=auI h (aun k (by omega))
theorem Kv (L:List Nat)(f:Nat->List Nat)(p:Nat)(h:p<L.length):(L.take (p+1)).flatMap f=(L.take p).flatMap f++f L[p]:=by rw[apU,api h,List.flatMap_append];simp only[Option.toList_some,apL,aqg,apz]
theorem QC {rd a b n:Int}(R:Ib rd a b n)(c:Nat):(dA rd a b n c).length<=30:=by
 have h:=R;obtain⟨d0,d1,a0,a1,b0,b1,n0,n1⟩:=h;have l1:=mQ (n:=rd) (by omega) (by omega);have l2:=mQ (n:=a) (by omega) (by omega);have l3:=mQ (n:=b) (by omega) (by omega);have l4:=mQ (n:=n) (by omega) (by omega);have l5:=mQ (n:=n/4096) (by omega) (by omega);unfold dA rg;repeat' split
 all_goals simp<;>omega
theorem qo {rd a b n:Int}(R:Ib rd a b n):∀l:List Nat,(l.flatMap (dA rd a b n)).length≤30*l.length
 | []=>by simp
 |c::l=>by
  have:=qo R l;have:=QC R c;simp only[apL,apo,apH];omega
theorem jG {op rd a b n:Int}(R:Ib rd a b n)(T:gz w):Calls prog 33 #[.agg #[.int .i64 op,.int .i64 rd,.int .i64 a,.int .i64 b,.int .i32 n]] w fun e w'=>e=.returned (str (nV op rd a b n))/\Gr w w':=by
 have HS:=kH (Ku op);have HR:=kH R;have HT:=kH T;have hch:=kH (abv op);have hln:=kH (zM op);unfold nV;generalize jU op=S at *
 go_enter func33,ntmps33;go_wp2_with fail;refine(HS.out _).mono ?_;rintro e _ ⟨rfl,rfl⟩;rw[show str S=.string (bs S)from rfl];go_wp2_with fail;go_loopw [] (fun wr=>∃(pos:Nat),pos<=S.length/\Lib.IsBuilderF 74 5 (w.heap.size+1) (w.heap.size+1) (Lib.byteCells (((S.take pos).flatMap (dA rd a b n)).map UInt8.ofNat)) wr/\wr.heap[w.heap.size+1+1]?=some (.stringIter (bs S) pos)/\wr.heap[w.heap.size]?=some (.cells #[.int .i64 op,.int .i64 rd,.int .i64 a,.int .i64 b,.int .i32 n] 59 (0,0))/\Gr w wr) (fun wr=>(bs S).size-wr.iterPos (w.heap.size+1+1))
 case atStart=>
  refine⟨0,apF _,?_,?_,?_,(((Gr.refl w).alloc _).alloc _).alloc _⟩
  ·have:=(Lib.IsBuilderF.of (Lib.fresh_isBuilder 74 5 (w.alloc (.cells #[.int .i64 op,.int .i64 rd,.int .i64 a,.int .i64 b,.int .i32 n] 59)))).alloc (.stringIter (bs S) 0);rw[show(w.alloc (.cells #[.int .i64 op,.int .i64 rd,.int .i64 a,.int .i64 b,.int .i32 n] 59)).heap.size=w.heap.size+1 by simp]at this;exact this
  ·have:=World.iter_heap ((w.alloc (.cells #[.int .i64 op,.int .i64 rd,.int .i64 a,.int .i64 b,.int .i32 n] 59)).alloc (.cells #[.pointer none,.slice none 0 0] 74)) (bs S) 0;simpa using this
  ·show(((w.alloc _).alloc _).alloc _).heap[w.heap.size]?=_
   rw[heap_alloc_old _ _ (by simp;omega),heap_alloc_old _ _ (by simp)];exact at5 w _
 case round=>
  obtain⟨pos,hps,hI,hit,hbk,hg⟩:=hrel;have hI0:=kH hI;by_cases hp:pos<S.length
  ·have hp':pos<(bs S).size:=by rw[dz];exact hp
   have hc:=hch.out _ (art hp);have aku:S[pos]<128:=by omega
   have e0:((bs S)[pos]'hp').toNat=S[pos]:=by
    have:(bs S)[pos]'hp'=UInt8.ofNat S[pos]:=by
     show(bs S).data[pos]=_
     simp only[bs,apN,List.getElem_map]
    rw[this,auG];omega
   have hnx:∀ty,(Instr.next (.pointer (some ⟨w.heap.size+1+1,0,none⟩)) true ty).run prog wr=.ok (.tuple #[.bool true,.int .i64 pos,.int .i32 (S[pos]:Nat)]) (wr.iterAt (w.heap.size+1+1) (bs S) (pos+1)):=fun ty=>by
    rw[Lib.run_next_ascii_at wr _ (bs S) pos ty hit hp' (by omega),e0]
   have HI2:=kH (hI.iterAt hit (pos+1));have hit2:Hid _:=Lib.iterAt_heap wr (w.heap.size+1+1) (bs S) pos (pos+1) hit;have hbk2:=kH ((Lib.iterAt_other wr (w.heap.size+1+1) w.heap.size (bs S) (pos+1) (by omega)).trans hbk);have hg2:Hid (Gr w (wr.iterAt (w.heap.size+1+1) (bs S) (pos+1))):=Lib.below_iterAt hg (by omega) (bs S) (pos+1);have hm:Hid (wr.iterPos (w.heap.size+1+1)=pos):=by unfold Hid;simp[World.iterPos,hit]
   have HC:Hid (∀W:World,gz W->Calls prog 68 #[.agg #[.int .i64 op,.int .i64 rd,.int .i64 a,.int .i64 b,.int .i32 n],.int .i32 ((S[pos]:Nat):Int)] W fun e w'=>e=.returned (str (dA rd a b n S[pos]))/\Gr W w'):=fun W T=>pI HR.out T hc
   have hfl:=kH (Kv S (dA rd a b n) pos hp);have hle:Hid _:=qo HR.out (S.take (pos+1));generalize wr.iterAt (w.heap.size+1+1) (bs S) (pos+1)=W1 at *
   generalize S[pos]=c at *
   have z0:=iE hbk2.out;have z1:=iY hbk2.out;have z2:=EZ hbk2.out;have z3:=QP hbk2.out;have z4:=E8 hbk2.out;go_wp2_with fail;refine(HC.out _ (HT.out.of hg2.out)).mono ?_;rintro e W2 ⟨rfl,G2⟩;have HI3:=kH (V3 HI2.out G2);have hit3:=kH (upA G2 hit2.out);have aiR:=kH (upA G2 hbk2.out);have hg3:=kH (hg2.out.trans G2);have hsz:Hid (w.heap.size+1<=W2.heap.size):=by have:=(gs hit3.out).1;unfold Hid;omega
   have H4:Hid (Calls prog 19 #[.pointer (some ⟨w.heap.size+1,0,none⟩),.string (bs (dA rd a b n c))] W2 fun e w'=>e=.returned (.tuple #[.int .i64 (bs (dA rd a b n c)).size,.nilIface])/\Lib.IsBuilderF 74 5 (w.heap.size+1) (w.heap.size+1) (Lib.byteCells (((S.take pos).flatMap (dA rd a b n)).map UInt8.ofNat)++Lib.strCells (bs (dA rd a b n c))) w'/\Below (w.heap.size+1) W2 w'/\Lib.OthersKept 5 (some (w.heap.size+1)) W2 w'):=
    Kq (bs (dA rd a b n c)) HI3.out (by
     have h1:=hle.out;have h2:=congrArg List.length hfl.out;have h3:=hln.out;rw[ap5]at h1;rw[apo]at h2;rw[Lib.byteCells_length,apY,dz];omega) hsz.out
   have hcs:Hid (Lib.byteCells (((S.take pos).flatMap (dA rd a b n)).map UInt8.ofNat)++Lib.strCells (bs (dA rd a b n c))=Lib.byteCells (((S.take (pos+1)).flatMap (dA rd a b n)).map UInt8.ofNat)):=by
    unfold Hid;rw[hfl.out,Lib.strCells_eq,bU,aqb];simp[Lib.byteCells]
   rw[show str (dA rd a b n c)=.string (bs (dA rd a b n c))from rfl];generalize bs (dA rd a b n c)=sb at *
   go_wp2_with fail;refine H4.out.mono ?_;rintro e W3 ⟨rfl,hI4,hb4,hk4⟩;rw[hcs.out]at hI4;have HI4:=kH hI4;go_wp2_with fail;go_roundw
   case rel=>
    exact⟨pos+1,by omega,HI4.out,hk4.iter hit3.out (by omega),(au1 hb4 _ (by omega)).trans aiR.out,hg3.out.trans' hb4⟩
   case measure=>
    have e1:W3.iterPos (w.heap.size+1+1)=pos+1:=by simp[World.iterPos,hk4.iter hit3.out (by omega)]
    rw[e1,hm.out];omega
  ·have aiS:pos=S.length:=by omega
   subst aiS;have hnx:∀ty,(Instr.next (.pointer (some ⟨w.heap.size+1+1,0,none⟩)) true ty).run prog wr=_:=fun ty=>Lib.run_next_end_at wr (w.heap.size+1+1) (bs S) S.length ty hit (by rw[dz];omega)
   have hsz:w.heap.size+1<=wr.heap.size:=by have:=(gs hit).1;omega
   have H5:Hid (Calls prog 21 #[.pointer (some ⟨w.heap.size+1,0,none⟩)] wr fun e w'=>e=.returned (str (S.flatMap (dA rd a b n)))/\Below (w.heap.size+1) wr w'):=(Tryz.Builder_String_any_k (w.heap.size+1) (w.heap.size+1) (((S.take S.length).flatMap (dA rd a b n)).map UInt8.ofNat) wr hI hsz).mono fun e w' ⟨he,_,hb,_⟩=>⟨by rw[he,ap9];rfl,hb⟩
   have HG:=kH hg;go_wp2_with fail;refine H5.out.mono ?_;rintro e W3 ⟨rfl,hb4⟩;go_wp2_with fail;go_ret;exact⟨rfl,HG.out.trans' hb4⟩
end As
namespace As
open Mm

variable {w w' :World}
theorem xU {op:Int}{t:Bool}(h:decide (46<=op/\op<=56)=t)(w:World):Calls prog 66 #[.int .i64 op] w fun e w'=>e=.returned (.bool t)/\w=w':=by
 have H:Hid (∀w:World,Calls prog 94 #[.int .i64 op,.int .i64 46,.int .i64 56] w fun e w'=>e=.returned (.bool t)/\w=w'):=fun w=>by
  cases t with
  |true=>have:=ava h;exact aF this.1 this.2 w
  |false=>have:=of_decide_eq_false h;exact ai (by omega) w
 go_enter func66,ntmps66;go_wp2_with fail;refine(H.out _).mono ?_;rintro e _ ⟨rfl,rfl⟩;go_wp2_with fail;go_ret;exact⟨rfl,rfl⟩
theorem QD {k:Nat}(h1:1<=k)(h2:k<=59)(hk:¬(46<=(k:Int)/\(k:Int)<=56))(rd a b n:Int)(T:gz w):Calls prog 32 #[.agg #[.int .i64 (k:Int),.int .i64 rd,.int .i64 a,.int .i64 b,.int .i32 n]] w fun e w'=>e=.returned (str (names.getD (k-1) []))/\Gr w w':=by
 have HA:Hid (∀w:World,Calls prog 66 #[.int .i64 (k:Int)] w fun e w'=>e=.returned (.bool false)/\w=w'):=xU (by simpa using hk);have c0:(0:Int)<=(k:Int):=by omega
 have c1:(k:Int)<60:=by omega
 have q:∀o,(w.alloc o).cell? ⟨1,k,none⟩=some (str (names.getD (k-1) [])):=fun o=>by
  have:=(T.of ((Gr.refl w).alloc o)).nm (k-1) (by omega);rwa[show k-1+1=k by omega]at this
 generalize str (names.getD (k-1) [])=V at *
 go_enter func32,ntmps32;go_wp2_with fail;refine(HA.out _).mono ?_;rintro e _ ⟨rfl,rfl⟩;go_wp2_with fail;go_ret;exact⟨rfl,(Gr.refl _).alloc _⟩
theorem QE {A B:List Nat}(hl:A.length+B.length<=1000000)(w:World):(binOp .add 9 (str A) (str B)).run prog w=.ok (str (A++B)) w:=by
 have e:(Op.stringOp .add ⟨(A.map UInt8.ofNat).toArray⟩ ⟨(B.map UInt8.ofNat).toArray⟩).run prog w=.ok (str (A++B)) w:=by
  rw[<-mP];exact run_string_add_sum _ _ _ (by show(A.map UInt8.ofNat).toArray.size+(B.map UInt8.ofNat).toArray.size<=9223372036854775807;simp;omega)
 unfold str at e ⊢;rw[binOp_string_add];exact e
theorem QF {k m:Nat}(h1:46<=(k:Int))(h2:(k:Int)<=56)(hm:m<4)(rd a b:Int)(T:gz w):Calls prog 32 #[.agg #[.int .i64 (k:Int),.int .i64 rd,.int .i64 a,.int .i64 b,.int .i32 (m:Int)]] w fun e w'=>e=.returned (str (names.getD (k-1) []++[46,119]++Rz (m:Int)))/\Gr w w':=by
 have HA:Hid (∀w:World,Calls prog 66 #[.int .i64 (k:Int)] w fun e w'=>e=.returned (.bool true)/\w=w'):=xU (by simp;omega);have c0:(0:Int)<=(k:Int):=by omega
 have c1:(k:Int)<60:=by omega
 have c2:(0:Int)<=(m:Int):=by omega
 have c3:(m:Int)<4:=by omega
 have q:∀o,(w.alloc o).cell? ⟨1,k,none⟩=some (str (names.getD (k-1) [])):=fun o=>by
  have:=(T.of ((Gr.refl w).alloc o)).nm (k-1) (by omega);rwa[show k-1+1=k by omega]at this
 have r:∀o,(w.alloc o).cell? ⟨2,m,none⟩=some (str (Rz (m:Int))):=fun o=>(T.of ((Gr.refl w).alloc o)).ad m hm
 have HL:Hid ((names.getD (k-1) []).length<=10):=by
  have:∀k:Fin 59,(names.getD k.val []).length<=10:=by decide
  exact this ⟨k-1,by omega⟩
 have HM:Hid ((Rz (m:Int)).length<=10):=by
  unfold Hid Rz;repeat' split
  all_goals simp
 generalize names.getD (k-1) []=A at *
 generalize Rz (m:Int)=M at *
 have q0:=q (.cells #[.int .i64 (k:Int),.int .i64 rd,.int .i64 a,.int .i64 b,.int .i32 (m:Int)] 59);have r0:=r (.cells #[.int .i64 (k:Int),.int .i64 rd,.int .i64 a,.int .i64 b,.int .i32 (m:Int)] 59);have ha1:∀w:World,(binOp .add 9 (str A) (.string ⟨#[46,119]⟩)).run prog w=.ok (str (A++[46,119])) w:=fun w=>QE (B:=[46,119]) (by have:=HL.out;simp;omega) w
 have ha2:∀w:World,(binOp .add 9 (str (A++[46,119])) (str M)).run prog w=.ok (str (A++[46,119]++M)) w:=fun w=>QE (by have:=HL.out;have:=HM.out;simp;omega) w
 generalize str (A++[46,119]++M)=V at *
 generalize str (A++[46,119])=V1 at *
 go_enter func32,ntmps32;go_wp2_with fail;refine(HA.out _).mono ?_;rintro e _ ⟨rfl,rfl⟩;go_wp2_with fail;go_quiet (fail);go_wp2_with fail;go_ret;exact⟨rfl,((Gr.refl _).alloc _).drewN _⟩
theorem Kz {op n:Int}(h1:1<=op)(h2:op<=59)(hn:46<=op->op<=56->0<=n/\n<=3)(rd a b:Int)(T:gz w):Calls prog 32 #[.agg #[.int .i64 op,.int .i64 rd,.int .i64 a,.int .i64 b,.int .i32 n]] w fun e w'=>e=.returned (str (rD op n))/\Gr w w':=by
 obtain⟨k,rfl⟩:∃k:Nat,op=(k:Int):=⟨op.toNat,by omega⟩;unfold rD;rw[show((k:Int)-1).toNat=k-1 by omega];by_cases h:46<=(k:Int)/\(k:Int)<=56
 ·rw[at7 h];obtain⟨n0,n1⟩:=hn h.1 h.2;obtain⟨m,rfl⟩:∃m:Nat,n=(m:Int):=⟨n.toNat,by omega⟩;exact QF h.1 h.2 (by omega) rd a b T
 ·rw[at6 h];exact QD (by omega) (by omega) h rd a b n T
theorem abw {op rd a b n:Int}(h:Re.XI op rd a b n):46<=op->op<=56->0<=n/\n<=3:=fun h1 h2=>by rcases h.2 with h|h|h|h|h|h|h|h|h|h|h|h<;>omega
theorem KA {op rd a b n:Int}(n0 : -2147483648<=n)(n1:n<2147483648)(hy:Re.XI op rd a b n)(T:gz w):Calls prog 16 #[.agg #[.int .i64 op,.int .i64 rd,.int .i64 a,.int .i64 b,.int .i32 n]] w fun e w'=>e=.returned (.tuple #[str (vY op rd a b n),.int .i64 0])/\Gr w w':=by
 have H0:Hid (∀w:World,Dw.nK w->Calls prog 31 #[.agg #[.int .i64 op,.int .i64 rd,.int .i64 a,.int .i64 b,.int .i32 n]] w fun e w'=>e=.returned (.tuple #[.int .u32 (Dw.Wv op rd a b n),.int .i64 0])/\Gr w w'):=fun w T=>(Dw.uH op rd a b n w T n0 n1 (Dw.uI hy n0 n1)).mono fun e w' ⟨he,g⟩=>⟨he,g.1⟩
 have H1:Hid (∀w:World,gz w->Calls prog 32 #[.agg #[.int .i64 op,.int .i64 rd,.int .i64 a,.int .i64 b,.int .i32 n]] w fun e w'=>e=.returned (str (rD op n))/\Gr w w'):=fun w T=>Kz hy.1.1 hy.1.2.1 (abw hy) rd a b T
 have H2:Hid (∀w:World,gz w->Calls prog 33 #[.agg #[.int .i64 op,.int .i64 rd,.int .i64 a,.int .i64 b,.int .i32 n]] w fun e w'=>e=.returned (str (nV op rd a b n))/\Gr w w'):=fun w T=>jG (Ib.of hy n0 n1) T
 have HT:=kH T;have HL:=kH (zZ hy.1.1 hy.1.2.1 n);have HM:Hid ((nV op rd a b n).length<=210):=by
  have:=qo (Ib.of hy n0 n1) (jU op);have:=zM op;unfold Hid nV;omega
 have HE:Hid (vY op rd a b n=rD op n++if nV op rd a b n=[]then[]else 32::nV op rd a b n):=by
  unfold Hid vY;rw[z8 hy.1.1 hy.1.2.1]
 rw[HE.out];generalize Dw.Wv op rd a b n=v at *
 generalize rD op n=A at *
 generalize nV op rd a b n=M at *
 go_enter func16,ntmps16;go_wp2_with fail;refine(H0.out _ (HT.out.of ((Gr.refl _).alloc _)).tb).mono ?_;rintro e w1 ⟨rfl,G1⟩;have HB1:=kH (upA G1 (at5 w _));have aU:=kH (((Gr.refl _).alloc _).trans G1);have z0:=iE HB1.out;have z1:=iY HB1.out;have z2:=EZ HB1.out;have z3:=QP HB1.out;have z4:=E8 HB1.out;go_wp2_with fail;refine(H1.out _ (HT.out.of aU.out)).mono ?_;rintro e w2 ⟨rfl,G2⟩;have HB2:=kH (upA G2 HB1.out);have HG2:=kH (aU.out.trans G2);have z0:=iE HB2.out;have z1:=iY HB2.out;have z2:=EZ HB2.out;have z3:=QP HB2.out;have z4:=E8 HB2.out;go_wp2_with fail;refine(H2.out _ (HT.out.of HG2.out)).mono ?_;rintro e w3 ⟨rfl,G3⟩;have fQ:=kH (HG2.out.trans G3);by_cases hM:M=[]
 ·subst hM;rw[show str []=.string ⟨#[]⟩from rfl];go_wp2_with fail;go_ret2;exact⟨by simp,fQ.out⟩
 ·have h1:(!(bs M).toList.isEmpty)=true:=by
   rw[aqs,bU];simpa using hM
  rw[show str M=.string (bs M)from rfl]
  go_wp2_with (first
   |(refine tF rfl _ _ _ _ rfl [32] M rfl rfl (by have:=HM.out;simp;omega) ?_)
   |(refine tF rfl _ _ _ _ rfl A (32::M) rfl rfl (by have:=HL.out;have:=HM.out;simp;omega) ?_))
  go_ret2;exact⟨by first|rfl|(simp[hM];rfl),fQ.out⟩
end As
end Go.Proofs.YtiadhbmnfjfioaaGreatDoor
