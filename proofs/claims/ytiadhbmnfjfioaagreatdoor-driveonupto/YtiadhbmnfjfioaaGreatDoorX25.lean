/- ours -/
import Derived.Test.YtiadhbmnfjfioaaGreatDoorX24
set_option linter.unusedVariables false
set_option linter.unusedSimpArgs false
set_option maxHeartbeats 8000000
set_option maxRecDepth 100000
set_option linter.unusedSectionVars false
namespace Go.Proofs.YtiadhbmnfjfioaaGreatDoor
open Go.Proofs.Tryz
open Go.ChangeShapes Go.WideShapes Go.ChangeAt Go.RowKit
variable [Inhabited Hc.bN]
namespace Mp
open Mm Hh Hc Mi

theorem ZV {w:World}{base g:Nat}{r:Rn}{bf bt steps:Int}(I:Pr w base g r bf bt steps)(o:r.Ok)(T:Gc.Ts w base)(hl:r.m.length<=140737488351232)(hss:r.av.length<=1000000){op d a b n:Int}(ha:0<=a/\a<36)(hb:0<=b/\b<36)(hn:Hh.W n)(hc:646<=op/\op<=656):Calls prog 186 #[.pointer (some ⟨g,0,none⟩),.agg (sO ⟨op,d,a,b,n⟩)] w fun e w'=>e=.returned (bQ (fK r ⟨op,d,a,b,n⟩).res)/\Pr w' base g (r.ev (fK r ⟨op,d,a,b,n⟩)) bf bt steps/\Gc.Fr 206 base w w':=by
 have e0:fK r ⟨op,d,a,b,n⟩=aK r.h r.m (op-600) (r.get a) (r.get b):=by unfold fK;rw[at6 (by simp only;omega),at6 (by simp only;omega),at6 (by simp only;omega),at6 (by simp only;omega),at6 (by simp only;omega),at7 (by simp only;omega)]
 rw[e0];have V:Hid (∀k,0<=k->k<36->∀W:World,Gr w W->Calls prog 185 #[.pointer (some ⟨g,0,none⟩),.int .i64 k] W fun e w'=>e=.returned (.int .u32 (r.get k))/\w'=W):=fun k h0 h1 W q=>fo (I.of q) o k h0 h1
 have wa:=o.get a;have wb:=o.get b;have HI:Hid (Pr w base g r bf bt steps):=I;have oJ:Hid (∀x nq,Gr w ((w.alloc x).drewN nq)):=fun x nq=>((Gr.refl _).alloc _).drewN _
 have b2:(op ==2)=false:=by simp;omega
 have qg:Hid (∀W:World,Calls prog 113 #[.int .i64 op,.int .i64 211,.int .i64 215] W fun e w'=>e=.returned (.bool false)/\w'=W):=fun W=>by
  have:=aG op 211 215 W;rwa[auh (by omega)]at this
 have za:Hid (∀W:World,Calls prog 113 #[.int .i64 op,.int .i64 316,.int .i64 318] W fun e w'=>e=.returned (.bool false)/\w'=W):=fun W=>by
  have:=aG op 316 318 W;rwa[auh (by omega)]at this
 have EA:Hid (∀W:World,Calls prog 113 #[.int .i64 op,.int .i64 428,.int .i64 445] W fun e w'=>e=.returned (.bool false)/\w'=W):=fun W=>by
  have:=aG op 428 445 W;rwa[auh (by omega)]at this
 have Oh:Hid (∀W:World,Calls prog 113 #[.int .i64 op,.int .i64 528,.int .i64 545] W fun e w'=>e=.returned (.bool false)/\w'=W):=fun W=>by
  have:=aG op 528 545 W;rwa[auh (by omega)]at this
 have ZR:Hid (∀W:World,Calls prog 113 #[.int .i64 op,.int .i64 646,.int .i64 656] W fun e w'=>e=.returned (.bool true)/\w'=W):=fun W=>by
  have:=aG op 646 656 W;rwa[auq (by omega)]at this
 have hw:IntKind.i64.wrap (op-600)=op-600:=by rw[auQ];omega
 have L:Hid (∀W:World,Gr w W->Calls prog 180 #[.pointer (some ⟨g,0,none⟩),.int .i64 (IntKind.i64.wrap (op-600)),.int .u32 (r.get a),.int .u32 (r.get b)] W fun e w'=>e=.returned (bQ (aK r.h r.m (op-600) (r.get a) (r.get b)).res)/\Pr w' base g (r.ev (aK r.h r.m (op-600) (r.get a) (r.get b))) bf bt steps/\Gc.Fr 206 base W w'):=fun W q=>by
  rw[hw];have J:=I.of q;refine(Gc.uz J (Gc.nO T (aun q I.ay)) hl hss (op-600) _ _ wa.1 wa.2 wb.1 wb.2).mono ?_;rintro e w' ⟨rfl,J2,C2⟩;refine⟨rfl,?_,C2⟩;have ho:(aK r.h r.m (op-600) (r.get a) (r.get b)).out=[]:=by
   unfold aK gB eU iN;repeat (first|rfl|split)
  unfold Pr Rn.ev;simp only[ho,apz];exact J2
 generalize aK r.h r.m (op-600) (r.get a) (r.get b)=E at *
 clear I o T e0 wa wb hw;unfold bQ at *
 unfold sO;simp only[];go_enter func186,ntmps186;go_wp2_with fail;refine auB (by kernel_rfl) (by kernel_rfl) ?_;iterate 3 go_big_quiet_step (fail)
 go_big_quiet_step (exact auu (V.out a ha.1 ha.2 _ (by repeat (first|exact Gr.refl _|refine Gr.drewN ?_ _|refine Gr.drew ?_|refine Gr.alloc ?_ _))));iterate 3 go_big_quiet_step (fail)
 go_big_quiet_step (exact auu (V.out b hb.1 hb.2 _ (by repeat (first|exact Gr.refl _|refine Gr.drewN ?_ _|refine Gr.drew ?_|refine Gr.alloc ?_ _))));go_big_quiet_step (fail);go_big_quiet_step (fail);refine auO ?_;intro _ hw1;obtain⟨nq,hw2⟩:=hw1;subst hw2;clear V;generalize r.get a=X at *
 generalize r.get b=Y at *
 go_wp2_with fail;refine(qg.out _).mono ?_;rintro e w' ⟨rfl,rfl⟩;clear qg;go_wp2_with fail;refine(za.out _).mono ?_;rintro e w' ⟨rfl,rfl⟩;go_wp2_with fail;refine(EA.out _).mono ?_;rintro e w' ⟨rfl,rfl⟩;go_wp2_with fail;refine(Oh.out _).mono ?_;rintro e w' ⟨rfl,rfl⟩;go_wp2_with fail;refine(ZR.out _).mono ?_;rintro e w' ⟨rfl,rfl⟩;go_wp2_with fail;have CL:Hid (((w.alloc (.cells #[.int .i64 op,.int .i64 d,.int .i64 a,.int .i64 b,.int .u32 n] 235)).drewN nq).heap[w.heap.size]?=some (.cells #[.int .i64 op,.int .i64 d,.int .i64 a,.int .i64 b,.int .u32 n] 235 (0,0))):=at5 w _;have k0:((w.alloc (.cells #[.int .i64 op,.int .i64 d,.int .i64 a,.int .i64 b,.int .u32 n] 235)).drewN nq).cell? ⟨w.heap.size,0,none⟩=some (.int .i64 op):=atZ _ _ _ _ _ _ CL.out;have k4:((w.alloc (.cells #[.int .i64 op,.int .i64 d,.int .i64 a,.int .i64 b,.int .u32 n] 235)).drewN nq).cell? ⟨w.heap.size,4,none⟩=some (.int .u32 n):=atZ _ _ _ _ _ _ CL.out;go_region_with ((go_at_call 180;refine(L.out _ (by repeat (first|exact Gr.refl _|refine Gr.drewN ?_ _|refine Gr.drew ?_|refine Gr.alloc ?_ _))).mono ?_;rintro e w2 ⟨rfl,J2,F2⟩;have HJ:Hid (Pr w2 base g (r.ev E) bf bt steps):=J2;have HF:Hid (Gc.Fr 206 base w w2):=(Gc.Fr.bD (by repeat (first|exact Gr.refl _|refine Gr.drewN ?_ _|refine Gr.drew ?_|refine Gr.alloc ?_ _)) HI.out.ay).trans F2;have HB2:Hid (w2.heap[w.heap.size]?=some (.cells #[.int .i64 op,.int .i64 d,.int .i64 a,.int .i64 b,.int .u32 n] 235 (0,0))):=(F2.keep _ _ _ _ CL.out (by decide) (by decide) (by decide)).trans CL.out;have j0:w2.cell? ⟨w.heap.size,0,none⟩=some (.int .i64 op):=atZ _ _ _ _ _ _ HB2.out;have j4:w2.cell? ⟨w.heap.size,4,none⟩=some (.int .u32 n):=atZ _ _ _ _ _ _ HB2.out;clear J2 F2))
 all_goals
  go_wp2_with fail;go_ret2;exact⟨rfl,HJ.out,HF.out⟩
end Mp
namespace Mp
open Mm Hh Hc Mi

theorem oH {w:World}{base g:Nat}{r:Rn}{bf bt steps:Int}(I:Pr w base g r bf bt steps)(o:r.Ok)(T:Gc.Ts w base)(hl:r.m.length<=140737488351232)(hss:r.av.length<=1000000){i:Mv}(hi:0<=named i.op)(h1:¬i.op=1)(h3:¬i.op=3)(h4:¬i.op=4)(h5:¬i.op=5)(h6:¬i.op=6)(ha:0<=i.a/\i.a<36)(hb:0<=i.b/\i.b<36)(hn:Hh.W i.n):Calls prog 186 #[.pointer (some ⟨g,0,none⟩),.agg (sO i)] w fun e w'=>e=.returned (bQ (fK r i).res)/\Pr w' base g (r.ev (fK r i)) bf bt steps/\Gc.Fr 206 base w w':=by
 obtain⟨op,d,a,b,n⟩:=i;simp only at *
 rcases jF hi with q|q|q|q|q|q|q|q|q|q|q|q
 ·exact absurd q h1
 ·exact Uj I o T hl hss ha hb hn q
 ·exact absurd q h3
 ·exact absurd q h4
 ·exact absurd q h5
 ·exact absurd q h6
 ·exact ZQ I o T hl hss ha hb hn q
 ·exact ZT I o T hl hss ha hb hn q
 ·exact ZU I o T hl hss ha hb hn q
 ·exact yE I o T hl hss ha hb hn q
 ·exact Uk I o T hl hss ha hb hn q
 ·exact ZV I o T hl hss ha hb hn q
theorem ZW {w:World}{base g:Nat}{r:Rn}{e:Ev}{bf bt steps:Int}(o:r.Ok)(I:Pr w base g (r.ev e) bf bt steps):(r.ev e).Ok:=by obtain⟨c,hc,I⟩:=I;have:=I.ok;rw[hc]at this;exact⟨this,o.tl,o.tb,o.h0,o.h1⟩
theorem adL {w:World}{base g:Nat}{r:Rn}{bf bt steps:Int}(I:Pr w base g r bf bt steps)(o:r.Ok)(hr:r.n<=1000000)(op d a b n:Int)(h1:op=1):Calls prog 171 #[.pointer (some ⟨g,0,none⟩),.agg #[.int .i64 op,.int .i64 d,.int .i64 a,.int .i64 b,.int .u32 n]] w fun e w'=>e=.returned (.tuple #[])/\Pr w' base g { r with n:=r.n+1,here:=n } bf bt steps/\Gc.Fr 206 base w w':=by
 subst h1;have k47:w.cell? ⟨g,47,none⟩=some (.int .i64 r.n):=I.NZ o 3;have k48:=I.NZ o 4;have fz:=I.fz;have hg:=I.lt;have HB:=kH I.ay;have J1:=I.adI (r':={ r with n:=r.n+1 }) o 3 rfl rfl rfl rfl rfl rfl;have J2:=J1.adI (r':={ r with n:=r.n+1,here:=n }) ⟨o.h,o.tl,o.tb,o.h0,o.h1⟩ 4 rfl rfl rfl rfl rfl rfl;have HJ:Hid (Pr ((w.setCell ⟨g,47,none⟩ (.int .i64 ((r.n:Int)+1))).setCell ⟨g,48,none⟩ (.int .u32 n)) base g { r with n:=r.n+1,here:=n } bf bt steps):=J2;have HF:Hid (Gc.Fr 206 base w ((w.setCell ⟨g,47,none⟩ (.int .i64 ((r.n:Int)+1))).setCell ⟨g,48,none⟩ (.int .u32 n))):=Gc.In.below I (((Ch.refl g w).setCell _ _).setCell _ _);generalize hrn:(r.n:Int)=rn at *
 have b0:0<=rn:=by omega
 have b1:rn<=1000000:=by omega
 generalize r.here=hh at *
 generalize({ r with n:=r.n+1,here:=n }:Rn)=r2 at *
 go_enter func171,ntmps171;go_wp2_with fail;go_end0;refine⟨rfl,HJ.out.of ((Gr.refl _).alloc _),HF.out.trans (Gc.Fr.bD ((Gr.refl _).alloc _) HJ.out.ay)⟩
theorem Ul {w:World}{base g:Nat}{r:Rn}{bf bt steps:Int}(I:Pr w base g r bf bt steps)(ho:r.out.length<=1000000)(op d a b n:Int)(h1:op=5):Calls prog 171 #[.pointer (some ⟨g,0,none⟩),.agg #[.int .i64 op,.int .i64 d,.int .i64 a,.int .i64 b,.int .u32 n]] w fun e w'=>e=.returned (.tuple #[])/\Pr w' base g (r.ev (bA r.h r.m)) bf bt steps/\Gc.Fr 206 base w w':=by
 subst h1;have L:Hid (∀W:World,Gr w W->Calls prog 181 #[.pointer (some ⟨g,0,none⟩)] W fun e w'=>e=.returned (.tuple #[])/\Pr w' base g (r.ev (bA r.h r.m)) bf bt steps/\Gc.Fr 206 base W w'):=fun W q=>by
  refine(Gc.tO (I.of q) ho).mono ?_;rintro e w' ⟨rfl,J2,C2⟩;refine⟨rfl,?_,C2⟩;have hs:(bA r.h r.m).av=[]/\(bA r.h r.m).m=r.m:=by unfold bA;split<;>(try split)<;>exact⟨rfl,rfl⟩
  unfold Pr Rn.ev;simp only[hs.1,hs.2,apz];exact J2
 have HB:=kH I.ay;generalize r.ev (bA r.h r.m)=r2 at *
 go_enter func171,ntmps171;go_wp2_with fail;refine(L.out _ (by repeat (first|exact Gr.refl _|refine Gr.alloc ?_ _))).mono ?_;rintro e w2 ⟨rfl,J2,F2⟩;have HJ:=kH J2;have HF:=kH ((Gc.Fr.bD ((Gr.refl _).alloc _) HB.out).trans F2);go_wp2_with fail;go_end0;exact⟨rfl,HJ.out,HF.out⟩
theorem Oi {w:World}{base g:Nat}{r:Rn}{bf bt steps:Int}(I:Pr w base g r bf bt steps)(op d a b n:Int)(h1:op=6):Calls prog 171 #[.pointer (some ⟨g,0,none⟩),.agg #[.int .i64 op,.int .i64 d,.int .i64 a,.int .i64 b,.int .u32 n]] w fun e w'=>e=.returned (.tuple #[])/\Pr w' base g { r with h:=r.h.trap 6 } bf bt steps/\Gc.Fr 206 base w w':=by
 subst h1;have L:Hid (∀W:World,Gr w W->Calls prog 134 #[.pointer (some ⟨g,0,none⟩),.int .i64 6] W fun e w'=>e=.returned (.tuple #[])/\Pr w' base g { r with h:=r.h.trap 6 } bf bt steps/\Gc.Fr 206 base W w'):=fun W q=>by
  have J:=I.of q;refine(Gc.dK J 6).mono ?_;rintro e w' ⟨rfl,J2,C2⟩;exact⟨rfl,J2,Gc.In.below J C2⟩
 have HB:=kH I.ay;generalize({ r with h:=r.h.trap 6 }:Rn)=r2 at *
 go_enter func171,ntmps171;go_wp2_with fail;refine(L.out _ (by repeat (first|exact Gr.refl _|refine Gr.alloc ?_ _))).mono ?_;rintro e w2 ⟨rfl,J2,F2⟩;have HJ:=kH J2;have HF:=kH ((Gc.Fr.bD ((Gr.refl _).alloc _) HB.out).trans F2);go_wp2_with fail;go_end0;exact⟨rfl,HJ.out,HF.out⟩
theorem adM {w:World}{base g:Nat}{r:Rn}{bf bt steps:Int}(I:Pr w base g r bf bt steps)(o:r.Ok)(T:Gc.Ts w base)(hl:r.m.length<=140737488351232)(hss:r.av.length<=1000000){op d a b n:Int}(hi:0<=named op)(h1:¬op=1)(h3:¬op=3)(h4:¬op=4)(h5:¬op=5)(h6:¬op=6)(hd:0<=d/\d<36)(ha:0<=a/\a<36)(hb:0<=b/\b<36)(hn:Hh.W n):Calls prog 171 #[.pointer (some ⟨g,0,none⟩),.agg #[.int .i64 op,.int .i64 d,.int .i64 a,.int .i64 b,.int .u32 n]] w fun e w'=>e=.returned (.tuple #[])/\Pr w' base g ((r.ev (fK r ⟨op,d,a,b,n⟩)).iV d (fK r ⟨op,d,a,b,n⟩).res) bf bt steps/\Gc.Fr 206 base w w':=by
 have L:Hid (∀W:World,Gr w W->_):=fun W q=>oH (i:=⟨op,d,a,b,n⟩) (I.of q) o (Gc.nO T (aun q I.ay)) hl hss hi h1 h3 h4 h5 h6 ha hb hn
 have HW:Hid (∀x,(fK r ⟨op,d,a,b,n⟩).res=some x->Hh.W x):=fun x h=>R9 o hn h
 have HO:Hid (∀W:World,Pr W base g (r.ev (fK r ⟨op,d,a,b,n⟩)) bf bt steps->_):=fun W J=>ZW o J
 have HB:=kH I.ay;have b1:(op ==1)=false:=by simp[h1]
 have b5:(op ==5)=false:=by simp[h5]
 have b6:(op ==6)=false:=by simp[h6]
 generalize r.ev (fK r ⟨op,d,a,b,n⟩)=r2 at *
 generalize(fK r ⟨op,d,a,b,n⟩).res=x at *
 cases x with
 |none=>
  unfold bQ at *
  simp only[Option.getD_none,Option.isSome_none]at *
  go_enter func171,ntmps171;go_wp2_with fail;refine(L.out _ (by repeat (first|exact Gr.refl _|refine Gr.alloc ?_ _))).mono ?_;rintro e w2 ⟨rfl,J2,F2⟩;have HJ:=kH J2;have HF:=kH ((Gc.Fr.bD ((Gr.refl _).alloc _) HB.out).trans F2);go_wp2_with fail;go_end0;exact⟨rfl,HJ.out,HF.out⟩
 |some x=>
  have HWx:=kH (HW.out x rfl);unfold bQ at *
  simp only[aqw,Option.isSome_some]at *
  go_enter func171,ntmps171;go_wp2_with fail;refine(L.out _ (by repeat (first|exact Gr.refl _|refine Gr.alloc ?_ _))).mono ?_;rintro e w2 ⟨rfl,J2,F2⟩;have HJ:=kH J2;have HF:=kH ((Gc.Fr.bD ((Gr.refl _).alloc _) HB.out).trans F2);have k0:=(F2.keep _ _ _ _ (at5 w _) (by decide) (by decide) (by decide)).trans (at5 w _);have p1:w2.cell? ⟨w.heap.size,1,none⟩=some (.int .i64 d):=atZ _ _ _ _ _ _ k0;have Be:=kH (Ei J2 (HO.out _ J2) d x hd.1 hd.2 HWx.out);go_wp2_with fail;refine Be.out.mono ?_;rintro e w3 ⟨rfl,J3,C3⟩;have HJ3:=kH J3;have Jj:=kH (HF.out.trans (Gc.In.below HJ.out C3));go_wp2_with fail;go_end0;exact⟨rfl,HJ3.out,Jj.out⟩
theorem DT {w:World}{base g:Nat}{r:Rn}{bf bt steps:Int}(I:Pr w base g r bf bt steps)(o:r.Ok)(T:Gc.Ts w base)(hl:r.m.length<=140737488351232)(hr:r.n<=1000000)(hos:r.out.length<=1000000)(hss:r.av.length<=1000000){i:Mv}(hi:0<=named i.op)(h3:¬i.op=3)(h4:¬i.op=4)(hd:0<=i.d/\i.d<36)(ha:0<=i.a/\i.a<36)(hb:0<=i.b/\i.b<36)(hn:Hh.W i.n):Calls prog 171 #[.pointer (some ⟨g,0,none⟩),.agg (sO i)] w fun e w'=>e=.returned (.tuple #[])/\Pr w' base g (fu r i) bf bt steps/\Gc.Fr 206 base w w':=by
 obtain⟨op,d,a,b,n⟩:=i;unfold fu sO;simp only at *
 by_cases h1:op=1
 ·rw[at7 h1];exact adL I o hr op d a b n h1
 rw[at6 h1];by_cases h5:op=5
 ·rw[at7 h5];exact Ul I hos op d a b n h5
 rw[at6 h5];by_cases h6:op=6
 ·rw[at7 h6];exact Oi I op d a b n h6
 rw[at6 h6];exact adM I o T hl hss hi h1 h3 h4 h5 h6 hd ha hb hn
end Mp
namespace Mp
open Mm Hh Hc Mi

theorem Pr.ag8 {w:World}{base g:Nat}{r:Rn}{bf bt steps:Int}(I:Pr w base g r bf bt steps)(ht:r.tm.length=4)(j:Nat):w.cell? ⟨g,44+j,none⟩=[Value.int .u32 bf,.int .u32 bt,.int .i64 steps,.int .i64 r.n,.int .u32 r.here][j]?:=by
 obtain⟨c,e,I⟩:=I;have h:(mg r bf bt steps)[4+j]?=[Value.int .u32 bf,.int .u32 bt,.int .i64 steps,.int .i64 r.n,.int .u32 r.here][j]?:=by
  unfold mg;rw[apv (by simp[ht])];simp[ht]
 have:=(I.rest (4+j)).trans h;rwa[show 40+(4+j)=44+j by omega]at this
theorem Gn (q:Rn)(d:Int)(x:Option Int):(q.iV d x).tm.length=q.tm.length/\(q.iV d x).over=q.over:=by
 cases x with
 |none=>exact⟨rfl,rfl⟩
 |some x=>show(q.put d x).tm.length=q.tm.length/\(q.put d x).over=q.over;unfold Rn.put;split<;>simp
theorem ZX {r:Rn}(o:r.Ok)(i:Mv):(fu r i).tm.length=4:=by
 unfold fu;split
 ·exact o.tl
 split
 ·exact o.tl
 split
 ·exact o.tl
 ·rw[(Gn _ _ _).1];exact o.tl
theorem Oj (r:Rn)(i:Mv):(fu r i).over=r.over:=by
 unfold fu;split
 ·rfl
 split
 ·rfl
 split
 ·rfl
 ·rw[(Gn _ _ _).2];rfl
theorem ZY {w:World}{base g:Nat}{r:Rn}{bf bt steps:Int}{i:Mv}(hi:0<=named i.op)(hs:r.h.state=0)(hw:r.own=ownB bf bt r.av)(I:Pr w base g (QU bf bt steps r i) bf bt steps):Pr w base g (ja bf bt steps r i) bf bt steps:=by rw[<-FJ hi hs hw];exact I
theorem Ol {r:Rn}{bf bt steps:Int}{i:Mv}(hi:0<=named i.op)(hs:r.h.state=0)(hw:r.own=ownB bf bt r.av):(ja bf bt steps r i).over=(QU bf bt steps r i).over:=by rw[<-FJ hi hs hw]
theorem Om {r:Rn}(o:r.Ok){i:Mv}(hn:Hh.W i.n):Hh.W (fu r i).here:=by
 have e:∀(q:Rn) (d:Int) (x:Option Int),(q.iV d x).here=q.here:=fun q d x=>by
  cases x with
  |none=>rfl
  |some x=>show(q.put d x).here=q.here;unfold Rn.put;split<;>rfl
 unfold fu;split
 ·exact hn
 split
 ·exact⟨o.h0,o.h1⟩
 split
 ·exact⟨o.h0,o.h1⟩
 ·rw[e];exact⟨o.h0,o.h1⟩
theorem adN {r:Rn}(o:r.Ok){i:Mv}(hn:Hh.W i.n):Hh.W (FI r i):=by
 unfold FI;split
 ·have:=W.lo (r.get i.a+i.n);unfold Hh.W at *
  omega
 ·exact hn
theorem EB {w:World}{base g:Nat}{r:Rn}{bf bt steps:Int}(I:Pr w base g r bf bt steps)(G:Gd bf bt r)(T:Gc.Ts w base)(ho:r.over=false)(h0:r.n<=1000000)(h1:r.out.length<=1000000)(h2:r.av.length<=1000000){i:Mv}(hi:dZ i=true)(hn:Hh.W i.n):Calls prog 144 #[.pointer (some ⟨g,0,none⟩),.agg (sO i)] w fun e w'=>e=.returned (.bool (!(ja bf bt steps r i).over))/\Pr w' base g (ja bf bt steps r i) bf bt steps/\Below base w w':=by
 obtain⟨hnm,hd,ha,hb⟩:=Ah hi;have hs:=G.st ho;have Lv:Hid (∀W:World,Gr w W->_):=fun W q=>Ez (I.of q) G.ok h2 hnm ha hb hn
 have HP:Hid (∀W:World,Pr W base g (QU bf bt steps r i) bf bt steps->_):=fun W J=>ZY hnm hs G.own J
 have HO:Hid ((ja bf bt steps r i).over=(QU bf bt steps r i).over):=Ol hnm hs G.own;have Zz:=kH I.ay;have HI:=kH I;have HWP:Hid _:=adN G.ok hn;have HWH:Hid _:=Om G.ok hn;have zR:Hid _:=ZX G.ok i;have hdo:=(Oj r i).trans ho;have fg:=I.lt;cases hB:vo bf bt steps r i with
 |true=>
  have HE:Hid _:=tY hB;rw[hB]at Lv;have ZZ:=kH Lv;clear Lv hB hdo HWH hs hnm hd ha hb I T G;obtain⟨op,d,a,b,n⟩:=i;unfold sO at *
  simp only at *
  generalize FI r ⟨op,d,a,b,n⟩=y at *
  go_enter func144,ntmps144;go_wp2_with fail;refine(ZZ.out _ (by repeat (first|exact Gr.refl _|refine Gr.alloc ?_ _))).mono ?_;rintro e w1 ⟨rfl,G1⟩;have aU:Hid (Gr w w1):=Gr.trans (by repeat (first|exact Gr.refl _|refine Gr.alloc ?_ _)) G1;have J:=HI.out.of aU.out;have Nc:=J.hart (j:=0) (by omega);have fz:=J.fz;have HJ:Hid _:=(J.Oa HWP.out).same r.own true;have HB:Hid (Below base w (w1.setCell ⟨g,32,none⟩ (.int .u32 y))):=(aun aU.out Zz.out).trans (((Ch.refl g w1).setCell _ _).below (by obtain⟨c,_,q⟩:=J;exact q.bg) J.ay);clear J G1 ZZ;go_wp2_with fail;go_ret;refine⟨?_,HP.out _ (by rw[HE.out];exact HJ.out),HB.out⟩;rw[HO.out,HE.out];rfl
 |false=>
  have hop:¬i.op=3/\¬i.op=4:=by
   refine⟨fun q=>?_,fun q=>?_⟩
   ·unfold vo at hB;rw[ak,at7 q]at hB;cases hB
   ·unfold vo at hB;rw[ak,ak,at7 q]at hB;cases hB
  have Do:Hid (∀W:World,Gr w W->_):=fun W q=>DT (I.of q) G.ok (Gc.nO T (aun q I.ay)) (by have:=G.len;omega) h0 h1 h2 hnm hop.1 hop.2 hd ha hb hn
  rw[hB]at Lv;have ZZ:=kH Lv;have EC:Hid ((fu r i).h.state=0->_):=fun q=>gK hB q
  have HE2:Hid (¬(fu r i).h.state=0->_):=fun q=>iW hB q
  clear Lv hB hs hnm hd ha hb I T G hop;obtain⟨op,d,a,b,n⟩:=i;unfold sO at *
  simp only at *
  generalize FI r ⟨op,d,a,b,n⟩=y at *
  by_cases q:(fu r ⟨op,d,a,b,n⟩).h.state=0
  ·have HE:Hid _:=EC.out q;generalize fu r ⟨op,d,a,b,n⟩=r2 at *
   clear EC HE2;go_enter func144,ntmps144;go_wp2_with fail;refine(ZZ.out _ (by repeat (first|exact Gr.refl _|refine Gr.alloc ?_ _))).mono ?_;rintro e w1 ⟨rfl,G1⟩;have aU:Hid (Gr w w1):=Gr.trans (by repeat (first|exact Gr.refl _|refine Gr.alloc ?_ _)) G1;have k0:=dI G1 (at5 w _);have p0:w1.cell? ⟨w.heap.size,0,none⟩=some (.int .i64 op):=atZ _ _ _ _ _ _ k0;have p1:w1.cell? ⟨w.heap.size,1,none⟩=some (.int .i64 d):=atZ _ _ _ _ _ _ k0;have p2:w1.cell? ⟨w.heap.size,2,none⟩=some (.int .i64 a):=atZ _ _ _ _ _ _ k0;have p3:w1.cell? ⟨w.heap.size,3,none⟩=some (.int .i64 b):=atZ _ _ _ _ _ _ k0;have p4:w1.cell? ⟨w.heap.size,4,none⟩=some (.int .u32 n):=atZ _ _ _ _ _ _ k0;clear G1 ZZ k0;go_wp2_with fail;refine(Do.out _ aU.out).mono ?_;rintro e w2 ⟨rfl,J2,F2⟩;have HJ2:Hid _:=J2;have HB2:Hid _:=(aun aU.out Zz.out).trans F2.below;have QS:w2.cell? ⟨g,35,none⟩=some (.int .i64 0):=by rw[<-q];exact J2.hart (j:=3) (by omega)
   clear J2 F2 Do p0 p1 p2 p3 p4 HI;go_wp2_with fail;go_ret;refine⟨?_,HP.out _ (by rw[HE.out];exact HJ2.out),HB2.out⟩;rw[HO.out,HE.out,hdo];rfl
  ·have HE:Hid _:=HE2.out q;generalize fu r ⟨op,d,a,b,n⟩=r2 at *
   have bq:(r2.h.state !=0)=true:=by simp[q]
   clear EC HE2;go_enter func144,ntmps144;go_wp2_with fail;refine(ZZ.out _ (by repeat (first|exact Gr.refl _|refine Gr.alloc ?_ _))).mono ?_;rintro e w1 ⟨rfl,G1⟩;have aU:Hid (Gr w w1):=Gr.trans (by repeat (first|exact Gr.refl _|refine Gr.alloc ?_ _)) G1;have k0:=dI G1 (at5 w _);have p0:w1.cell? ⟨w.heap.size,0,none⟩=some (.int .i64 op):=atZ _ _ _ _ _ _ k0;have p1:w1.cell? ⟨w.heap.size,1,none⟩=some (.int .i64 d):=atZ _ _ _ _ _ _ k0;have p2:w1.cell? ⟨w.heap.size,2,none⟩=some (.int .i64 a):=atZ _ _ _ _ _ _ k0;have p3:w1.cell? ⟨w.heap.size,3,none⟩=some (.int .i64 b):=atZ _ _ _ _ _ _ k0;have p4:w1.cell? ⟨w.heap.size,4,none⟩=some (.int .u32 n):=atZ _ _ _ _ _ _ k0;clear G1 ZZ k0;go_wp2_with fail;refine(Do.out _ aU.out).mono ?_;rintro e w2 ⟨rfl,J2,F2⟩;have QS:=J2.hart (j:=3) (by omega);have Nc:=J2.hart (j:=0) (by omega);have k48:=J2.ag8 zR.out 4;have fz:=J2.fz;have HJ2:Hid _:=(J2.Oa HWH.out).same r2.own true;have HB2:Hid (Below base w (w2.setCell ⟨g,32,none⟩ (.int .u32 r2.here))):=((aun aU.out Zz.out).trans F2.below).trans (((Ch.refl g w2).setCell _ _).below (by obtain⟨c,_,q⟩:=J2;exact q.bg) J2.ay);clear J2 F2 Do p0 p1 p2 p3 p4 HI q;go_wp2_with fail;go_ret;refine⟨?_,HP.out _ (by rw[HE.out];exact HJ2.out),HB2.out⟩;rw[HO.out,HE.out];rfl
end Mp
namespace Mp
open Mm Hh Hc Mi

theorem zb {w0 w:World}{ao:Option Addr}{n:Nat}(cap:Nat){code:List Mv}(C:Cs w0 ao n code)(ze:nZ code=true){h:Hv}{l:List UInt8}{bf bt steps:Int}(oh:h.Ok)(hst:h.state=0)(hl:l.length<=4096)(T:Gc.Ts w0 w0.heap.size){g:Nat}(I:Pr w w0.heap.size g (mstart h l) bf bt steps)(G:Gr w0 w):Calls prog 115 #[.pointer (some ⟨g,0,none⟩),.slice ao n cap] w fun e w'=>e=.returned (.tuple #[])/\Pr w' w0.heap.size g (dC bf bt steps h l code) bf bt steps/\Gr w0 w':=by
 have HL:Hid (code.length=n):=C.len;have HC:=kH C;have HT:=kH T;have Xk:n<=200/\code.all dZ=true:=by
  unfold nZ at ze;rw[HL.out]at ze;simpa using ze
 have hn:=Xk.1;have HA:Hid (∀i∈code,_):=fun i hi=>apM.1 Xk.2 i hi
 have gp:Hid (∀j,Gd bf bt (bB bf bt steps (mstart h l) (code.take j))):=fun j=>Gd.bB (Gd.start oh hst hl) C.wn j
 have HBd:Hid (∀j,(bB bf bt steps (mstart h l) (code.take j)).av.length<=j/\(bB bf bt steps (mstart h l) (code.take j)).out.length<=j/\(bB bf bt steps (mstart h l) (code.take j)).n<=j):=fun j=>by
  obtain⟨_,a,b,c⟩:=FH bf bt steps (mstart h l) code j;have e1:(mstart h l).av.length=0:=rfl;have e2:(mstart h l).out.length=0:=rfl;have e3:(mstart h l).n=0:=rfl;omega
 have HTk:Hid (∀j i,code[j]?=some i->(bB bf bt steps (mstart h l) (code.take j)).over=false->_):=fun j i hi ho=>qG bf bt steps hi ho
 have HDn:Hid (∀j,(bB bf bt steps (mstart h l) (code.take j)).over=true\/j=n->dC bf bt steps h l code=mend (bB bf bt steps (mstart h l) (code.take j))):=fun j hj=>by
  unfold dC;rcases hj with hj|hj
  ·rw[Iz bf bt steps hj]
  ·rw[hj,<-HL.out,ap9]
 have HI:Hid (Pr w w0.heap.size g (bB bf bt steps (mstart h l) (code.take 0)) bf bt steps):=I;have HG:Hid (Gr w0 w):=G;have HO0:Hid ((bB bf bt steps (mstart h l) (code.take 0)).over=false):=rfl;generalize hR:(fun j=>bB bf bt steps (mstart h l) (code.take j))=R at *
 have eR:∀j,bB bf bt steps (mstart h l) (code.take j)=R j:=fun j=>by rw[<-hR]
 simp only[eR]at *
 clear hR eR;generalize dC bf bt steps h l code=MP at *
 go_enter func115,ntmps115;go_wp2_with fail;go_loopw [8] (fun i wr=>∃j:Nat,j<=n/\i=.int .i64 j/\(R j).over=false/\Pr wr w0.heap.size g (R j) bf bt steps/\Gr w0 wr) (fun i _=>n-(intOf i).toNat)
 case atStart=>exact⟨0,apF _,rfl,HO0.out,HI.out,HG.out⟩
 case round=>
  obtain⟨j,hj,rfl,hov,hI,hG⟩:=hrel;have HOv:=kH hov;have Um:=kH hI;have HGj:=kH hG;by_cases hlt:j<n
  ·obtain⟨c,hc⟩:∃c,code[j]?=some c:=⟨_,api (by rw[HL.out];exact hlt)⟩;obtain⟨b,o,rfl,hb,hcell⟩:=(HC.out.of HGj.out).spot (by omega);obtain⟨p0,p1,p2,p3,p4⟩:=hcell j c hc;have hmem:=aps hc;have bd:=HBd.out j;have Gs:Hid (∀W:World,Gr wr W->Calls prog 144 #[.pointer (some ⟨g,0,none⟩),.agg (sO c)] W fun e w'=>e=.returned (.bool (!(R (j+1)).over))/\Pr w' w0.heap.size g (R (j+1)) bf bt steps/\Gr w0 w'):=fun W q=>by
    rw[HTk.out j c hc HOv.out];refine(EB (Um.out.of q) (gp.out j) (Gc.nO HT.out (HGj.out.trans q)) HOv.out (by omega) (by omega) (by omega) (HA.out c hmem) (HC.out.wn c hmem)).mono ?_;rintro e w' ⟨rfl,J,B⟩;exact⟨rfl,J,auI (HGj.out.trans q) B⟩
   have HDj:Hid ((R (j+1)).over=true->_):=fun h=>HDn.out (j+1) (.inl h)
   obtain⟨op,d,a,b2,nn⟩:=c;unfold sO at Gs;simp only at *
   generalize hr:R (j+1)=r2 at *
   cases Oo:r2.over with
   |true=>
    have HE:Hid (MP=r2):=by
     unfold Hid;rw[HDj.out Oo];unfold mend;rw[at6 (by simp[Oo])]
    rw[Oo]at Gs;simp only[Bool.not_true]at Gs;go_wp2_with fail;refine(Gs.out _ ((Gr.refl _).alloc _)).mono ?_;rintro e w1 ⟨rfl,J1,G1⟩;have HJ1:=kH J1;have aU:=kH G1;go_wp2_with fail;refine auc (auV results115 _ _ _) rfl ?_;exact⟨rfl,by rw[HE.out];exact HJ1.out,aU.out⟩
   |false=>
    have ahb:Hid ((R (j+1)).over=false):=by unfold Hid;rw[hr];exact Oo
    rw[Oo]at Gs;simp only[Bool.not_false]at Gs;rw[<-hr]at Gs;have Gs2:=kH Gs;go_wp2_with fail;refine(Gs2.out _ ((Gr.refl _).alloc _)).mono ?_;rintro e w1 ⟨rfl,J1,G1⟩;have HJ1:=kH J1;have aU:=kH G1;go_wp2_with fail;go_roundw
    case rel=>exact⟨j+1,by omega,by go_num,ahb.out,HJ1.out,aU.out⟩
    case measure=>simp[intOf];omega
  ·have ej:j=n:=by omega
   have HE0:=kH (HDn.out j (.inr ej));have okj:=(gp.out j).ok;have bd:=(HBd.out j).2.2;have k47:=Um.out.NZ okj 3;have k48:=Um.out.NZ okj 4;have Nc:=Um.out.hart (j:=0) (by omega);have fz:=Um.out.fz;have wp:=W.lo ((R j).here+4);have HJ:=kH (Um.out.Oa wp);have HB:Hid (Gr w0 (wr.setCell ⟨g,32,none⟩ (.int .u32 (Wd.lo ((R j).here+4))))):=auI HGj.out (((Ch.refl g wr).setCell _ _).below (by obtain⟨c,_,q⟩:=Um.out;exact q.bg) Um.out.ay);have h48:=okj.h0;have h49:=okj.h1;generalize R j=rj at *
   by_cases hz:rj.n=0
   ·have HE:Hid (MP=rj):=by
     unfold Hid;rw[HE0.out];unfold mend;rw[at6 (by simp[hz])]
    have hz2:(rj.n:Int)=0:=by omega
    go_wp2_with fail;go_end0;exact⟨rfl,by rw[HE.out];exact Um.out,HGj.out⟩
   ·have HE:Hid (MP={ rj with h:=rj.h.go (Wd.lo (rj.here+4)) }):=by
     unfold Hid;rw[HE0.out];unfold mend;rw[at7 ⟨HOv.out,by omega⟩]
    have hz2:0<(rj.n:Int):=by omega
    go_wp2_with fail;go_end0;exact⟨rfl,by rw[HE.out];exact HJ.out,HB.out⟩
end Mp
namespace Mp
open Mm Hh Hc Mi

def jQ (off:Nat) (v cs:Array Value):Array Value:=v.zipIdx.foldl (fun cs (x:Value×Nat)=>cs.setIfInBounds (off+x.2) x.1) cs
theorem aV (off:Nat)(v cs:Array Value):(jQ off v cs).size=cs.size:=(iA off v cs).1
theorem gq (off:Nat)(v cs:Array Value)(k:Nat):(jQ off v cs)[k]?=if off<=k/\k<off+v.size/\k<cs.size then v[k-off]? else cs[k]?:=(iA off v cs).2 k
theorem fq {place:Nat->Option (Nat×Nat)}{cells:Array Value}{i:Nat}{v:Value}{rest:List (Nat×Value)}{off n:Nat}(A:Array Value)(hA:v.cells=A)(hp:place i=some (off,n))(hv:A.size=n)(hb:off+n<=cells.size):Instr.fill place cells ((i,v)::rest)=Instr.fill place (jQ off A cells) rest:=by rw[Instr.fill];simp only[hp];rw[hA,at6 (by simp[hv];omega)];rfl
theorem zg {c:Cv}(o:c.h.Ok)(rs:List Value):(Gc.cB c rs).size=40+rs.length:=by simp[Gc.cB,aD o];omega
theorem qh {r:Rn}(ht:r.tm.length=4)(bf bt steps:Int):(mg r bf bt steps).length=9:=by simp[mg,ht]
theorem Uy:(prog.info? 206).bind (·.zero)=some (.agg (Gc.cB ⟨h0,ax,ax,ax⟩ (mg (mstart h0 []) 0 0 0))):=by kernel_rfl
theorem zh:(prog.info? 206).map (·.size)=some 49:=by kernel_rfl
theorem Z0 {c:Cv}(o:c.h.Ok){rs:List Value}{k:Nat}(hk:k<40):(Gc.cB c rs)[k]?=(cA c)[k]?:=by
 have hl:=aD o;show(hL c.h++([c.m,c.out,c.av]++rs)).toArray[k]?=(hL c.h++[c.m,c.out,c.av]).toArray[k]?
 rw[apm,apm,<-aqa,apA (by simp;omega)]
theorem Z5 {P:Program}{t:TypeId}{it:TypeInfo}{z:Value}{fs:Array Field}{ps:List (Nat×Nat)}(hi:P.info? t=some it)(hu:P.underlying t=some (.struct fs))(hz:it.zero=some z)(hp:fs.toList.mapM (fun f=>(P.info? f.type).map fun i=>(f.offset,i.size))=some ps){n p m q s:Nat}(p0:ps.toArray[0]?=some (0,n))(p2:ps.toArray[2]?=some (p,m))(p3:ps.toArray[3]?=some (q,1))(p5:ps.toArray[5]?=some (s,1))(A B:Array Value)(x y:Value)(hA:A.size=n)(hB:B.size=m)(hx:x.cells=#[x])(hy:y.cells=#[y])(b0:n<=z.cells.size)(b2:p+m<=z.cells.size)(b3:q+1<=z.cells.size)(b5:s+1<=z.cells.size):P.built t [(0,.agg A),(2,.agg B),(3,x),(5,y)]=some (jQ s #[y] (jQ q #[x] (jQ p B (jQ 0 A z.cells)))):=by unfold Program.built;simp only[hi,hu,hz,hp];rw[fq (off:=0) (n:=n) A rfl p0 hA (by omega)];rw[fq (off:=p) (n:=m) B rfl p2 hB (by rw[aV];omega)];rw[fq (off:=q) (n:=1) #[x] hx p3 rfl (by rw[aV,aV];omega)];rw[fq (off:=s) (n:=1) #[y] hy p5 rfl (by rw[aV,aV,aV];omega)];rw[Instr.fill]
theorem Z9 {P:Program}{t:TypeId}{it:TypeInfo}{z:Value}{fs:Array Field}{ps:List (Nat×Nat)}(hi:P.info? t=some it)(hu:P.underlying t=some (.struct fs))(hz:it.zero=some z)(hp:fs.toList.mapM (fun f=>(P.info? f.type).map fun i=>(f.offset,i.size))=some ps){n o1 o2 o3 o4:Nat}(p0:ps.toArray[0]?=some (0,n))(p1:ps.toArray[1]?=some (o1,1))(p2:ps.toArray[2]?=some (o2,1))(p3:ps.toArray[3]?=some (o3,1))(p4:ps.toArray[4]?=some (o4,1))(A:Array Value)(x1 x2 x3 x4:Value)(hA:A.size=n)(h1:x1.cells=#[x1])(h2:x2.cells=#[x2])(h3:x3.cells=#[x3])(h4:x4.cells=#[x4])(b0:n<=z.cells.size)(b1:o1+1<=z.cells.size)(b2:o2+1<=z.cells.size)(b3:o3+1<=z.cells.size)(b4:o4+1<=z.cells.size):P.built t [(0,.agg A),(1,x1),(2,x2),(3,x3),(4,x4)]=some (jQ o4 #[x4] (jQ o3 #[x3] (jQ o2 #[x2] (jQ o1 #[x1] (jQ 0 A z.cells))))):=by unfold Program.built;simp only[hi,hu,hz,hp];rw[fq (off:=0) (n:=n) A rfl p0 hA (by omega)];rw[fq (off:=o1) (n:=1) #[x1] h1 p1 rfl (by rw[aV];omega)];rw[fq (off:=o2) (n:=1) #[x2] h2 p2 rfl (by rw[aV,aV];omega)];rw[fq (off:=o3) (n:=1) #[x3] h3 p3 rfl (by rw[aV,aV,aV];omega)];rw[fq (off:=o4) (n:=1) #[x4] h4 p4 rfl (by rw[aV,aV,aV,aV];omega)];rw[Instr.fill]
theorem zi {c:Cv}(o:c.h.Ok)(hh:Hv)(l:List UInt8)(bf bt steps:Int):prog.built 206 [(0,.agg (cA c)),(2,.agg #[.int .u32 bf,.int .u32 bt]),(3,.int .i64 steps),(5,.int .u32 hh.pc)]=some (Gc.cB c (mg (mstart hh l) bf bt steps)):=by
 obtain⟨it,hi,hz⟩:=ko Uy;have hs0:(Gc.cB ⟨h0,ax,ax,ax⟩ (mg (mstart h0 []) 0 0 0)).size=49:=by rw[zg iO,qh rfl]
 refine auT (Z5 (ps:=[(0,40),(40,4),(44,2),(46,1),(47,1),(48,1)]) (n:=40) (p:=44) (m:=2) (q:=46) (s:=48) hi underlying206 hz (by kernel_rfl) rfl rfl rfl rfl (cA c) #[.int .u32 bf,.int .u32 bt] (.int .i64 steps) (.int .u32 hh.pc) (jD o) rfl rfl rfl (by show 40<=(Gc.cB _ _).size;rw[hs0];omega) (by show 44+2<=(Gc.cB _ _).size;rw[hs0];omega) (by show 46+1<=(Gc.cB _ _).size;rw[hs0];omega) (by show 48+1<=(Gc.cB _ _).size;rw[hs0];omega)) ?_;show some (jQ 48 _ (jQ 46 _ (jQ 44 _ (jQ 0 _ (Gc.cB ⟨h0,ax,ax,ax⟩ (mg (mstart h0 []) 0 0 0))))))=_
 have hr0:∀j,(Gc.cB ⟨h0,ax,ax,ax⟩ (mg (mstart h0 []) 0 0 0))[40+j]?=(mg (mstart h0 []) 0 0 0)[j]?:=fun j=>Gc.yX iO j
 generalize Gc.cB ⟨h0,ax,ax,ax⟩ (mg (mstart h0 []) 0 0 0)=Z at *
 refine congrArg some ?_;apply aqC;intro k;have z2:(#[.int .u32 bf,.int .u32 bt]:Array Value).size=2:=rfl;have z1:∀v:Value,(#[v]:Array Value).size=1:=fun _=>rfl
 rw[gq,gq,gq,gq,aV,aV,aV,hs0,z2,z1,z1,jD o];by_cases QR:k<40
 ·rw[ak,ak,ak,dU,Z0 o QR];rfl
 ·obtain⟨j,rfl⟩:∃j,k=40+j:=⟨k-40,by omega⟩;rw[Gc.yX o,hr0];by_cases h9:j<9
  ·have:j=0\/j=1\/j=2\/j=3\/j=4\/j=5\/j=6\/j=7\/j=8:=by omega
   rcases this with rfl|rfl|rfl|rfl|rfl|rfl|rfl|rfl|rfl<;>rfl
  ·rw[ak,ak,ak,ak,aqf (by rw[qh rfl];omega),aqf (by rw[qh rfl];omega)]
theorem oI {h:Hv}(o:h.Ok)(M O S:Value)(n:Int)(hM:M.cells=#[M])(hO:O.cells=#[O])(hS:S.cells=#[S]):prog.built 142 [(0,.agg (hA h)),(1,M),(2,O),(3,.int .i64 n),(4,S)]=some (gA h M O n S):=by
 obtain⟨it,hi,hz⟩:=ko adJ;have hs0:(gA h0 ax ax 0 ax).size=41:=Gl iO _ _ _ _;refine auT (Z9 (ps:=[(0,37),(37,1),(38,1),(39,1),(40,1)]) (n:=37) (o1:=37) (o2:=38) (o3:=39) (o4:=40) hi underlying142 hz (by kernel_rfl) rfl rfl rfl rfl rfl (hA h) M O (.int .i64 n) S (jC o) hM hO rfl hS (by show 37<=(gA _ _ _ _ _).size;rw[hs0];omega) (by show 37+1<=(gA _ _ _ _ _).size;rw[hs0];omega) (by show 38+1<=(gA _ _ _ _ _).size;rw[hs0];omega) (by show 39+1<=(gA _ _ _ _ _).size;rw[hs0];omega) (by show 40+1<=(gA _ _ _ _ _).size;rw[hs0];omega)) ?_;show some (jQ 40 _ (jQ 39 _ (jQ 38 _ (jQ 37 _ (jQ 0 _ (gA h0 ax ax 0 ax))))))=_
 have hr0:∀j,(gA h0 ax ax 0 ax)[37+j]?=[ax,ax,Value.int .i64 0,ax][j]?:=fun j=>Od iO j
 generalize gA h0 ax ax 0 ax=Z at *
 refine congrArg some ?_;apply aqC;intro k;have z1:∀v:Value,(#[v]:Array Value).size=1:=fun _=>rfl
 rw[gq,gq,gq,gq,gq,aV,aV,aV,aV,hs0,z1,z1,z1,z1,jC o];by_cases h37:k<37
 ·have hk:(gA h M O n S)[k]?=(hL h)[k]?:=by
   have hl:=aD o;unfold gA gL;rw[apm,apA (by omega)]
  rw[ak,ak,ak,ak,dU,hk];unfold hA;rw[apm];rfl
 ·obtain⟨j,rfl⟩:∃j,k=37+j:=⟨k-37,by omega⟩;rw[Od o,hr0];by_cases h4:j<4
  ·have:j=0\/j=1\/j=2\/j=3:=by omega
   rcases this with rfl|rfl|rfl|rfl<;>rfl
  ·rw[ak,ak,ak,ak,ak,aqf (by simp;omega),aqf (by simp;omega)]
end Mp
end Go.Proofs.YtiadhbmnfjfioaaGreatDoor
