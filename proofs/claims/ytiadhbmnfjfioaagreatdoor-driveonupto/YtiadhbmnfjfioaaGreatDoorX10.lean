/- ours -/
import Derived.Test.YtiadhbmnfjfioaaGreatDoorX09
import Derived.Test.YtiadhbmnfjfioaaGreatDoorX08
set_option linter.unusedVariables false
set_option linter.unusedSimpArgs false
set_option maxHeartbeats 8000000
set_option maxRecDepth 100000
set_option linter.unusedSectionVars false
namespace Go.Proofs.YtiadhbmnfjfioaaGreatDoor
open Go.Proofs.Tryz hiding d0 d1
namespace Dw
open Go.ChangeShapes Go.WideShapes Go.ChangeAt Go.RowKit

def df (op rd bL bT jw:Int):Value:=.agg #[.int .i64 op,.int .i64 rd,.int .i64 bL,.int .i64 bT,.int .i32 jw]
theorem di {w w1:World}{c:Array Value}{t:TypeId}(g:Gr (w.alloc (.cells c t)) w1):(∀i v,c[i]?=some v->w1.cell? ⟨w.heap.size,i,none⟩=some v)/\(∀i,w1.frozen? ⟨w.heap.size,i,none⟩=false)/\w.heap.size<w1.heap.size:=by
 have hs:(w.alloc (.cells c t)).heap.size=w.heap.size+1:=by simp
 refine⟨fun i v h=>?_,fun i=>?_,by have:=g.size;omega⟩
 ·rw[g.cell _ _ (by omega),World.cell?_alloc_new,h]
 ·rw[g.2,frozen?_alloc_cells];simp[World.frozen?]
theorem j3 (a:Int)(w:World)(h0:0<=a)(h1:a<4294967296):Calls prog 63 #[.int .u32 a,.int .i64 7,.int .i64 5] w fun e w'=>e=.returned (.int .u32 (a/128%32))/\∃m,w'=w.drewN m:=lM a 7 5 _ w h0 h1 (by omega) (by omega) (by omega) (by omega) rfl
theorem jb (a:Int)(w:World)(h0:0<=a)(h1:a<4294967296):Calls prog 63 #[.int .u32 a,.int .i64 15,.int .i64 5] w fun e w'=>e=.returned (.int .u32 (a/32768%32))/\∃m,w'=w.drewN m:=lM a 15 5 _ w h0 h1 (by omega) (by omega) (by omega) (by omega) rfl
theorem mW (a:Int)(w:World)(h0:0<=a)(h1:a<4294967296):Calls prog 63 #[.int .u32 a,.int .i64 20,.int .i64 5] w fun e w'=>e=.returned (.int .u32 (a/1048576%32))/\∃m,w'=w.drewN m:=lM a 20 5 _ w h0 h1 (by omega) (by omega) (by omega) (by omega) rfl
def Read (f:Int):Prop:=∀(k a:Int) (w:World),nK w->0<=a->a<4294967296->Calls prog 28 #[.int .i64 k,.int .i64 f,.int .u32 a] w fun e w'=>e=.returned (df k (Dc.iF f a) (Dc.bZ f a) (Dc.bV f a) (Dc.bS f a))/\Gr w w'
theorem YO:Read 0:=by intro k a w T h0 h1;go_enter func28,ntmps28;go_wp2_with fail;refine(IK a _ (T.of ((Gr.refl _).alloc _ _)) h0 h1).mono ?_;rintro e w1 ⟨rfl,g⟩;have T1:=(T.of ((Gr.refl _).alloc _ _)).of g;have b0:=lt_of_cell (T1.shapes 0 _ rfl);have c1:=T1.shapes 1 _ rfl;have c2:=T1.shapes 2 _ rfl;have c3:=T1.shapes 3 _ rfl;obtain⟨f1,f2,f3⟩:=di g;have r0:=f1 0 _ rfl;have r1:=f1 1 _ rfl;have r2:=f1 2 _ rfl;have r3:=f1 3 _ rfl;have r4:=f1 4 _ rfl;have G:=kH (((Gr.refl _).alloc _ _).trans g);go_wp2_with fail;refine auc (v:=df k (Dc.iF 0 a) (Dc.bZ 0 a) (Dc.bV 0 a) (Dc.bS 0 a)) (by simp[results,results28,go_sem,r0,r1,r2,r3,r4,f3,df,Dc.iF,Dc.bZ,Dc.bV,Dc.kV,Dc.iG,Dc.iJ]) rfl ⟨rfl,?_⟩;have Z:=G.out;exact(((((Z.setCell (by simp) _).setCell (by simp) _).setCell (by simp) _).setCell (by simp) _).setCell (by simp) _).alloc _ _
theorem YP:Read 1:=by intro k a w T h0 h1;go_enter func28,ntmps28;go_wp2_with fail;refine(IL a _ (T.of ((Gr.refl _).alloc _ _)) h0 h1).mono ?_;rintro e w1 ⟨rfl,g⟩;have T1:=(T.of ((Gr.refl _).alloc _ _)).of g;have b0:=lt_of_cell (T1.shapes 0 _ rfl);have c1:=T1.shapes 18 _ rfl;have c2:=T1.shapes 19 _ rfl;have c3:=T1.shapes 20 _ rfl;obtain⟨f1,f2,f3⟩:=di g;have r0:=f1 0 _ rfl;have r1:=f1 1 _ rfl;have r2:=f1 2 _ rfl;have r3:=f1 3 _ rfl;have r4:=f1 4 _ rfl;have G:=kH (((Gr.refl _).alloc _ _).trans g);go_wp2_with fail;refine(j3 a _ h0 h1).mono ?_;rintro e w' ⟨rfl,ML,rfl⟩;go_wp2_with fail;refine auc (v:=df k (Dc.iF 1 a) (Dc.bZ 1 a) (Dc.bV 1 a) (Dc.bS 1 a)) (by simp[results,results28,go_sem,r0,r1,r2,r3,r4,f3,df,Dc.iF,Dc.bZ,Dc.bV,Dc.kV,Dc.iG,Dc.iJ]) rfl ⟨rfl,?_⟩;have Z:=G.out;exact((((((((Z.alloc _ _).drewN _).setCell (by simp;omega) _).setCell (by simp) _).setCell (by simp) _).setCell (by simp) _).setCell (by simp) _).setCell (by simp) _)
theorem YQ:Read 2:=by intro k a w T h0 h1;go_enter func28,ntmps28;go_wp2_with fail;refine(IM a _ (T.of ((Gr.refl _).alloc _ _)) h0 h1).mono ?_;rintro e w1 ⟨rfl,g⟩;have T1:=(T.of ((Gr.refl _).alloc _ _)).of g;have b0:=lt_of_cell (T1.shapes 0 _ rfl);have c1:=T1.shapes 35 _ rfl;have c2:=T1.shapes 36 _ rfl;have c3:=T1.shapes 37 _ rfl;obtain⟨f1,f2,f3⟩:=di g;have r0:=f1 0 _ rfl;have r1:=f1 1 _ rfl;have r2:=f1 2 _ rfl;have r3:=f1 3 _ rfl;have r4:=f1 4 _ rfl;have G:=kH (((Gr.refl _).alloc _ _).trans g);go_wp2_with fail;refine(j3 a _ h0 h1).mono ?_;rintro e w' ⟨rfl,ML,rfl⟩;go_wp2_with fail;refine auc (v:=df k (Dc.iF 2 a) (Dc.bZ 2 a) (Dc.bV 2 a) (Dc.bS 2 a)) (by simp[results,results28,go_sem,r0,r1,r2,r3,r4,f3,df,Dc.iF,Dc.bZ,Dc.bV,Dc.kV,Dc.iG,Dc.iJ]) rfl ⟨rfl,?_⟩;have Z:=G.out;exact((((((((Z.alloc _ _).drewN _).setCell (by simp;omega) _).setCell (by simp) _).setCell (by simp) _).setCell (by simp) _).setCell (by simp) _).setCell (by simp) _)
theorem YR:Read 3:=by intro k a w T h0 h1;go_enter func28,ntmps28;go_wp2_with fail;refine(IP a _ (T.of ((Gr.refl _).alloc _ _)) h0 h1).mono ?_;rintro e w1 ⟨rfl,g⟩;have T1:=(T.of ((Gr.refl _).alloc _ _)).of g;have b0:=lt_of_cell (T1.shapes 0 _ rfl);have c1:=T1.shapes 52 _ rfl;have c2:=T1.shapes 53 _ rfl;have c3:=T1.shapes 54 _ rfl;obtain⟨f1,f2,f3⟩:=di g;have r0:=f1 0 _ rfl;have r1:=f1 1 _ rfl;have r2:=f1 2 _ rfl;have r3:=f1 3 _ rfl;have r4:=f1 4 _ rfl;have G:=kH (((Gr.refl _).alloc _ _).trans g);go_wp2_with fail;refine(j3 a _ h0 h1).mono ?_;rintro e w' ⟨rfl,ML,rfl⟩;go_wp2_with fail;refine(jb a _ h0 h1).mono ?_;rintro e w' ⟨rfl,AO,rfl⟩;go_wp2_with fail;refine auc (v:=df k (Dc.iF 3 a) (Dc.bZ 3 a) (Dc.bV 3 a) (Dc.bS 3 a)) (by simp[results,results28,go_sem,r0,r1,r2,r3,r4,f3,df,Dc.iF,Dc.bZ,Dc.bV,Dc.kV,Dc.iG,Dc.iJ]) rfl ⟨rfl,?_⟩;have Z:=G.out;exact((((((((((Z.alloc _ _).drewN _).setCell (by simp;omega) _).drewN _).setCell (by simp;omega) _).setCell (by simp) _).setCell (by simp) _).setCell (by simp) _).setCell (by simp) _).setCell (by simp) _)
theorem YS:Read 4:=by intro k a w T h0 h1;go_enter func28,ntmps28;go_wp2_with fail;refine(IQ a _ (T.of ((Gr.refl _).alloc _ _)) h0 h1).mono ?_;rintro e w1 ⟨rfl,g⟩;have T1:=(T.of ((Gr.refl _).alloc _ _)).of g;have b0:=lt_of_cell (T1.shapes 0 _ rfl);have c1:=T1.shapes 69 _ rfl;have c2:=T1.shapes 70 _ rfl;have c3:=T1.shapes 71 _ rfl;obtain⟨f1,f2,f3⟩:=di g;have r0:=f1 0 _ rfl;have r1:=f1 1 _ rfl;have r2:=f1 2 _ rfl;have r3:=f1 3 _ rfl;have r4:=f1 4 _ rfl;have G:=kH (((Gr.refl _).alloc _ _).trans g);go_wp2_with fail;refine(j3 a _ h0 h1).mono ?_;rintro e w' ⟨rfl,ML,rfl⟩;go_wp2_with fail;refine(jb a _ h0 h1).mono ?_;rintro e w' ⟨rfl,AO,rfl⟩;go_wp2_with fail;refine auc (v:=df k (Dc.iF 4 a) (Dc.bZ 4 a) (Dc.bV 4 a) (Dc.bS 4 a)) (by simp[results,results28,go_sem,r0,r1,r2,r3,r4,f3,df,Dc.iF,Dc.bZ,Dc.bV,Dc.kV,Dc.iG,Dc.iJ]) rfl ⟨rfl,?_⟩;have Z:=G.out;exact((((((((((Z.alloc _ _).drewN _).setCell (by simp;omega) _).drewN _).setCell (by simp;omega) _).setCell (by simp) _).setCell (by simp) _).setCell (by simp) _).setCell (by simp) _).setCell (by simp) _)
theorem YT:Read 5:=by intro k a w T h0 h1;go_enter func28,ntmps28;go_wp2_with fail;refine(IU a _ (T.of ((Gr.refl _).alloc _ _)) h0 h1).mono ?_;rintro e w1 ⟨rfl,g⟩;have T1:=(T.of ((Gr.refl _).alloc _ _)).of g;have b0:=lt_of_cell (T1.shapes 0 _ rfl);have c1:=T1.shapes 86 _ rfl;have c2:=T1.shapes 87 _ rfl;have c3:=T1.shapes 88 _ rfl;obtain⟨f1,f2,f3⟩:=di g;have r0:=f1 0 _ rfl;have r1:=f1 1 _ rfl;have r2:=f1 2 _ rfl;have r3:=f1 3 _ rfl;have r4:=f1 4 _ rfl;have G:=kH (((Gr.refl _).alloc _ _).trans g);go_wp2_with fail;refine(jb a _ h0 h1).mono ?_;rintro e w' ⟨rfl,AO,rfl⟩;go_wp2_with fail;refine(mW a _ h0 h1).mono ?_;rintro e w' ⟨rfl,MN,rfl⟩;go_wp2_with fail;refine auc (v:=df k (Dc.iF 5 a) (Dc.bZ 5 a) (Dc.bV 5 a) (Dc.bS 5 a)) (by simp[results,results28,go_sem,r0,r1,r2,r3,r4,f3,df,Dc.iF,Dc.bZ,Dc.bV,Dc.kV,Dc.iG,Dc.iJ]) rfl ⟨rfl,?_⟩;have Z:=G.out;exact((((((((((Z.alloc _ _).drewN _).setCell (by simp;omega) _).drewN _).setCell (by simp;omega) _).setCell (by simp) _).setCell (by simp) _).setCell (by simp) _).setCell (by simp) _).setCell (by simp) _)
theorem YU:Read 6:=by intro k a w T h0 h1;go_enter func28,ntmps28;go_wp2_with fail;refine(IV a _ (T.of ((Gr.refl _).alloc _ _)) h0 h1).mono ?_;rintro e w1 ⟨rfl,g⟩;have T1:=(T.of ((Gr.refl _).alloc _ _)).of g;have b0:=lt_of_cell (T1.shapes 0 _ rfl);have c1:=T1.shapes 103 _ rfl;have c2:=T1.shapes 104 _ rfl;have c3:=T1.shapes 105 _ rfl;obtain⟨f1,f2,f3⟩:=di g;have r0:=f1 0 _ rfl;have r1:=f1 1 _ rfl;have r2:=f1 2 _ rfl;have r3:=f1 3 _ rfl;have r4:=f1 4 _ rfl;have G:=kH (((Gr.refl _).alloc _ _).trans g);go_wp2_with fail;refine(jb a _ h0 h1).mono ?_;rintro e w' ⟨rfl,AO,rfl⟩;go_wp2_with fail;refine(mW a _ h0 h1).mono ?_;rintro e w' ⟨rfl,MN,rfl⟩;go_wp2_with fail;refine auc (v:=df k (Dc.iF 6 a) (Dc.bZ 6 a) (Dc.bV 6 a) (Dc.bS 6 a)) (by simp[results,results28,go_sem,r0,r1,r2,r3,r4,f3,df,Dc.iF,Dc.bZ,Dc.bV,Dc.kV,Dc.iG,Dc.iJ]) rfl ⟨rfl,?_⟩;have Z:=G.out;exact((((((((((Z.alloc _ _).drewN _).setCell (by simp;omega) _).drewN _).setCell (by simp;omega) _).setCell (by simp) _).setCell (by simp) _).setCell (by simp) _).setCell (by simp) _).setCell (by simp) _)
theorem YV:Read 7:=by intro k a w T h0 h1;go_enter func28,ntmps28;go_wp2_with fail;refine(IW a _ (T.of ((Gr.refl _).alloc _ _)) h0 h1).mono ?_;rintro e w1 ⟨rfl,g⟩;have T1:=(T.of ((Gr.refl _).alloc _ _)).of g;have b0:=lt_of_cell (T1.shapes 0 _ rfl);have c1:=T1.shapes 120 _ rfl;have c2:=T1.shapes 121 _ rfl;have c3:=T1.shapes 122 _ rfl;obtain⟨f1,f2,f3⟩:=di g;have r0:=f1 0 _ rfl;have r1:=f1 1 _ rfl;have r2:=f1 2 _ rfl;have r3:=f1 3 _ rfl;have r4:=f1 4 _ rfl;have G:=kH (((Gr.refl _).alloc _ _).trans g);go_wp2_with fail;refine(j3 a _ h0 h1).mono ?_;rintro e w' ⟨rfl,ML,rfl⟩;go_wp2_with fail;refine(jb a _ h0 h1).mono ?_;rintro e w' ⟨rfl,AO,rfl⟩;go_wp2_with fail;refine(mW a _ h0 h1).mono ?_;rintro e w' ⟨rfl,MN,rfl⟩;go_wp2_with fail;refine auc (v:=df k (Dc.iF 7 a) (Dc.bZ 7 a) (Dc.bV 7 a) (Dc.bS 7 a)) (by simp[results,results28,go_sem,r0,r1,r2,r3,r4,f3,df,Dc.iF,Dc.bZ,Dc.bV,Dc.kV,Dc.iG,Dc.iJ]) rfl ⟨rfl,?_⟩;have Z:=G.out;exact((((((((((((Z.alloc _ _).drewN _).setCell (by simp;omega) _).drewN _).setCell (by simp;omega) _).drewN _).setCell (by simp;omega) _).setCell (by simp) _).setCell (by simp) _).setCell (by simp) _).setCell (by simp) _).setCell (by simp) _)
theorem YW:Read 8:=by intro k a w T h0 h1;go_enter func28,ntmps28;go_wp2_with fail;refine(IY a _ (T.of ((Gr.refl _).alloc _ _)) h0 h1).mono ?_;rintro e w1 ⟨rfl,g⟩;have T1:=(T.of ((Gr.refl _).alloc _ _)).of g;have b0:=lt_of_cell (T1.shapes 0 _ rfl);have c1:=T1.shapes 137 _ rfl;have c2:=T1.shapes 138 _ rfl;have c3:=T1.shapes 139 _ rfl;obtain⟨f1,f2,f3⟩:=di g;have r0:=f1 0 _ rfl;have r1:=f1 1 _ rfl;have r2:=f1 2 _ rfl;have r3:=f1 3 _ rfl;have r4:=f1 4 _ rfl;have G:=kH (((Gr.refl _).alloc _ _).trans g);go_wp2_with fail;refine(j3 a _ h0 h1).mono ?_;rintro e w' ⟨rfl,ML,rfl⟩;go_wp2_with fail;refine(jb a _ h0 h1).mono ?_;rintro e w' ⟨rfl,AO,rfl⟩;go_wp2_with fail;refine(mW a _ h0 h1).mono ?_;rintro e w' ⟨rfl,MN,rfl⟩;go_wp2_with fail;refine auc (v:=df k (Dc.iF 8 a) (Dc.bZ 8 a) (Dc.bV 8 a) (Dc.bS 8 a)) (by simp[results,results28,go_sem,r0,r1,r2,r3,r4,f3,df,Dc.iF,Dc.bZ,Dc.bV,Dc.kV,Dc.iG,Dc.iJ]) rfl ⟨rfl,?_⟩;have Z:=G.out;exact((((((((((((Z.alloc _ _).drewN _).setCell (by simp;omega) _).drewN _).setCell (by simp;omega) _).drewN _).setCell (by simp;omega) _).setCell (by simp) _).setCell (by simp) _).setCell (by simp) _).setCell (by simp) _).setCell (by simp) _)
theorem YX:Read 9:=by intro k a w T h0 h1;go_enter func28,ntmps28;go_wp2_with fail;refine(IZ a _ (T.of ((Gr.refl _).alloc _ _)) h0 h1).mono ?_;rintro e w1 ⟨rfl,g⟩;have T1:=(T.of ((Gr.refl _).alloc _ _)).of g;have b0:=lt_of_cell (T1.shapes 0 _ rfl);have c1:=T1.shapes 154 _ rfl;have c2:=T1.shapes 155 _ rfl;have c3:=T1.shapes 156 _ rfl;obtain⟨f1,f2,f3⟩:=di g;have r0:=f1 0 _ rfl;have r1:=f1 1 _ rfl;have r2:=f1 2 _ rfl;have r3:=f1 3 _ rfl;have r4:=f1 4 _ rfl;have G:=kH (((Gr.refl _).alloc _ _).trans g);go_wp2_with fail;refine auc (v:=df k (Dc.iF 9 a) (Dc.bZ 9 a) (Dc.bV 9 a) (Dc.bS 9 a)) (by simp[results,results28,go_sem,r0,r1,r2,r3,r4,f3,df,Dc.iF,Dc.bZ,Dc.bV,Dc.kV,Dc.iG,Dc.iJ]) rfl ⟨rfl,?_⟩;have Z:=G.out;exact(((((Z.setCell (by simp) _).setCell (by simp) _).setCell (by simp) _).setCell (by simp) _).setCell (by simp) _).alloc _ _
theorem ug (f:Int)(h0:0<=f)(h1:f<=9):Read f:=by
 have h:f=0\/f=1\/f=2\/f=3\/f=4\/f=5\/f=6\/f=7\/f=8\/f=9:=by omega
 rcases h with rfl|rfl|rfl|rfl|rfl|rfl|rfl|rfl|rfl|rfl
 ·exact YO
 ·exact YP
 ·exact YQ
 ·exact YR
 ·exact YS
 ·exact YT
 ·exact YU
 ·exact YV
 ·exact YW
 ·exact YX
end Dw
namespace Dw
open Go.ChangeShapes Go.WideShapes Go.ChangeAt Go.RowKit

variable {a :Int}
def kP (a:Int):Value:=df (Dc.aO a) (Dc.iF (Dc.aJ (Dc.aO a)) a) (Dc.bZ (Dc.aJ (Dc.aO a)) a) (Dc.bV (Dc.aJ (Dc.aO a)) a) (Dc.bS (Dc.aJ (Dc.aO a)) a)
def fZ (a:Int):Bool:=decide (Dc.aO a≠0)
theorem j5 (h:Dc.aO a=0):kP a=df 0 0 0 0 0/\fZ a=false:=by unfold kP fZ;rw[h];exact⟨rfl,rfl⟩
theorem AP {k:Int}(h:Dc.aO a=k)(hk:1<=k):kP a=df k (Dc.iF (Dc.aJ k) a) (Dc.bZ (Dc.aJ k) a) (Dc.bV (Dc.aJ k) a) (Dc.bS (Dc.aJ k) a)/\fZ a=true:=by unfold kP fZ;rw[h];exact⟨rfl,by simp;omega⟩
theorem ac1 (lo:Int):(1<=Dc.sp1 lo\/Dc.sp2 lo = -1)/\0<=Dc.sp1 lo/\Dc.sp1 lo<=58 /\ -1<=Dc.sp2 lo/\Dc.sp2 lo<=59/\Dc.sp1 lo<=Dc.sp2 lo+1:=by
 unfold Dc.sp1 Dc.sp2;by_cases h1:lo=55
 ·simp[h1]
 by_cases h2:lo=23
 ·simp[h2]
 by_cases h3:lo=111
 ·simp[h3]
 by_cases h4:lo=103
 ·simp[h4]
 by_cases h5:lo=99
 ·simp[h5]
 by_cases h6:lo=3
 ·simp[h6]
 by_cases h7:lo=35
 ·simp[h7]
 by_cases h8:lo=19
 ·simp[h8]
 by_cases h9:lo=51
 ·simp[h9]
 by_cases h10:lo=47
 ·simp[h10]
 by_cases h11:lo=15
 ·simp[h11]
 by_cases h12:lo=115
 ·simp[h12]
 simp[h1,h2,h3,h4,h5,h6,h7,h8,h9,h10,h11,h12]
theorem SS (f:Int):0<=Dc.mask f/\Dc.mask f<4294967296:=by
 unfold Dc.mask;repeat' split
 all_goals omega
theorem I5 {w:World}(T:nK w)(f:Int)(h0:0<=f)(h1:f<=9):w.cell? ⟨0,f.toNat*17,none⟩=some (.int .u32 (Dc.mask f)):=by
 have h:f=0\/f=1\/f=2\/f=3\/f=4\/f=5\/f=6\/f=7\/f=8\/f=9:=by omega
 rcases h with rfl|rfl|rfl|rfl|rfl|rfl|rfl|rfl|rfl|rfl
 ·exact T.shapes 0 _ rfl
 ·exact T.shapes 17 _ rfl
 ·exact T.shapes 34 _ rfl
 ·exact T.shapes 51 _ rfl
 ·exact T.shapes 68 _ rfl
 ·exact T.shapes 85 _ rfl
 ·exact T.shapes 102 _ rfl
 ·exact T.shapes 119 _ rfl
 ·exact T.shapes 136 _ rfl
 ·exact T.shapes 153 _ rfl
theorem MO {s1 s2:Int}(h0:0<=a)(h1:a<4294967296)(e1:Dc.sp1 (a%128)=s1)(e2:Dc.sp2 (a%128)=s2)(h:∀j,s1<=j->j<=s2->Dc.raw a≠j):Dc.aO a=0:=by
 have:Dc.raw a=0:=by
  by_cases hr:Dc.raw a=0
  ·exact hr
  ·have:=Dc.sW h0 h1 hr;exact absurd rfl (h (Dc.raw a) (by omega) (by omega))
 unfold Dc.aO;rw[this];rfl
theorem jh (a:Int)(w:World)(T:nK w)(h0:0<=a)(h1:a<4294967296):Calls prog 14 #[.int .u32 a] w fun e w'=>e=.returned (.tuple #[kP a,.bool (fZ a)])/\Gr w w':=by
 have hs:=ac1 (a%128);go_enter func14,ntmps14;go_wp2_with fail;refine(MH a _ h0 h1).mono ?_;rintro e w' ⟨rfl,rfl⟩;have E1:Hid (Dc.sp1 (a%128)=Dc.sp1 (a%128)):=rfl;have E2:Hid (Dc.sp2 (a%128)=Dc.sp2 (a%128)):=rfl;go_wp2_with fail;generalize hs1:Dc.sp1 (a%128)=s1 at *
 generalize hs2:Dc.sp2 (a%128)=s2 at *
 have H1:=kH hs1;have H2:=kH hs2;obtain⟨p1,p2,p3,p4,p5,p6⟩:=hs;go_loopw [6] (fun i wr=>∃k:Int,i=.int .i64 k/\s1<=k/\k<=s2+1/\(∀j,s1<=j->j<k->Dc.raw a≠j)/\Gr (w.alloc (.cells #[.int .i64 0,.int .i64 0,.int .i64 0,.int .i64 0,.int .i32 0] 59)) wr) (fun i _=>(s2+1-intOf i).toNat)
 case atStart=>exact⟨s1,rfl,by omega,by omega,fun j _ _=>by omega,Gr.refl _⟩
 case round=>
  obtain⟨k,rfl,k1,k2,k3,g⟩:=hrel;obtain⟨f1,f2,f3⟩:=di g;have r0:=f1 0 _ rfl;have r1:=f1 1 _ rfl;have r2:=f1 2 _ rfl;have r3:=f1 3 _ rfl;have r4:=f1 4 _ rfl;have T1:=(T.of ((Gr.refl _).alloc _ _)).of g;have G:=kH (((Gr.refl _).alloc _ _).trans g);have G1:=kH g;by_cases hk:k<=s2
  ·have YY:=Dc.La k;have hti:=Dc.Lb (w:=a) (k:=k) h0 h1 (by omega) (by omega);have hmb:=SS (Dc.aJ k);have hb:=eX a (Dc.mask (Dc.aJ k)) h0 h1 hmb.1 hmb.2;rw[<-hb]at hti;have HT:=kH hti;have K3:=kH k3;go_wp2_with fail;refine(pI k _ T1).mono ?_;rintro e w2 ⟨rfl,g2⟩;have m0:=I5 (T1.of g2) (Dc.aJ k) YY.1 YY.2;have G2:=kH (G1.out.trans g2);have T2:=T1.of g2;by_cases hr:Dc.raw a=k
   ·have nb:(bits .and .u32 a (Dc.mask (Dc.aJ k)) !=Dc.bK k)=false:=by simp[HT.out.2 hr]
    have HR:Hid (Dc.raw a=k):=hr;go_wp2_with fail;refine(ug (Dc.aJ k) YY.1 YY.2 k a w2 T2 h0 h1).mono ?_;rintro e w3 ⟨rfl,g3⟩;unfold df;have g:=G2.out.trans g3;obtain⟨f1,f2,f3⟩:=di g;have r0:=f1 0 _ rfl;have r1:=f1 1 _ rfl;have r2:=f1 2 _ rfl;have r3:=f1 3 _ rfl;have r4:=f1 4 _ rfl;have G:=kH (((Gr.refl _).alloc _ _).trans g);by_cases ac2:k=46
    ·subst ac2;by_cases hz:a/1048576%32=0
     ·obtain⟨WT,WU⟩:=AP (a:=a) (k:=46) (by unfold Dc.aO;rw[HR.out,ak]) (by omega);have DV:=kH WT;have DO:=kH WU;have hz':Dc.bV (Dc.aJ 46) a=0:=hz;go_wp2_with fail;refine auc (v:=.tuple #[df 46 (Dc.iF (Dc.aJ 46) a) (Dc.bZ (Dc.aJ 46) a) (Dc.bV (Dc.aJ 46) a) (Dc.bS (Dc.aJ 46) a),.bool true]) (by simp[results,results14,go_sem,r0,r1,r2,r3,r4,f3,df,hz']) rfl ⟨by rw[DV.out,DO.out],?_⟩;exact(((((G.out.setCell (by simp) _).setCell (by simp) _).setCell (by simp) _).setCell (by simp) _).setCell (by simp) _).alloc _ _
     ·obtain⟨WT,WU⟩:=j5 (a:=a) (by unfold Dc.aO;rw[HR.out,at7 ⟨rfl,hz⟩]);have DV:=kH WT;have DO:=kH WU;have hz':(Dc.bV (Dc.aJ 46) a !=0)=true:=by rw[show Dc.bV (Dc.aJ 46) a=a/1048576%32 from rfl];simpa using hz
      go_wp2_with fail;refine auc (v:=.tuple #[df 0 0 0 0 0,.bool false]) (by simp[results,results14,go_sem,r0,r1,r2,r3,r4,f3,df]) rfl ⟨by rw[DV.out,DO.out],?_⟩;exact(((((G.out.setCell (by simp) _).setCell (by simp) _).setCell (by simp) _).setCell (by simp) _).setCell (by simp) _).alloc _ _
    ·obtain⟨WT,WU⟩:=AP (a:=a) (k:=k) (by unfold Dc.aO;rw[HR.out,ak]) (by omega);have DV:=kH WT;have DO:Hid (fZ a=true):=WU;have b46:(k ==46)=false:=by simpa using ac2
     go_wp2_with fail;refine auc (v:=.tuple #[df k (Dc.iF (Dc.aJ k) a) (Dc.bZ (Dc.aJ k) a) (Dc.bV (Dc.aJ k) a) (Dc.bS (Dc.aJ k) a),.bool true]) (by simp[results,results14,go_sem,r0,r1,r2,r3,r4,f3,df]) rfl ⟨by rw[DV.out,DO.out],?_⟩;exact(((((G.out.setCell (by simp) _).setCell (by simp) _).setCell (by simp) _).setCell (by simp) _).setCell (by simp) _).alloc _ _
   ·have nb:(bits .and .u32 a (Dc.mask (Dc.aJ k)) !=Dc.bK k)=true:=by simp;intro h;exact hr (HT.out.1 h)
    go_wp2_with fail;refine⟨⟨k+1,rfl,by omega,by omega,fun j j1 j2=>?_,G2.out⟩,by simp only[intOf];omega⟩;by_cases e:j=k
    ·rw[e];exact hr
    ·exact K3.out j j1 (by omega)
  ·obtain⟨WT,WU⟩:=j5 (MO h0 h1 H1.out H2.out fun j j1 j2=>k3 j j1 (by omega));have DV:Hid (kP a=_):=WT;have DO:Hid (fZ a=false):=WU;clear k3 WT WU;go_wp2;refine auc (v:=.tuple #[df 0 0 0 0 0,.bool false]) (by simp[results,results14,go_sem,r0,r1,r2,r3,r4,f3,df]) rfl ⟨by rw[DV.out,DO.out],?_⟩;exact(((((G.out.setCell (by simp) _).setCell (by simp) _).setCell (by simp) _).setCell (by simp) _).setCell (by simp) _)
end Dw
namespace Re
open Go.ChangeShapes Go.WideShapes Go.ChangeAt Go.RowKit Dw

variable {a :Int}
theorem yu (h0:0<=a)(h1:a<4294967296):0<=Dc.aO a/\Dc.aO a<=59:=by have:=Dc.kI h0 h1;unfold Dc.aO;split<;>omega
end Re
namespace Ts
open Mm Wd Mi Bk
open Hh hiding Rn

variable {bf bt steps a op rd :Int} {i :Iv}
def CG (a:Int) (i:Iv):List Mv:=
 if i.op=1 then[⟨2,i.rd,0,0,lo i.im⟩]else if i.op=2 then[⟨2,i.rd,0,0,lo (a+lo i.im)⟩]
 else if i.op=3 then[⟨2,i.rd,0,0,lo (a+4)⟩,⟨3,0,0,0,lo (a+lo i.im)⟩]
 else if i.op=4 then[⟨528,32,i.r1,0,lo i.im⟩,⟨2,i.rd,0,0,lo (a+4)⟩,⟨4,0,32,0,0⟩]
 else if 5<=i.op/\i.op<=10 then[⟨100+i.op,0,i.r1,i.r2,lo (a+lo i.im)⟩]
 else if 11<=i.op/\i.op<=15 then[⟨200+i.op,i.rd,i.r1,0,lo i.im⟩]
 else if 16<=i.op/\i.op<=18 then[⟨300+i.op,0,i.r1,i.r2,lo i.im⟩]
 else if i.op=19/\(i.r1=0\/i.rd=0)then[⟨2,i.rd,0,0,lo i.im⟩]
 else if 19<=i.op/\i.op<=27 then[⟨500+opn i.op,i.rd,i.r1,0,lo i.im⟩]
 else if 28<=i.op/\i.op<=45 then[⟨400+i.op,i.rd,i.r1,i.r2,0⟩]
 else if 46<=i.op/\i.op<=56 then[⟨600+i.op,i.rd,i.r1,i.r2,0⟩]
 else if i.op=58 then[⟨5,0,0,0,0⟩]else if i.op=59 then[⟨6,0,0,0,0⟩]else[]
structure Iv.In (i:Iv):Prop where
 o1:1<=i.op
 o2:i.op<=59
 d0:0<=i.rd
 d1:i.rd<32
 a0:0<=i.r1
 a1:i.r1<32
 b0:0<=i.r2
 b1:i.r2<32
theorem SX {r1 r2 im:Int}(hd0:0<=rd)(hr:rd<32)(ho:op=19)(h:r1=0\/rd=0):iy bf bt steps a op rd r1 r2 im [⟨2,rd,0,0,lo im⟩]:=fun q ov ok st z hh hl=>by
 rw[fF ov];have e:ja bf bt steps q ⟨2,rd,0,0,lo im⟩=q.put rd (lo im):=by unfold ja;rw[at6 (by simp),at7 rfl]
 have hE:fT (q.h.go a) q.m op (rg q.h r1.toNat) (rg q.h r2.toNat) (lo im)=⟨q.h.go a,q.m,[],[],some (eT 28 (rg q.h r1.toNat) (lo im))⟩:=by
  subst ho;unfold fT;rw[ak,ak,ak,ak,ak,dU];rfl
 have e2:q.put rd (lo im)=q.put rd (eT 28 (rg q.h r1.toNat) (lo im)):=by
  rcases h with rfl|rfl
  ·have:eT 28 (rg q.h (0:Int).toNat) (lo im)=lo im:=by
    show eT 28 (rg q.h 0) (lo im)=lo im
    rw[z,FQ,Int.zero_add];exact WR (W.lo _)
   rw[this]
  ·rw[kN q (by omega),kN q (by omega)];rfl
 rw[e,e2];exact⟨pE ok ov st hh hr (W.eT (ok.h.reg _) (W.lo _)) hE (by omega),pF (op:=op) (bf:=bf) (bt:=bt) (a:=a) ov⟩
theorem SY (h:i.In):iy bf bt steps a i.op i.rd i.r1 i.r2 i.im (CG a i):=by
 obtain⟨o1,o2,d0,d1,a0,a1,b0,b1⟩:=h;unfold CG;by_cases h0:i.op=1
 ·rw[at7 h0];exact Me d1 h0
 rw[at6 h0];by_cases h1:i.op=2
 ·rw[at7 h1];exact Di d1 h1
 rw[at6 h1];by_cases h2:i.op=3
 ·rw[at7 h2];exact Mk d1 h2
 rw[at6 h2];by_cases h3:i.op=4
 ·rw[at7 h3];exact Dn 32 (by omega) (by omega) d1 a1 h3
 rw[at6 h3];by_cases h4:5<=i.op/\i.op<=10
 ·rw[at7 h4];exact Sn a1 b1 h4
 rw[at6 h4];by_cases h5:11<=i.op/\i.op<=15
 ·rw[at7 h5];exact Sl d1 a1 h5
 rw[at6 h5];by_cases h6:16<=i.op/\i.op<=18
 ·rw[at7 h6];exact Sm a1 b1 h6
 rw[at6 h6];by_cases h7:i.op=19/\(i.r1=0\/i.rd=0)
 ·rw[at7 h7];exact SX d0 d1 h7.1 h7.2
 rw[at6 h7];by_cases h8:19<=i.op/\i.op<=27
 ·rw[at7 h8];exact Mg d1 a1 h8
 rw[at6 h8];by_cases h9:28<=i.op/\i.op<=45
 ·rw[at7 h9];exact Mf d1 a1 b1 h9
 rw[at6 h9];by_cases h10:46<=i.op/\i.op<=56
 ·rw[at7 h10];exact IE d1 a1 b1 h10
 rw[at6 h10];by_cases h11:i.op=58
 ·rw[at7 h11];exact IC h11
 rw[at6 h11];by_cases h12:i.op=59
 ·rw[at7 h12];exact Dk h12
 rw[at6 h12];exact Dj (by omega)
theorem lN {i:Mv}{nm:Int}(hn:named i.op=nm)(h0:0<=nm)(hN:8<=nm\/i.n=0)(hd:(nm%2=1\/i.d=0)/\0<=i.d/\i.d<36)(ha:(nm/2%2=1\/i.a=0)/\0<=i.a/\i.a<36)(hb:(nm/4%2=1\/i.b=0)/\0<=i.b/\i.b<36):dZ i=true:=by unfold dZ bR;rw[hn];simp only[apD,auk];exact⟨h0,hN,hd,ha,hb⟩
theorem ac3 (h:5<=op/\op<=10):named (100+op)=14:=by unfold named;rw[ak,ak,ak,ak,dU]
theorem ac4 (h:11<=op/\op<=15):named (200+op)=11:=by unfold named;rw[ak,ak,ak,ak,ak,dU]
theorem ac5 (h:16<=op/\op<=18):named (300+op)=14:=by unfold named;rw[ak,ak,ak,ak,ak,ak,dU]
theorem YZ (h:28<=op/\op<=45):named (400+op)=7:=by unfold named;rw[ak,ak,ak,ak,ak,ak,ak,dU]
theorem Y0 (h:28<=op/\op<=45):named (500+op)=11:=by unfold named;rw[ak,ak,ak,ak,ak,ak,ak,ak,dU]
theorem Y1 (h:46<=op/\op<=56):named (600+op)=7:=by unfold named;rw[ak,ak,ak,ak,ak,ak,ak,ak,ak,dU]
theorem Y2 (op:Int):28<=opn op/\opn op<=45:=by unfold opn;(repeat' split)<;>omega
def Mv.Dt (i:Mv):Prop:=dZ i=true/\W i.n/\(0<=i.op/\i.op<=700)
theorem fe {P:Mv->Prop}{y:Mv}(h:P y):∀x∈[y],P x:=fun x hx=>by rw[apE]at hx;subst hx;exact h
theorem z1:(0:Int)<=0:=by decide
theorem z2:(0:Int)<36:=by decide
theorem z3 (n:Int)(h:(0:Int)<=n):0<=n:=h
theorem z4 (n:Int)(h:n<=700):n<=700:=h
theorem z5:(32:Int)<36:=by decide
theorem MQ {n:Int}(d0:0<=rd)(d1:rd<32)(hn:W n):Mv.Dt ⟨2,rd,0,0,n⟩:=⟨lN (nm:=9) (by show named 2=9;decide) (by omega) (by left;omega) ⟨.inl (by decide),d0,by show rd<36;omega⟩ ⟨.inr rfl,z1,z2⟩ ⟨.inr rfl,z1,z2⟩,hn,z3 2 (by decide),z4 2 (by decide)⟩
theorem FT (h:i.In):(∀x∈CG a i,Mv.Dt x)/\(CG a i).length<=3:=by
 obtain⟨o1,o2,d0,d1,a0,a1,b0,b1⟩:=h;have w0:W 0:=by unfold W;omega
 have hop:=Y2 i.op;have MR:∀n,W n->Mv.Dt ⟨2,i.rd,0,0,n⟩:=fun n hn=>MQ d0 d1 hn
 unfold CG;by_cases h0:i.op=1
 ·rw[at7 h0];exact⟨fe (MR _ (W.lo _)),by simp⟩
 rw[at6 h0];by_cases h1:i.op=2
 ·rw[at7 h1];exact⟨fe (MR _ (W.lo _)),by simp⟩
 rw[at6 h1];by_cases h2:i.op=3
 ·rw[at7 h2];refine⟨fun x hx=>?_,by simp⟩;rcases apx.1 hx with rfl|hx
  ·exact MR _ (W.lo _)
  ·refine fe (P:=Mv.Dt) ?_ x hx;exact⟨lN (nm:=8) (by show named 3=8;decide) (by omega) (by left;omega) ⟨.inr rfl,z1,z2⟩ ⟨.inr rfl,z1,z2⟩ ⟨.inr rfl,z1,z2⟩,W.lo _,z3 3 (by decide),z4 3 (by decide)⟩
 rw[at6 h2];by_cases h3:i.op=4
 ·rw[at7 h3];refine⟨fun x hx=>?_,by simp⟩;rcases apx.1 hx with rfl|hx
  ·exact⟨lN (nm:=11) (by show named 528=11;decide) (by omega) (by left;omega) ⟨.inl (by decide),z3 32 (by decide),z5⟩ ⟨.inl (by decide),a0,by show i.r1<36;omega⟩ ⟨.inr rfl,z1,z2⟩,W.lo _,z3 528 (by decide),z4 528 (by decide)⟩
  rcases apx.1 hx with rfl|hx
  ·exact MR _ (W.lo _)
  ·refine fe (P:=Mv.Dt) ?_ x hx;exact⟨lN (nm:=10) (by show named 4=10;decide) (by omega) (by left;omega) ⟨.inr rfl,z1,z2⟩ ⟨.inl (by decide),z3 32 (by decide),z5⟩ ⟨.inr rfl,z1,z2⟩,w0,z3 4 (by decide),z4 4 (by decide)⟩
 rw[at6 h3];by_cases h4:5<=i.op/\i.op<=10
 ·rw[at7 h4];exact⟨fe ⟨lN (nm:=14) (ac3 h4) (by omega) (by left;omega) ⟨.inr rfl,z1,z2⟩ ⟨.inl (by decide),a0,by show i.r1<36;omega⟩ ⟨.inl (by decide),b0,by show i.r2<36;omega⟩,W.lo _,by show(0:Int)<=100+i.op;omega,by show 100+i.op<=700;omega⟩,by simp⟩
 rw[at6 h4];by_cases h5:11<=i.op/\i.op<=15
 ·rw[at7 h5];exact⟨fe ⟨lN (nm:=11) (ac4 h5) (by omega) (by left;omega) ⟨.inl (by decide),d0,by show i.rd<36;omega⟩ ⟨.inl (by decide),a0,by show i.r1<36;omega⟩ ⟨.inr rfl,z1,z2⟩,W.lo _,by show(0:Int)<=200+i.op;omega,by show 200+i.op<=700;omega⟩,by simp⟩
 rw[at6 h5];by_cases h6:16<=i.op/\i.op<=18
 ·rw[at7 h6];exact⟨fe ⟨lN (nm:=14) (ac5 h6) (by omega) (by left;omega) ⟨.inr rfl,z1,z2⟩ ⟨.inl (by decide),a0,by show i.r1<36;omega⟩ ⟨.inl (by decide),b0,by show i.r2<36;omega⟩,W.lo _,by show(0:Int)<=300+i.op;omega,by show 300+i.op<=700;omega⟩,by simp⟩
 rw[at6 h6];by_cases h7:i.op=19/\(i.r1=0\/i.rd=0)
 ·rw[at7 h7];exact⟨fe (MR _ (W.lo _)),by simp⟩
 rw[at6 h7];by_cases h8:19<=i.op/\i.op<=27
 ·rw[at7 h8];exact⟨fe ⟨lN (nm:=11) (Y0 hop) (by omega) (by left;omega) ⟨.inl (by decide),d0,by show i.rd<36;omega⟩ ⟨.inl (by decide),a0,by show i.r1<36;omega⟩ ⟨.inr rfl,z1,z2⟩,W.lo _,by show(0:Int)<=500+opn i.op;omega,by show 500+opn i.op<=700;omega⟩,by simp⟩
 rw[at6 h8];by_cases h9:28<=i.op/\i.op<=45
 ·rw[at7 h9];exact⟨fe ⟨lN (nm:=7) (YZ h9) (by omega) (by right;rfl) ⟨.inl (by decide),d0,by show i.rd<36;omega⟩ ⟨.inl (by decide),a0,by show i.r1<36;omega⟩ ⟨.inl (by decide),b0,by show i.r2<36;omega⟩,w0,by show(0:Int)<=400+i.op;omega,by show 400+i.op<=700;omega⟩,by simp⟩
 rw[at6 h9];by_cases h10:46<=i.op/\i.op<=56
 ·rw[at7 h10];exact⟨fe ⟨lN (nm:=7) (Y1 h10) (by omega) (by right;rfl) ⟨.inl (by decide),d0,by show i.rd<36;omega⟩ ⟨.inl (by decide),a0,by show i.r1<36;omega⟩ ⟨.inl (by decide),b0,by show i.r2<36;omega⟩,w0,by show(0:Int)<=600+i.op;omega,by show 600+i.op<=700;omega⟩,by simp⟩
 rw[at6 h10];by_cases h11:i.op=58
 ·rw[at7 h11];exact⟨fe ⟨by decide,w0,by decide,by decide⟩,by simp⟩
 rw[at6 h11];by_cases h12:i.op=59
 ·rw[at7 h12];exact⟨fe ⟨by decide,w0,by decide,by decide⟩,by simp⟩
 rw[at6 h12];exact⟨fun x hx=>(by cases hx),by simp⟩
def aS (pc:Int):List Iv→Nat→List Mv
 | [],_=>[]
 |i::is,k=>⟨1,0,0,0,at4 pc k⟩::(CG (at4 pc k) i++aS pc is (k+1))
theorem uh (pc:Int)(i:Iv):∀(is:List Iv) (k:Nat),aS pc (is++[i]) k=aS pc is k++(⟨1,0,0,0,at4 pc (k+is.length)⟩::CG (at4 pc (k+is.length)) i)
 | [],k=>by simp[aS]
 |j::is,k=>by
  show _::(_++aS pc (is++[i]) (k+1))=_
  rw[uh pc i is (k+1)];simp[aS,show k+1+is.length=k+(is.length+1)by omega]
theorem S9 (a:Int)(h:W a):Mv.Dt ⟨1,0,0,0,a⟩:=⟨lN (nm:=8) (by show named 1=8;decide) (by omega) (by left;omega) ⟨.inr rfl,z1,z2⟩ ⟨.inr rfl,z1,z2⟩ ⟨.inr rfl,z1,z2⟩,h,z3 1 (by decide),z4 1 (by decide)⟩
theorem ji (pc:Int):∀(is:List Iv) (k:Nat),(∀i∈is,i.In)→(∀x∈aS pc is k,Mv.Dt x)∧(aS pc is k).length≤4*is.length
 | [],k,_=>⟨fun x hx=>(by cases hx),by simp[aS]⟩
 |i::is,k,h=>by
  obtain⟨m1,m2⟩:=FT (a:=at4 pc k) (h i (by simp));obtain⟨c1,c2⟩:=ji pc is (k+1) (fun j hj=>h j (by simp[hj]));refine⟨fun x hx=>?_,?_⟩
  ·simp only[aS,apx,apR]at hx;rcases hx with rfl|hx|hx
   ·exact S9 _ (yn pc k)
   ·exact m1 x hx
   ·exact c1 x hx
  ·simp only[aS,apH,apo];omega
theorem I6 (pc:Int){is:List Iv}(h:∀i∈is,i.In)(hl:is.length<=16):nZ (aS pc is 0)=true:=by obtain⟨c1,c2⟩:=ji pc is 0 h;unfold nZ;simp only[apD,auk,apM];exact⟨by omega,fun x hx=>(c1 x hx).1⟩
def ui (x:Int):Iv:=⟨Dc.aO x,Dc.iF (Dc.aJ (Dc.aO x)) x,Dc.bZ (Dc.aJ (Dc.aO x)) x,Dc.bV (Dc.aJ (Dc.aO x)) x,Dc.bS (Dc.aJ (Dc.aO x)) x⟩
theorem Du {x:Int}(h0:0<=x)(h1:x<4294967296)(hx:¬Dc.aO x=0):(ui x).In:=by have:=Re.yu h0 h1;have a:=wO (Dc.aJ (Dc.aO x)) x;have b:=MC (Dc.aJ (Dc.aO x)) x;have c:=ME (Dc.aJ (Dc.aO x)) x;exact⟨by show 1<=Dc.aO x;omega,by show Dc.aO x<=59;omega,a.1,a.2,b.1,b.2,c.1,c.2⟩
end Ts
namespace Mc
open Mm Hh

structure Sh where
 hs:List Hv
 m:List UInt8
 out:List Int
 steps:Nat
def hN:Hv:=⟨[],0,false,0,1,0⟩
def near (x f k:Int):Bool:=decide (0<k/\f<x+4/\x<f+k)
def pJ (x:Int) (ss:List (Int×Int)):Bool:=ss.any fun p=>near x p.1 p.2
def j6 (ss:List (Int×Int)) (h:Hv):Hv:=if h.held=true/\pJ h.aP ss=true then h.hold false 0 else h
def dF (k:Nat) (ss:List (Int×Int)) (hs:List Hv):List Hv:=hs.mapIdx fun j h=>if j=k then h else j6 ss h
def at' (s:Sh) (k:Nat):Hv:=s.hs.getD k hN
def bW (s:Sh) (k:Nat):Sh:=⟨dF k (dV (at' s k) s.m).av (s.hs.set k (dV (at' s k) s.m).h),(dV (at' s k) s.m).m,s.out++(dV (at' s k) s.m).out,s.steps+1⟩
def runs (s:Sh) (k:Nat):Nat→Sh
 |0=>s
 |n+1=>if(at' s k).state=0 then runs (bW s k) k n else s
def aL (s:Sh) (sc:List (Nat×Nat)):Sh:=sc.foldl (fun s p=>runs s p.1 p.2) s
theorem qO {s:Sh}{k:Nat}(h:¬(at' s k).state=0):∀n,runs s k n=s
 |0=>rfl
 |n+1=>at6 h
theorem AQ (k b:Nat):∀(a:Nat) (s:Sh),runs s k (a+b)=runs (runs s k a) k b
 |0,s=>by rw[apu];rfl
 |a+1,s=>by
  have e1:∀t,runs s k (t+1)=if(at' s k).state=0 then runs (bW s k) k t else s:=fun t=>rfl
  rw[Nat.succ_add,e1,e1];split
  ·rw[AQ k b a]
  ·rename_i h;exact(qO h b).symm
theorem uj (s:Sh)(a b:List (Nat×Nat)):aL s (a++b)=aL (aL s a) b:=aqy
theorem jc (s:Sh)(p:Nat×Nat)(r:List (Nat×Nat)):aL s (p::r)=aL (runs s p.1 p.2) r:=rfl
structure Fit (s:Sh) (c n:Nat):Prop where
 len:s.hs.length=c
 mem:s.m.length=n
 ok:∀h∈s.hs,h.Ok/\may h=true
theorem I7 (ss:List (Int×Int)){h:Hv}(o:h.Ok)(m:may h=true):(j6 ss h).Ok/\may (j6 ss h)=true:=by
 unfold j6;split
 ·refine⟨o.hold false (x:=0) (by omega) (by omega),?_⟩;simp only[may,auk]at m ⊢;exact⟨m.1,fun _=>rfl,m.2.2⟩
 ·exact⟨o,m⟩
theorem eD (k:Nat)(ss:List (Int×Int))(hs:List Hv):(dF k ss hs).length=hs.length:=by simp[dF]
theorem dM (k:Nat)(ss:List (Int×Int))(hs:List Hv)(j:Nat):(dF k ss hs)[j]?=hs[j]?.map fun h=>if j=k then h else j6 ss h:=by simp[dF,List.getElem?_mapIdx]
theorem dH {l:List Hv}{j:Nat}{h:Hv}(e:l[j]?=some h):h∈l:=aps e
theorem kg {s:Sh}{c n k:Nat}(f:Fit s c n)(hk:k<c)(hr:(at' s k).state=0):Fit (bW s k) c n:=by
 have hl:k<s.hs.length:=by rw[f.len];exact hk
 have eh:s.hs[k]?=some (at' s k):=by unfold at';rw[api hl];simp[List.getD,hl]
 obtain⟨ok,mk⟩:=f.ok _ (dH eh);have g:=lJ (Ak mk hr) s.m;have so:=LX ok s.m;refine⟨by simp[bW,eD,f.len],by simp only[bW];rw[g.2.1,f.mem],fun h hm=>?_⟩;obtain⟨j,hj⟩:=List.getElem?_of_mem hm;simp only[bW]at hj;rw[dM,ap1]at hj;by_cases e:k=j
 ·subst e;simp only[if_true,hl,ap7]at hj;obtain rfl:=aum hj;exact⟨so,g.1⟩
 ·simp only[e,avm]at hj;cases hq:s.hs[j]? with
  |none=>rw[hq]at hj;cases hj
  |some q=>
   rw[hq]at hj;obtain⟨a,b⟩:=f.ok q (dH hq);have e2:¬j=k:=fun x=>e x.symm
   simp only[ap7,e2,avm]at hj;obtain rfl:=aum hj;exact I7 _ a b
theorem pK {c n k:Nat}(hk:k<c):∀(t:Nat) {s:Sh},Fit s c n→Fit (runs s k t) c n
 |0,s,f=>f
 |t+1,s,f=>by
  unfold runs;split
  ·exact pK hk t (kg f hk (by assumption))
  ·exact f
theorem pM {c n:Nat}:∀(sc:List (Nat×Nat)) {s:Sh},(∀p∈sc,p.1<c)→Fit s c n→Fit (aL s sc) c n
 | [],s,_,f=>f
 |p::r,s,h,f=>by
  rw[jc];exact pM r (fun q hq=>h q (by simp[hq])) (pK (h p (by simp)) p.2 f)
end Mc
end Go.Proofs.YtiadhbmnfjfioaaGreatDoor
