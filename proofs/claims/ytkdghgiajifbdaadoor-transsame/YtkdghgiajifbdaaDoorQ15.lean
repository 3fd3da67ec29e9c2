/-
  Walks3, Walks4, Hm5, Bp, Bk, Hf, Hm6, MemArgs: texts of ours that lie in one file.
-/
import Derived.Test.YtkdghgiajifbdaaDoorQ14
import Derived.Test.YtkdghgiajifbdaaDoorQ11
import Derived.Test.YtkdghgiajifbdaaDoorQ02
import Derived.Test.YtkdghgiajifbdaaDoorQ03
import Derived.Test.YtkdghgiajifbdaaDoorQ09
import Derived.Deep.RegionHeld3
import Derived.Test.YtkdghgiajifbdaaDoorQ01
import Derived.ProofKit
import Derived.SizedLaws
set_option linter.unusedVariables false
set_option linter.unusedSimpArgs false
set_option maxHeartbeats 8000000
set_option maxRecDepth 100000
namespace Go.Proofs.YtkdghgiajifbdaaDoor.Dw
open Go.ChangeShapes Go.WideShapes Go.ChangeAt Go.RowKit

def insV (op rd rs1 rs2 imm:Int):Value:=.agg #[.int .i64 op,.int .i64 rd,.int .i64 rs1,.int .i64 rs2,.int .i32 imm]
theorem fresh_of {w w1:World}{c:Array Value}{t:TypeId}(g:Gr (w.alloc (.cells c t)) w1):
  (∀i v,c[i]?=some v→w1.cell? ⟨w.heap.size,i,none⟩=some v)∧(∀i,w1.frozen? ⟨w.heap.size,i,none⟩=false)∧w.heap.size<w1.heap.size:=by
 have hs:(w.alloc (.cells c t)).heap.size=w.heap.size+1:=by simp
 refine ⟨fun i v h=>?_,fun i=>?_,by have:=g.size;omega⟩
 ·rw [g.cell _ _ (by omega),World.cell?_alloc_new,h]
 ·rw [g.2,frozen?_alloc_cells]
  simp [World.frozen?]
theorem taken_rd (a:Int)(w:World)(h0:0≤a)(h1:a<4294967296):Calls Tryd.prog 60 #[.int .u32 a,.int .i64 7,.int .i64 5] w fun e w'=>e=.returned (.int .u32 (a/128%32))∧∃m,w'=w.drewN m:=taken_as a 7 5 _ w h0 h1 (by omega) (by omega) (by omega) (by omega) rfl
theorem taken_rs1 (a:Int)(w:World)(h0:0≤a)(h1:a<4294967296):Calls Tryd.prog 60 #[.int .u32 a,.int .i64 15,.int .i64 5] w fun e w'=>e=.returned (.int .u32 (a/32768%32))∧∃m,w'=w.drewN m:=taken_as a 15 5 _ w h0 h1 (by omega) (by omega) (by omega) (by omega) rfl
theorem taken_rs2 (a:Int)(w:World)(h0:0≤a)(h1:a<4294967296):Calls Tryd.prog 60 #[.int .u32 a,.int .i64 20,.int .i64 5] w fun e w'=>e=.returned (.int .u32 (a/1048576%32))∧∃m,w'=w.drewN m:=taken_as a 20 5 _ w h0 h1 (by omega) (by omega) (by omega) (by omega) rfl
def Read (f:Int):Prop:=∀(k a:Int) (w:World),Tab w→0≤a→a<4294967296→Calls Tryd.prog 34 #[.int .i64 k,.int .i64 f,.int .u32 a] w fun e w'=>e=.returned (insV k (Dc.rdF f a) (Dc.rs1F f a) (Dc.rs2F f a) (Dc.immF f a))∧Gr w w'
theorem read_0:Read 0:=by
 intro k a w T h0 h1
 go_enter Tryd.func34,Tryd.ntmps34
 go_wp2_with fail
 refine (readImm_0 a _ (T.of ((Gr.refl _).alloc _ _)) h0 h1).mono ?_
 rintro e w1 ⟨rfl,g⟩
 have T1:=(T.of ((Gr.refl _).alloc _ _)).of g
 have b0:0<w1.heap.size:=lt_of_cell (T1.shapes 0 _ rfl)
 have c1:w1.cell? ⟨0,1,none⟩=some (.bool false):=T1.shapes 1 _ rfl
 have c2:w1.cell? ⟨0,2,none⟩=some (.bool false):=T1.shapes 2 _ rfl
 have c3:w1.cell? ⟨0,3,none⟩=some (.bool false):=T1.shapes 3 _ rfl
 obtain ⟨f1,f2,f3⟩:=fresh_of g
 have r0:=f1 0 _ rfl
 have r1:=f1 1 _ rfl
 have r2:=f1 2 _ rfl
 have r3:=f1 3 _ rfl
 have r4:=f1 4 _ rfl
 have G:Hid (Gr w w1):=((Gr.refl _).alloc _ _).trans g
 clear f1 T1 g T
 go_wp2_with fail
 refine bodyPost_ret (v:=insV k (Dc.rdF 0 a) (Dc.rs1F 0 a) (Dc.rs2F 0 a) (Dc.immF 0 a)) (by simp [results,Tryd.results34,go_sem,r0,r1,r2,r3,r4,f3,insV,Dc.rdF,Dc.rs1F,Dc.rs2F,Dc.hasRd,Dc.hasRs1,Dc.hasRs2]) rfl ⟨rfl,?_⟩
 have Z:=G.out
 exact (((((Z.setCell (by simp) _).setCell (by simp) _).setCell (by simp) _).setCell (by simp) _).setCell (by simp) _).alloc _ _
theorem read_1:Read 1:=by
 intro k a w T h0 h1
 go_enter Tryd.func34,Tryd.ntmps34
 go_wp2_with fail
 refine (readImm_1 a _ (T.of ((Gr.refl _).alloc _ _)) h0 h1).mono ?_
 rintro e w1 ⟨rfl,g⟩
 have T1:=(T.of ((Gr.refl _).alloc _ _)).of g
 have b0:0<w1.heap.size:=lt_of_cell (T1.shapes 0 _ rfl)
 have c1:w1.cell? ⟨0,18,none⟩=some (.bool true):=T1.shapes 18 _ rfl
 have c2:w1.cell? ⟨0,19,none⟩=some (.bool false):=T1.shapes 19 _ rfl
 have c3:w1.cell? ⟨0,20,none⟩=some (.bool false):=T1.shapes 20 _ rfl
 obtain ⟨f1,f2,f3⟩:=fresh_of g
 have r0:=f1 0 _ rfl
 have r1:=f1 1 _ rfl
 have r2:=f1 2 _ rfl
 have r3:=f1 3 _ rfl
 have r4:=f1 4 _ rfl
 have G:Hid (Gr w w1):=((Gr.refl _).alloc _ _).trans g
 clear f1 T1 g T
 go_wp2_with fail
 refine (taken_rd a _ h0 h1).mono ?_
 rintro e w' ⟨rfl,m_rd,rfl⟩
 go_wp2_with fail
 refine bodyPost_ret (v:=insV k (Dc.rdF 1 a) (Dc.rs1F 1 a) (Dc.rs2F 1 a) (Dc.immF 1 a)) (by simp [results,Tryd.results34,go_sem,r0,r1,r2,r3,r4,f3,insV,Dc.rdF,Dc.rs1F,Dc.rs2F,Dc.hasRd,Dc.hasRs1,Dc.hasRs2]) rfl ⟨rfl,?_⟩
 have Z:=G.out
 exact ((((((((Z.alloc _ _).drewN _).setCell (by simp;omega) _).setCell (by simp) _).setCell (by simp) _).setCell (by simp) _).setCell (by simp) _).setCell (by simp) _)
theorem read_2:Read 2:=by
 intro k a w T h0 h1
 go_enter Tryd.func34,Tryd.ntmps34
 go_wp2_with fail
 refine (readImm_2 a _ (T.of ((Gr.refl _).alloc _ _)) h0 h1).mono ?_
 rintro e w1 ⟨rfl,g⟩
 have T1:=(T.of ((Gr.refl _).alloc _ _)).of g
 have b0:0<w1.heap.size:=lt_of_cell (T1.shapes 0 _ rfl)
 have c1:w1.cell? ⟨0,35,none⟩=some (.bool true):=T1.shapes 35 _ rfl
 have c2:w1.cell? ⟨0,36,none⟩=some (.bool false):=T1.shapes 36 _ rfl
 have c3:w1.cell? ⟨0,37,none⟩=some (.bool false):=T1.shapes 37 _ rfl
 obtain ⟨f1,f2,f3⟩:=fresh_of g
 have r0:=f1 0 _ rfl
 have r1:=f1 1 _ rfl
 have r2:=f1 2 _ rfl
 have r3:=f1 3 _ rfl
 have r4:=f1 4 _ rfl
 have G:Hid (Gr w w1):=((Gr.refl _).alloc _ _).trans g
 clear f1 T1 g T
 go_wp2_with fail
 refine (taken_rd a _ h0 h1).mono ?_
 rintro e w' ⟨rfl,m_rd,rfl⟩
 go_wp2_with fail
 refine bodyPost_ret (v:=insV k (Dc.rdF 2 a) (Dc.rs1F 2 a) (Dc.rs2F 2 a) (Dc.immF 2 a)) (by simp [results,Tryd.results34,go_sem,r0,r1,r2,r3,r4,f3,insV,Dc.rdF,Dc.rs1F,Dc.rs2F,Dc.hasRd,Dc.hasRs1,Dc.hasRs2]) rfl ⟨rfl,?_⟩
 have Z:=G.out
 exact ((((((((Z.alloc _ _).drewN _).setCell (by simp;omega) _).setCell (by simp) _).setCell (by simp) _).setCell (by simp) _).setCell (by simp) _).setCell (by simp) _)
theorem read_3:Read 3:=by
 intro k a w T h0 h1
 go_enter Tryd.func34,Tryd.ntmps34
 go_wp2_with fail
 refine (readImm_3 a _ (T.of ((Gr.refl _).alloc _ _)) h0 h1).mono ?_
 rintro e w1 ⟨rfl,g⟩
 have T1:=(T.of ((Gr.refl _).alloc _ _)).of g
 have b0:0<w1.heap.size:=lt_of_cell (T1.shapes 0 _ rfl)
 have c1:w1.cell? ⟨0,52,none⟩=some (.bool true):=T1.shapes 52 _ rfl
 have c2:w1.cell? ⟨0,53,none⟩=some (.bool true):=T1.shapes 53 _ rfl
 have c3:w1.cell? ⟨0,54,none⟩=some (.bool false):=T1.shapes 54 _ rfl
 obtain ⟨f1,f2,f3⟩:=fresh_of g
 have r0:=f1 0 _ rfl
 have r1:=f1 1 _ rfl
 have r2:=f1 2 _ rfl
 have r3:=f1 3 _ rfl
 have r4:=f1 4 _ rfl
 have G:Hid (Gr w w1):=((Gr.refl _).alloc _ _).trans g
 clear f1 T1 g T
 go_wp2_with fail
 refine (taken_rd a _ h0 h1).mono ?_
 rintro e w' ⟨rfl,m_rd,rfl⟩
 go_wp2_with fail
 refine (taken_rs1 a _ h0 h1).mono ?_
 rintro e w' ⟨rfl,m_rs1,rfl⟩
 go_wp2_with fail
 refine bodyPost_ret (v:=insV k (Dc.rdF 3 a) (Dc.rs1F 3 a) (Dc.rs2F 3 a) (Dc.immF 3 a)) (by simp [results,Tryd.results34,go_sem,r0,r1,r2,r3,r4,f3,insV,Dc.rdF,Dc.rs1F,Dc.rs2F,Dc.hasRd,Dc.hasRs1,Dc.hasRs2]) rfl ⟨rfl,?_⟩
 have Z:=G.out
 exact ((((((((((Z.alloc _ _).drewN _).setCell (by simp;omega) _).drewN _).setCell (by simp;omega) _).setCell (by simp) _).setCell (by simp) _).setCell (by simp) _).setCell (by simp) _).setCell (by simp) _)
theorem read_4:Read 4:=by
 intro k a w T h0 h1
 go_enter Tryd.func34,Tryd.ntmps34
 go_wp2_with fail
 refine (readImm_4 a _ (T.of ((Gr.refl _).alloc _ _)) h0 h1).mono ?_
 rintro e w1 ⟨rfl,g⟩
 have T1:=(T.of ((Gr.refl _).alloc _ _)).of g
 have b0:0<w1.heap.size:=lt_of_cell (T1.shapes 0 _ rfl)
 have c1:w1.cell? ⟨0,69,none⟩=some (.bool true):=T1.shapes 69 _ rfl
 have c2:w1.cell? ⟨0,70,none⟩=some (.bool true):=T1.shapes 70 _ rfl
 have c3:w1.cell? ⟨0,71,none⟩=some (.bool false):=T1.shapes 71 _ rfl
 obtain ⟨f1,f2,f3⟩:=fresh_of g
 have r0:=f1 0 _ rfl
 have r1:=f1 1 _ rfl
 have r2:=f1 2 _ rfl
 have r3:=f1 3 _ rfl
 have r4:=f1 4 _ rfl
 have G:Hid (Gr w w1):=((Gr.refl _).alloc _ _).trans g
 clear f1 T1 g T
 go_wp2_with fail
 refine (taken_rd a _ h0 h1).mono ?_
 rintro e w' ⟨rfl,m_rd,rfl⟩
 go_wp2_with fail
 refine (taken_rs1 a _ h0 h1).mono ?_
 rintro e w' ⟨rfl,m_rs1,rfl⟩
 go_wp2_with fail
 refine bodyPost_ret (v:=insV k (Dc.rdF 4 a) (Dc.rs1F 4 a) (Dc.rs2F 4 a) (Dc.immF 4 a)) (by simp [results,Tryd.results34,go_sem,r0,r1,r2,r3,r4,f3,insV,Dc.rdF,Dc.rs1F,Dc.rs2F,Dc.hasRd,Dc.hasRs1,Dc.hasRs2]) rfl ⟨rfl,?_⟩
 have Z:=G.out
 exact ((((((((((Z.alloc _ _).drewN _).setCell (by simp;omega) _).drewN _).setCell (by simp;omega) _).setCell (by simp) _).setCell (by simp) _).setCell (by simp) _).setCell (by simp) _).setCell (by simp) _)
theorem read_5:Read 5:=by
 intro k a w T h0 h1
 go_enter Tryd.func34,Tryd.ntmps34
 go_wp2_with fail
 refine (readImm_5 a _ (T.of ((Gr.refl _).alloc _ _)) h0 h1).mono ?_
 rintro e w1 ⟨rfl,g⟩
 have T1:=(T.of ((Gr.refl _).alloc _ _)).of g
 have b0:0<w1.heap.size:=lt_of_cell (T1.shapes 0 _ rfl)
 have c1:w1.cell? ⟨0,86,none⟩=some (.bool false):=T1.shapes 86 _ rfl
 have c2:w1.cell? ⟨0,87,none⟩=some (.bool true):=T1.shapes 87 _ rfl
 have c3:w1.cell? ⟨0,88,none⟩=some (.bool true):=T1.shapes 88 _ rfl
 obtain ⟨f1,f2,f3⟩:=fresh_of g
 have r0:=f1 0 _ rfl
 have r1:=f1 1 _ rfl
 have r2:=f1 2 _ rfl
 have r3:=f1 3 _ rfl
 have r4:=f1 4 _ rfl
 have G:Hid (Gr w w1):=((Gr.refl _).alloc _ _).trans g
 clear f1 T1 g T
 go_wp2_with fail
 refine (taken_rs1 a _ h0 h1).mono ?_
 rintro e w' ⟨rfl,m_rs1,rfl⟩
 go_wp2_with fail
 refine (taken_rs2 a _ h0 h1).mono ?_
 rintro e w' ⟨rfl,m_rs2,rfl⟩
 go_wp2_with fail
 refine bodyPost_ret (v:=insV k (Dc.rdF 5 a) (Dc.rs1F 5 a) (Dc.rs2F 5 a) (Dc.immF 5 a)) (by simp [results,Tryd.results34,go_sem,r0,r1,r2,r3,r4,f3,insV,Dc.rdF,Dc.rs1F,Dc.rs2F,Dc.hasRd,Dc.hasRs1,Dc.hasRs2]) rfl ⟨rfl,?_⟩
 have Z:=G.out
 exact ((((((((((Z.alloc _ _).drewN _).setCell (by simp;omega) _).drewN _).setCell (by simp;omega) _).setCell (by simp) _).setCell (by simp) _).setCell (by simp) _).setCell (by simp) _).setCell (by simp) _)
theorem read_6:Read 6:=by
 intro k a w T h0 h1
 go_enter Tryd.func34,Tryd.ntmps34
 go_wp2_with fail
 refine (readImm_6 a _ (T.of ((Gr.refl _).alloc _ _)) h0 h1).mono ?_
 rintro e w1 ⟨rfl,g⟩
 have T1:=(T.of ((Gr.refl _).alloc _ _)).of g
 have b0:0<w1.heap.size:=lt_of_cell (T1.shapes 0 _ rfl)
 have c1:w1.cell? ⟨0,103,none⟩=some (.bool false):=T1.shapes 103 _ rfl
 have c2:w1.cell? ⟨0,104,none⟩=some (.bool true):=T1.shapes 104 _ rfl
 have c3:w1.cell? ⟨0,105,none⟩=some (.bool true):=T1.shapes 105 _ rfl
 obtain ⟨f1,f2,f3⟩:=fresh_of g
 have r0:=f1 0 _ rfl
 have r1:=f1 1 _ rfl
 have r2:=f1 2 _ rfl
 have r3:=f1 3 _ rfl
 have r4:=f1 4 _ rfl
 have G:Hid (Gr w w1):=((Gr.refl _).alloc _ _).trans g
 clear f1 T1 g T
 go_wp2_with fail
 refine (taken_rs1 a _ h0 h1).mono ?_
 rintro e w' ⟨rfl,m_rs1,rfl⟩
 go_wp2_with fail
 refine (taken_rs2 a _ h0 h1).mono ?_
 rintro e w' ⟨rfl,m_rs2,rfl⟩
 go_wp2_with fail
 refine bodyPost_ret (v:=insV k (Dc.rdF 6 a) (Dc.rs1F 6 a) (Dc.rs2F 6 a) (Dc.immF 6 a)) (by simp [results,Tryd.results34,go_sem,r0,r1,r2,r3,r4,f3,insV,Dc.rdF,Dc.rs1F,Dc.rs2F,Dc.hasRd,Dc.hasRs1,Dc.hasRs2]) rfl ⟨rfl,?_⟩
 have Z:=G.out
 exact ((((((((((Z.alloc _ _).drewN _).setCell (by simp;omega) _).drewN _).setCell (by simp;omega) _).setCell (by simp) _).setCell (by simp) _).setCell (by simp) _).setCell (by simp) _).setCell (by simp) _)
theorem read_7:Read 7:=by
 intro k a w T h0 h1
 go_enter Tryd.func34,Tryd.ntmps34
 go_wp2_with fail
 refine (readImm_7 a _ (T.of ((Gr.refl _).alloc _ _)) h0 h1).mono ?_
 rintro e w1 ⟨rfl,g⟩
 have T1:=(T.of ((Gr.refl _).alloc _ _)).of g
 have b0:0<w1.heap.size:=lt_of_cell (T1.shapes 0 _ rfl)
 have c1:w1.cell? ⟨0,120,none⟩=some (.bool true):=T1.shapes 120 _ rfl
 have c2:w1.cell? ⟨0,121,none⟩=some (.bool true):=T1.shapes 121 _ rfl
 have c3:w1.cell? ⟨0,122,none⟩=some (.bool true):=T1.shapes 122 _ rfl
 obtain ⟨f1,f2,f3⟩:=fresh_of g
 have r0:=f1 0 _ rfl
 have r1:=f1 1 _ rfl
 have r2:=f1 2 _ rfl
 have r3:=f1 3 _ rfl
 have r4:=f1 4 _ rfl
 have G:Hid (Gr w w1):=((Gr.refl _).alloc _ _).trans g
 clear f1 T1 g T
 go_wp2_with fail
 refine (taken_rd a _ h0 h1).mono ?_
 rintro e w' ⟨rfl,m_rd,rfl⟩
 go_wp2_with fail
 refine (taken_rs1 a _ h0 h1).mono ?_
 rintro e w' ⟨rfl,m_rs1,rfl⟩
 go_wp2_with fail
 refine (taken_rs2 a _ h0 h1).mono ?_
 rintro e w' ⟨rfl,m_rs2,rfl⟩
 go_wp2_with fail
 refine bodyPost_ret (v:=insV k (Dc.rdF 7 a) (Dc.rs1F 7 a) (Dc.rs2F 7 a) (Dc.immF 7 a)) (by simp [results,Tryd.results34,go_sem,r0,r1,r2,r3,r4,f3,insV,Dc.rdF,Dc.rs1F,Dc.rs2F,Dc.hasRd,Dc.hasRs1,Dc.hasRs2]) rfl ⟨rfl,?_⟩
 have Z:=G.out
 exact ((((((((((((Z.alloc _ _).drewN _).setCell (by simp;omega) _).drewN _).setCell (by simp;omega) _).drewN _).setCell (by simp;omega) _).setCell (by simp) _).setCell (by simp) _).setCell (by simp) _).setCell (by simp) _).setCell (by simp) _)
theorem read_8:Read 8:=by
 intro k a w T h0 h1
 go_enter Tryd.func34,Tryd.ntmps34
 go_wp2_with fail
 refine (readImm_8 a _ (T.of ((Gr.refl _).alloc _ _)) h0 h1).mono ?_
 rintro e w1 ⟨rfl,g⟩
 have T1:=(T.of ((Gr.refl _).alloc _ _)).of g
 have b0:0<w1.heap.size:=lt_of_cell (T1.shapes 0 _ rfl)
 have c1:w1.cell? ⟨0,137,none⟩=some (.bool true):=T1.shapes 137 _ rfl
 have c2:w1.cell? ⟨0,138,none⟩=some (.bool true):=T1.shapes 138 _ rfl
 have c3:w1.cell? ⟨0,139,none⟩=some (.bool true):=T1.shapes 139 _ rfl
 obtain ⟨f1,f2,f3⟩:=fresh_of g
 have r0:=f1 0 _ rfl
 have r1:=f1 1 _ rfl
 have r2:=f1 2 _ rfl
 have r3:=f1 3 _ rfl
 have r4:=f1 4 _ rfl
 have G:Hid (Gr w w1):=((Gr.refl _).alloc _ _).trans g
 clear f1 T1 g T
 go_wp2_with fail
 refine (taken_rd a _ h0 h1).mono ?_
 rintro e w' ⟨rfl,m_rd,rfl⟩
 go_wp2_with fail
 refine (taken_rs1 a _ h0 h1).mono ?_
 rintro e w' ⟨rfl,m_rs1,rfl⟩
 go_wp2_with fail
 refine (taken_rs2 a _ h0 h1).mono ?_
 rintro e w' ⟨rfl,m_rs2,rfl⟩
 go_wp2_with fail
 refine bodyPost_ret (v:=insV k (Dc.rdF 8 a) (Dc.rs1F 8 a) (Dc.rs2F 8 a) (Dc.immF 8 a)) (by simp [results,Tryd.results34,go_sem,r0,r1,r2,r3,r4,f3,insV,Dc.rdF,Dc.rs1F,Dc.rs2F,Dc.hasRd,Dc.hasRs1,Dc.hasRs2]) rfl ⟨rfl,?_⟩
 have Z:=G.out
 exact ((((((((((((Z.alloc _ _).drewN _).setCell (by simp;omega) _).drewN _).setCell (by simp;omega) _).drewN _).setCell (by simp;omega) _).setCell (by simp) _).setCell (by simp) _).setCell (by simp) _).setCell (by simp) _).setCell (by simp) _)
theorem read_9:Read 9:=by
 intro k a w T h0 h1
 go_enter Tryd.func34,Tryd.ntmps34
 go_wp2_with fail
 refine (readImm_9 a _ (T.of ((Gr.refl _).alloc _ _)) h0 h1).mono ?_
 rintro e w1 ⟨rfl,g⟩
 have T1:=(T.of ((Gr.refl _).alloc _ _)).of g
 have b0:0<w1.heap.size:=lt_of_cell (T1.shapes 0 _ rfl)
 have c1:w1.cell? ⟨0,154,none⟩=some (.bool false):=T1.shapes 154 _ rfl
 have c2:w1.cell? ⟨0,155,none⟩=some (.bool false):=T1.shapes 155 _ rfl
 have c3:w1.cell? ⟨0,156,none⟩=some (.bool false):=T1.shapes 156 _ rfl
 obtain ⟨f1,f2,f3⟩:=fresh_of g
 have r0:=f1 0 _ rfl
 have r1:=f1 1 _ rfl
 have r2:=f1 2 _ rfl
 have r3:=f1 3 _ rfl
 have r4:=f1 4 _ rfl
 have G:Hid (Gr w w1):=((Gr.refl _).alloc _ _).trans g
 clear f1 T1 g T
 go_wp2_with fail
 refine bodyPost_ret (v:=insV k (Dc.rdF 9 a) (Dc.rs1F 9 a) (Dc.rs2F 9 a) (Dc.immF 9 a)) (by simp [results,Tryd.results34,go_sem,r0,r1,r2,r3,r4,f3,insV,Dc.rdF,Dc.rs1F,Dc.rs2F,Dc.hasRd,Dc.hasRs1,Dc.hasRs2]) rfl ⟨rfl,?_⟩
 have Z:=G.out
 exact (((((Z.setCell (by simp) _).setCell (by simp) _).setCell (by simp) _).setCell (by simp) _).setCell (by simp) _).alloc _ _
theorem read_any (f:Int)(h0:0≤f)(h1:f≤9):Read f:=by
 have h:f=0∨f=1∨f=2∨f=3∨f=4∨f=5∨f=6∨f=7∨f=8∨f=9:=by omega
 rcases h with rfl|rfl|rfl|rfl|rfl|rfl|rfl|rfl|rfl|rfl
 ·exact read_0
 ·exact read_1
 ·exact read_2
 ·exact read_3
 ·exact read_4
 ·exact read_5
 ·exact read_6
 ·exact read_7
 ·exact read_8
 ·exact read_9
end Go.Proofs.YtkdghgiajifbdaaDoor.Dw
namespace Go.Proofs.YtkdghgiajifbdaaDoor.Dw
open Go.ChangeShapes Go.WideShapes Go.ChangeAt Go.RowKit

variable {a : Int}
def decV (a:Int):Value:=insV (Dc.dop a) (Dc.rdF (Dc.frm (Dc.dop a)) a) (Dc.rs1F (Dc.frm (Dc.dop a)) a) (Dc.rs2F (Dc.frm (Dc.dop a)) a) (Dc.immF (Dc.frm (Dc.dop a)) a)
def decOk (a:Int):Bool:=decide (Dc.dop a≠0)
theorem dec_none (h:Dc.dop a=0):decV a=insV 0 0 0 0 0∧decOk a=false:=by
 unfold decV decOk;rw [h];exact ⟨rfl,rfl⟩
theorem dec_some {k:Int}(h:Dc.dop a=k)(hk:1≤k):decV a=insV k (Dc.rdF (Dc.frm k) a) (Dc.rs1F (Dc.frm k) a) (Dc.rs2F (Dc.frm k) a) (Dc.immF (Dc.frm k) a)∧decOk a=true:=by
 unfold decV decOk;rw [h];exact ⟨rfl,by simp;omega⟩
theorem sp_bd (lo:Int):(1≤Dc.sp1 lo∨Dc.sp2 lo = -1)∧0≤Dc.sp1 lo∧Dc.sp1 lo≤58 ∧ -1≤Dc.sp2 lo∧Dc.sp2 lo≤59∧Dc.sp1 lo≤Dc.sp2 lo+1:=by
 unfold Dc.sp1 Dc.sp2
 by_cases h1:lo=55
 ·simp [h1]
 by_cases h2:lo=23
 ·simp [h2]
 by_cases h3:lo=111
 ·simp [h3]
 by_cases h4:lo=103
 ·simp [h4]
 by_cases h5:lo=99
 ·simp [h5]
 by_cases h6:lo=3
 ·simp [h6]
 by_cases h7:lo=35
 ·simp [h7]
 by_cases h8:lo=19
 ·simp [h8]
 by_cases h9:lo=51
 ·simp [h9]
 by_cases h10:lo=47
 ·simp [h10]
 by_cases h11:lo=15
 ·simp [h11]
 by_cases h12:lo=115
 ·simp [h12]
 simp [h1,h2,h3,h4,h5,h6,h7,h8,h9,h10,h11,h12]
theorem mask_bd (f:Int):0≤Dc.mask f∧Dc.mask f<4294967296:=by
 unfold Dc.mask;repeat' split
 all_goals omega
theorem mask_cell {w:World}(T:Tab w)(f:Int)(h0:0≤f)(h1:f≤9):w.cell? ⟨0,f.toNat*17,none⟩=some (.int .u32 (Dc.mask f)):=by
 have h:f=0∨f=1∨f=2∨f=3∨f=4∨f=5∨f=6∨f=7∨f=8∨f=9:=by omega
 rcases h with rfl|rfl|rfl|rfl|rfl|rfl|rfl|rfl|rfl|rfl
 ·exact T.shapes 0 _ rfl
 ·exact T.shapes 17 _ rfl
 ·exact T.shapes 34 _ rfl
 ·exact T.shapes 51 _ rfl
 ·exact T.shapes 68 _ rfl
 ·exact T.shapes 85 _ rfl
 ·exact T.shapes 102 _ rfl
 ·exact T.shapes 119 _ rfl
 ·exact T.shapes 136 _ rfl
 ·exact T.shapes 153 _ rfl
theorem raw_none {s1 s2:Int}(h0:0≤a)(h1:a<4294967296)(e1:Dc.sp1 (a%128)=s1)(e2:Dc.sp2 (a%128)=s2)(h:∀j,s1≤j→j≤s2→Dc.raw a≠j):Dc.dop a=0:=by
 have:Dc.raw a=0:=by
  by_cases hr:Dc.raw a=0
  ·exact hr
  ·have:=Dc.raw_told h0 h1 hr
   exact absurd rfl (h (Dc.raw a) (by omega) (by omega))
 unfold Dc.dop;rw [this];rfl
theorem Decode_any (a:Int)(w:World)(T:Tab w)(h0:0≤a)(h1:a<4294967296):
  Calls Tryd.prog 14 #[.int .u32 a] w fun e w'=>e=.returned (.tuple #[decV a,.bool (decOk a)])∧Gr w w':=by
 have hs:=sp_bd (a%128)
 go_enter Tryd.func14,Tryd.ntmps14
 go_wp2_with fail
 refine (span_any a _ h0 h1).mono ?_
 rintro e w' ⟨rfl,rfl⟩
 have E1:Hid (Dc.sp1 (a%128)=Dc.sp1 (a%128)):=rfl
 have E2:Hid (Dc.sp2 (a%128)=Dc.sp2 (a%128)):=rfl
 go_wp2_with fail
 generalize hs1:Dc.sp1 (a%128)=s1 at *
 generalize hs2:Dc.sp2 (a%128)=s2 at *
 have H1:Hid (Dc.sp1 (a%128)=s1):=hs1
 have H2:Hid (Dc.sp2 (a%128)=s2):=hs2
 clear hs1 hs2 E1 E2
 obtain ⟨p1,p2,p3,p4,p5,p6⟩:=hs
 go_loopw [6] (fun i wr=>∃k:Int,i=.int .i64 k∧s1≤k∧k≤s2+1∧(∀j,s1≤j→j<k→Dc.raw a≠j)∧Gr (w.alloc (.cells #[.int .i64 0,.int .i64 0,.int .i64 0,.int .i64 0,.int .i32 0] 23)) wr) (fun i _=>(s2+1-intOf i).toNat)
 case atStart=>exact ⟨s1,rfl,by omega,by omega,fun j _ _=>by omega,Gr.refl _⟩
 case round=>
  obtain ⟨k,rfl,k1,k2,k3,g⟩:=hrel
  obtain ⟨f1,f2,f3⟩:=fresh_of g
  have r0:=f1 0 _ rfl
  have r1:=f1 1 _ rfl
  have r2:=f1 2 _ rfl
  have r3:=f1 3 _ rfl
  have r4:=f1 4 _ rfl
  have T1:=(T.of ((Gr.refl _).alloc _ _)).of g
  have G:Hid (Gr w wr):=((Gr.refl _).alloc _ _).trans g
  have G1:Hid (Gr (w.alloc (.cells #[.int .i64 0,.int .i64 0,.int .i64 0,.int .i64 0,.int .i32 0] 23)) wr):=g
  clear f1 g
  by_cases hk:k≤s2
  ·have hfb:=Dc.frm_bd k
   have hti:=Dc.told_iff (w:=a) (k:=k) h0 h1 (by omega) (by omega)
   have hmb:=mask_bd (Dc.frm k)
   have hb:=bits_and_u32 a (Dc.mask (Dc.frm k)) h0 h1 hmb.1 hmb.2
   rw [←hb] at hti
   have HT:Hid (bits .and .u32 a (Dc.mask (Dc.frm k))=Dc.tbits k↔Dc.raw a=k):=hti
   have K3:Hid (∀j,s1≤j→j<k→Dc.raw a≠j):=k3
   clear hb hti hmb k3
   go_wp2_with fail
   refine (told_any k _ T1).mono ?_
   rintro e w2 ⟨rfl,g2⟩
   have m0:=mask_cell (T1.of g2) (Dc.frm k) hfb.1 hfb.2
   have G2:Hid (Gr (w.alloc (.cells #[.int .i64 0,.int .i64 0,.int .i64 0,.int .i64 0,.int .i32 0] 23)) w2):=G1.out.trans g2
   have T2:=T1.of g2
   clear g2 r0 r1 r2 r3 r4 f2 f3 T1 G G1
   by_cases hr:Dc.raw a=k
   ·have nb:(bits .and .u32 a (Dc.mask (Dc.frm k)) != Dc.tbits k)=false:=by simp [HT.out.2 hr]
    have HR:Hid (Dc.raw a=k):=hr
    clear hr
    go_wp2_with fail
    refine (read_any (Dc.frm k) hfb.1 hfb.2 k a w2 T2 h0 h1).mono ?_
    rintro e w3 ⟨rfl,g3⟩
    unfold insV
    have g:=G2.out.trans g3
    obtain ⟨f1,f2,f3⟩:=fresh_of g
    have r0:=f1 0 _ rfl
    have r1:=f1 1 _ rfl
    have r2:=f1 2 _ rfl
    have r3:=f1 3 _ rfl
    have r4:=f1 4 _ rfl
    have G:Hid (Gr w w3):=((Gr.refl _).alloc _ _).trans g
    clear f1 g g3 G2 T2 m0 nb
    by_cases hk46:k=46
    ·subst hk46
     by_cases hz:a/1048576%32=0
     ·obtain ⟨DV0,DO0⟩:=dec_some (a:=a) (k:=46) (by unfold Dc.dop;rw [HR.out,if_neg (by omega)]) (by omega)
      have DV:Hid (decV a=_):=DV0
      have DO:Hid (decOk a=true):=DO0
      have hz':Dc.rs2F (Dc.frm 46) a=0:=hz
      clear DV0 DO0
      go_wp2_with fail
      refine bodyPost_ret (v:=.tuple #[insV 46 (Dc.rdF (Dc.frm 46) a) (Dc.rs1F (Dc.frm 46) a) (Dc.rs2F (Dc.frm 46) a) (Dc.immF (Dc.frm 46) a),.bool true]) (by simp [results,Tryd.results14,go_sem,r0,r1,r2,r3,r4,f3,insV,hz']) rfl ⟨by rw [DV.out,DO.out],?_⟩
      exact (((((G.out.setCell (by simp) _).setCell (by simp) _).setCell (by simp) _).setCell (by simp) _).setCell (by simp) _).alloc _ _
     ·obtain ⟨DV0,DO0⟩:=dec_none (a:=a) (by unfold Dc.dop;rw [HR.out,if_pos ⟨rfl,hz⟩])
      have DV:Hid (decV a=_):=DV0
      have DO:Hid (decOk a=false):=DO0
      have hz':(Dc.rs2F (Dc.frm 46) a != 0)=true:=by rw [show Dc.rs2F (Dc.frm 46) a=a/1048576%32 from rfl];simpa using hz
      clear DV0 DO0
      go_wp2_with fail
      refine bodyPost_ret (v:=.tuple #[insV 0 0 0 0 0,.bool false]) (by simp [results,Tryd.results14,go_sem,r0,r1,r2,r3,r4,f3,insV]) rfl ⟨by rw [DV.out,DO.out],?_⟩
      exact (((((G.out.setCell (by simp) _).setCell (by simp) _).setCell (by simp) _).setCell (by simp) _).setCell (by simp) _).alloc _ _
    ·obtain ⟨DV0,DO0⟩:=dec_some (a:=a) (k:=k) (by unfold Dc.dop;rw [HR.out,if_neg (by omega)]) (by omega)
     have DV:Hid (decV a=_):=DV0
     have DO:Hid (decOk a=true):=DO0
     have b46:(k == 46)=false:=by simpa using hk46
     clear DV0 DO0
     go_wp2_with fail
     refine bodyPost_ret (v:=.tuple #[insV k (Dc.rdF (Dc.frm k) a) (Dc.rs1F (Dc.frm k) a) (Dc.rs2F (Dc.frm k) a) (Dc.immF (Dc.frm k) a),.bool true]) (by simp [results,Tryd.results14,go_sem,r0,r1,r2,r3,r4,f3,insV]) rfl ⟨by rw [DV.out,DO.out],?_⟩
     exact (((((G.out.setCell (by simp) _).setCell (by simp) _).setCell (by simp) _).setCell (by simp) _).setCell (by simp) _).alloc _ _
   ·have nb:(bits .and .u32 a (Dc.mask (Dc.frm k)) != Dc.tbits k)=true:=by simp;intro h;exact hr (HT.out.1 h)
    go_wp2_with fail
    refine ⟨⟨k+1,rfl,by omega,by omega,fun j j1 j2=>?_,G2.out⟩,by simp only [intOf];omega⟩
    by_cases e:j=k
    ·rw [e];exact hr
    ·exact K3.out j j1 (by omega)
  ·obtain ⟨DV0,DO0⟩:=dec_none (raw_none h0 h1 H1.out H2.out fun j j1 j2=>k3 j j1 (by omega))
   have DV:Hid (decV a=_):=DV0
   have DO:Hid (decOk a=false):=DO0
   clear k3 DV0 DO0
   go_wp2
   refine bodyPost_ret (v:=.tuple #[insV 0 0 0 0 0,.bool false]) (by simp [results,Tryd.results14,go_sem,r0,r1,r2,r3,r4,f3,insV]) rfl ⟨by rw [DV.out,DO.out],?_⟩
   exact (((((G.out.setCell (by simp) _).setCell (by simp) _).setCell (by simp) _).setCell (by simp) _).setCell (by simp) _)
end Go.Proofs.YtkdghgiajifbdaaDoor.Dw
namespace Go.Proofs.YtkdghgiajifbdaaDoor.Hc
open Go.ChangeShapes Go.WideShapes Go.ChangeAt Go.RowKit Mm Hh

end Go.Proofs.YtkdghgiajifbdaaDoor.Hc
namespace Go.Proofs.YtkdghgiajifbdaaDoor.Bk
open Mm Hh

variable {l : List UInt8} {pc : Int} {n k : Nat}
def ftC (l:List UInt8) (pc:Int):Int:=if ldOk l 13 pc=true then (if Dc.dop (ldV l 13 pc)=0 then 2 else 0) else 1
def lastOp (op:Int):Bool:=decide ((3≤op∧op≤10)∨op=58∨op=59)
def at4 (pc:Int) (k:Nat):Int:=Wd.lo (pc+4*k)
def blk (l:List UInt8) (pc:Int):Nat→Nat→List Int
 | 0,_=>[]
 | n+1,k=>if ftC l (at4 pc k)=0 then ldV l 13 (at4 pc k)::(if lastOp (Dc.dop (ldV l 13 (at4 pc k)))=true then [] else blk l pc n (k+1)) else []
theorem at4_bd (pc:Int)(k:Nat):0≤at4 pc k∧at4 pc k<4294967296:=by unfold at4 Wd.lo;omega
theorem blk_stop (h:¬ftC l (at4 pc k)=0):blk l pc (n+1) k=[]:=by unfold blk;rw [if_neg h]
theorem blk_last (h:ftC l (at4 pc k)=0)(hl:lastOp (Dc.dop (ldV l 13 (at4 pc k)))=true):blk l pc (n+1) k=[ldV l 13 (at4 pc k)]:=by unfold blk;rw [if_pos h,if_pos hl]
theorem blk_on (h:ftC l (at4 pc k)=0)(hl:lastOp (Dc.dop (ldV l 13 (at4 pc k)))=false):blk l pc (n+1) k=ldV l 13 (at4 pc k)::blk l pc n (k+1):=by
 rw [blk,if_pos h,if_neg (by simp [hl])]
theorem blk_zero (l:List UInt8)(pc:Int)(k:Nat):blk l pc (16-16) k=[]:=rfl
end Go.Proofs.YtkdghgiajifbdaaDoor.Bk
namespace Go.Proofs.YtkdghgiajifbdaaDoor.Bk
open Go.ChangeShapes Go.WideShapes Go.ChangeAt Go.RowKit Mm Hh

def insC (x:Int):List Value:=[.int .i64 (Dc.dop x),.int .i64 (Dc.rdF (Dc.frm (Dc.dop x)) x),.int .i64 (Dc.rs1F (Dc.frm (Dc.dop x)) x),.int .i64 (Dc.rs2F (Dc.frm (Dc.dop x)) x),.int .i32 (Dc.immF (Dc.frm (Dc.dop x)) x)]
def blC (xs:List Int):List Value:=xs.flatMap insC
theorem blC_snoc (xs:List Int)(x:Int):blC (xs++[x])=blC xs++insC x:=by simp [blC]
theorem blC_get:∀(xs:List Int) (i j:Nat) (x:Int),xs[i]?=some x→j<5→(blC xs)[i*5+j]?=(insC x)[j]?
 | [],i,j,x,h,_=>by simp at h
 | p::r,0,j,x,h,hj=>by
  simp at h;subst h
  show (insC p++blC r)[0*5+j]?=_
  rw [Nat.zero_mul,Nat.zero_add,List.getElem?_append_left (by simpa [insC] using hj)]
 | p::r,i+1,j,x,h,hj=>by
  have ih:=blC_get r i j x (by simpa using h) hj
  show (insC p++blC r)[(i+1)*5+j]?=_
  rw [List.getElem?_append_right (by simp [insC];omega)]
  rw [show (i+1)*5+j-(insC p).length=i*5+j by simp [insC];omega]
  exact ih
end Go.Proofs.YtkdghgiajifbdaaDoor.Bk
namespace Go.Proofs.YtkdghgiajifbdaaDoor.Hf
open Go.ChangeShapes Go.WideShapes Go.ChangeAt Go.RowKit Mm Hh

end Go.Proofs.YtkdghgiajifbdaaDoor.Hf
namespace Go.Proofs.YtkdghgiajifbdaaDoor.Hc
open Go.ChangeShapes Go.WideShapes Go.ChangeAt Go.RowKit Mm Hh

end Go.Proofs.YtkdghgiajifbdaaDoor.Hc
namespace Go.Proofs.YtkdghgiajifbdaaDoor.Mm
open Go.ChangeShapes Go.WideShapes Go.ChangeAt Go.RowKit

theorem cells5:Tryd.prog.cellsOf 5=1:=by kernel_rfl
theorem bytes5:Tryd.prog.bytesOf 5=1:=by kernel_rfl
theorem laidOut:laidOutB Tryd.prog=true:=by kernel_rfl
theorem own:ownKnob Tryd.prog.godebug=none:=by kernel_rfl
theorem bv_map {Z:List Int}(hz:∀n∈Z,(Lit.int .u8 n).wf=true)(t:Nat)(ht:t<Z.length):bv (Z.map fun z=>UInt8.ofNat z.toNat) t=Z.getD t 0:=by
 have hm:Z[t]∈Z:=List.getElem_mem ht
 have hw:=hz _ hm
 have hb:0≤Z[t]∧Z[t]≤255:=by simpa [Lit.wf,IntKind.min,IntKind.max,IntKind.signed,IntKind.bits] using hw
 unfold bv
 simp only [List.getD,List.getElem?_map,List.getElem?_eq_getElem ht,Option.map_some,Option.getD_some]
 rw [UInt8.toNat_ofNat']
 omega
theorem open_mem {H:Type}{enc:TypeId×Value→H}{W:World}{fuel:Nat}{ao:Option Addr}{len cap:Nat}{d:DataW H}{p:List MemPlace}
  (hf:DataW.trod enc Tryd.prog W 0 (fun _=>true) true fuel 35 (Value.slice ao len cap).cells.toList=some (d,p)):
  ∃l:List UInt8,Mem W ao len l∧(d=.nil∧len=0∨∃zs sp,d=.slice (lits .u8 zs) sp∧zs.length=len):=by
 rcases open_ints Tryd.underlying35 Tryd.underlying5 cells5 hf with ⟨hcs,hx⟩|⟨a,len',cap',zs,hcs,_,hl,hm,hz,hx,hcell,hwz⟩
 ·simp [Value.cells] at hcs
  obtain ⟨rfl,rfl,rfl⟩:=hcs
  simp only [Prod.mk.injEq] at hx
  obtain ⟨rfl,rfl⟩:=hx
  exact ⟨[],Mem.none _,Or.inl ⟨rfl,rfl⟩⟩
 ·simp [Value.cells] at hcs
  obtain ⟨rfl,rfl,rfl⟩:=hcs
  simp only [Prod.mk.injEq] at hx
  obtain ⟨rfl,rfl⟩:=hx
  simp only [if_true] at hz
  refine ⟨(zs.take len).map fun z=>UInt8.ofNat z.toNat,⟨by simp;omega,(fun h=>by cases h),fun ad h t ht=>?_⟩,Or.inr ⟨_,_,rfl,by simp;omega⟩⟩
  obtain rfl:=Option.some.inj h
  rw [hcell t (by omega),bv_map (fun n hn=>hwz n (List.mem_of_mem_take hn)) t (by simp;omega)]
  simp [List.getD,ht]
end Go.Proofs.YtkdghgiajifbdaaDoor.Mm
