/-
  Walks3, Walks4, Ref2c: texts of ours that lie in one file.
-/
import Derived.Test.YtchllaeembmioaaGreatDoorK09
import Derived.Test.YtchllaeembmioaaGreatDoorK08
set_option linter.unusedVariables false
set_option linter.unusedSimpArgs false
set_option maxHeartbeats 8000000
set_option maxRecDepth 100000
namespace Go.Proofs.YtchllaeembmioaaGreatDoor.Dw
open Go.ChangeShapes Go.WideShapes Go.ChangeAt Go.RowKit

def insV (op rd rs1 rs2 imm:Int):Value:=.agg #[.int .i64 op,.int .i64 rd,.int .i64 rs1,.int .i64 rs2,.int .i32 imm]
theorem fresh_of {w w1:World}{c:Array Value}{t:TypeId}(g:Gr (w.alloc (.cells c t)) w1):
  (∀i v,c[i]?=some v→w1.cell? ⟨w.heap.size,i,none⟩=some v)∧(∀i,w1.frozen? ⟨w.heap.size,i,none⟩=false)∧w.heap.size<w1.heap.size:=by
 have hs:(w.alloc (.cells c t)).heap.size=w.heap.size+1:=by simp
 refine ⟨fun i v h=>?_,fun i=>?_,by have:=g.size;omega⟩
 ·rw [g.cell _ _ (by omega),World.cell?_alloc_new,h]
 ·rw [g.2,frozen?_alloc_cells]
  simp [World.frozen?]
theorem taken_rd (a:Int)(w:World)(h0:0≤a)(h1:a<4294967296):Calls Tryz.prog 128 #[.int .u32 a,.int .i64 7,.int .i64 5] w fun e w'=>e=.returned (.int .u32 (a/128%32))∧∃m,w'=w.drewN m:=taken_as a 7 5 _ w h0 h1 (by omega) (by omega) (by omega) (by omega) rfl
theorem taken_rs1 (a:Int)(w:World)(h0:0≤a)(h1:a<4294967296):Calls Tryz.prog 128 #[.int .u32 a,.int .i64 15,.int .i64 5] w fun e w'=>e=.returned (.int .u32 (a/32768%32))∧∃m,w'=w.drewN m:=taken_as a 15 5 _ w h0 h1 (by omega) (by omega) (by omega) (by omega) rfl
theorem taken_rs2 (a:Int)(w:World)(h0:0≤a)(h1:a<4294967296):Calls Tryz.prog 128 #[.int .u32 a,.int .i64 20,.int .i64 5] w fun e w'=>e=.returned (.int .u32 (a/1048576%32))∧∃m,w'=w.drewN m:=taken_as a 20 5 _ w h0 h1 (by omega) (by omega) (by omega) (by omega) rfl
def Read (f:Int):Prop:=∀(k a:Int) (w:World),Tab w→0≤a→a<4294967296→Calls Tryz.prog 108 #[.int .i64 k,.int .i64 f,.int .u32 a] w fun e w'=>e=.returned (insV k (Dc.rdF f a) (Dc.rs1F f a) (Dc.rs2F f a) (Dc.immF f a))∧Gr w w'
theorem read_0:Read 0:=by
 intro k a w T h0 h1
 go_enter Tryz.func108,Tryz.ntmps108
 go_wp2_with fail
 refine (readImm_0 a _ (T.of ((Gr.refl _).alloc _ _)) h0 h1).mono ?_
 rintro e w1 ⟨rfl,g⟩
 have T1:=(T.of ((Gr.refl _).alloc _ _)).of g
 have b0:0<w1.heap.size:=lt_of_cell (T1.shapes 0 _ rfl)
 have c1:w1.cell? ⟨0,1,none⟩=some (.bool false):=T1.shapes 1 _ rfl
 have c2:w1.cell? ⟨0,2,none⟩=some (.bool false):=T1.shapes 2 _ rfl
 have c3:w1.cell? ⟨0,3,none⟩=some (.bool false):=T1.shapes 3 _ rfl
 obtain ⟨f1,f2,f3⟩:=fresh_of g
 have r0:=f1 0 _ rfl
 have r1:=f1 1 _ rfl
 have r2:=f1 2 _ rfl
 have r3:=f1 3 _ rfl
 have r4:=f1 4 _ rfl
 have G:Hid (Gr w w1):=((Gr.refl _).alloc _ _).trans g
 clear f1 T1 g T
 go_wp2_with fail
 refine bodyPost_ret (v:=insV k (Dc.rdF 0 a) (Dc.rs1F 0 a) (Dc.rs2F 0 a) (Dc.immF 0 a)) (by simp [results,Tryz.results108,go_sem,r0,r1,r2,r3,r4,f3,insV,Dc.rdF,Dc.rs1F,Dc.rs2F,Dc.hasRd,Dc.hasRs1,Dc.hasRs2]) rfl ⟨rfl,?_⟩
 have Z:=G.out
 exact (((((Z.setCell (by simp) _).setCell (by simp) _).setCell (by simp) _).setCell (by simp) _).setCell (by simp) _).alloc _ _
theorem read_1:Read 1:=by
 intro k a w T h0 h1
 go_enter Tryz.func108,Tryz.ntmps108
 go_wp2_with fail
 refine (readImm_1 a _ (T.of ((Gr.refl _).alloc _ _)) h0 h1).mono ?_
 rintro e w1 ⟨rfl,g⟩
 have T1:=(T.of ((Gr.refl _).alloc _ _)).of g
 have b0:0<w1.heap.size:=lt_of_cell (T1.shapes 0 _ rfl)
 have c1:w1.cell? ⟨0,18,none⟩=some (.bool true):=T1.shapes 18 _ rfl
 have c2:w1.cell? ⟨0,19,none⟩=some (.bool false):=T1.shapes 19 _ rfl
 have c3:w1.cell? ⟨0,20,none⟩=some (.bool false):=T1.shapes 20 _ rfl
 obtain ⟨f1,f2,f3⟩:=fresh_of g
 have r0:=f1 0 _ rfl
 have r1:=f1 1 _ rfl
 have r2:=f1 2 _ rfl
 have r3:=f1 3 _ rfl
 have r4:=f1 4 _ rfl
 have G:Hid (Gr w w1):=((Gr.refl _).alloc _ _).trans g
 clear f1 T1 g T
 go_wp2_with fail
 refine (taken_rd a _ h0 h1).mono ?_
 rintro e w' ⟨rfl,m_rd,rfl⟩
 go_wp2_with fail
 refine bodyPost_ret (v:=insV k (Dc.rdF 1 a) (Dc.rs1F 1 a) (Dc.rs2F 1 a) (Dc.immF 1 a)) (by simp [results,Tryz.results108,go_sem,r0,r1,r2,r3,r4,f3,insV,Dc.rdF,Dc.rs1F,Dc.rs2F,Dc.hasRd,Dc.hasRs1,Dc.hasRs2]) rfl ⟨rfl,?_⟩
 have Z:=G.out
 exact ((((((((Z.alloc _ _).drewN _).setCell (by simp;omega) _).setCell (by simp) _).setCell (by simp) _).setCell (by simp) _).setCell (by simp) _).setCell (by simp) _)
theorem read_2:Read 2:=by
 intro k a w T h0 h1
 go_enter Tryz.func108,Tryz.ntmps108
 go_wp2_with fail
 refine (readImm_2 a _ (T.of ((Gr.refl _).alloc _ _)) h0 h1).mono ?_
 rintro e w1 ⟨rfl,g⟩
 have T1:=(T.of ((Gr.refl _).alloc _ _)).of g
 have b0:0<w1.heap.size:=lt_of_cell (T1.shapes 0 _ rfl)
 have c1:w1.cell? ⟨0,35,none⟩=some (.bool true):=T1.shapes 35 _ rfl
 have c2:w1.cell? ⟨0,36,none⟩=some (.bool false):=T1.shapes 36 _ rfl
 have c3:w1.cell? ⟨0,37,none⟩=some (.bool false):=T1.shapes 37 _ rfl
 obtain ⟨f1,f2,f3⟩:=fresh_of g
 have r0:=f1 0 _ rfl
 have r1:=f1 1 _ rfl
 have r2:=f1 2 _ rfl
 have r3:=f1 3 _ rfl
 have r4:=f1 4 _ rfl
 have G:Hid (Gr w w1):=((Gr.refl _).alloc _ _).trans g
 clear f1 T1 g T
 go_wp2_with fail
 refine (taken_rd a _ h0 h1).mono ?_
 rintro e w' ⟨rfl,m_rd,rfl⟩
 go_wp2_with fail
 refine bodyPost_ret (v:=insV k (Dc.rdF 2 a) (Dc.rs1F 2 a) (Dc.rs2F 2 a) (Dc.immF 2 a)) (by simp [results,Tryz.results108,go_sem,r0,r1,r2,r3,r4,f3,insV,Dc.rdF,Dc.rs1F,Dc.rs2F,Dc.hasRd,Dc.hasRs1,Dc.hasRs2]) rfl ⟨rfl,?_⟩
 have Z:=G.out
 exact ((((((((Z.alloc _ _).drewN _).setCell (by simp;omega) _).setCell (by simp) _).setCell (by simp) _).setCell (by simp) _).setCell (by simp) _).setCell (by simp) _)
theorem read_3:Read 3:=by
 intro k a w T h0 h1
 go_enter Tryz.func108,Tryz.ntmps108
 go_wp2_with fail
 refine (readImm_3 a _ (T.of ((Gr.refl _).alloc _ _)) h0 h1).mono ?_
 rintro e w1 ⟨rfl,g⟩
 have T1:=(T.of ((Gr.refl _).alloc _ _)).of g
 have b0:0<w1.heap.size:=lt_of_cell (T1.shapes 0 _ rfl)
 have c1:w1.cell? ⟨0,52,none⟩=some (.bool true):=T1.shapes 52 _ rfl
 have c2:w1.cell? ⟨0,53,none⟩=some (.bool true):=T1.shapes 53 _ rfl
 have c3:w1.cell? ⟨0,54,none⟩=some (.bool false):=T1.shapes 54 _ rfl
 obtain ⟨f1,f2,f3⟩:=fresh_of g
 have r0:=f1 0 _ rfl
 have r1:=f1 1 _ rfl
 have r2:=f1 2 _ rfl
 have r3:=f1 3 _ rfl
 have r4:=f1 4 _ rfl
 have G:Hid (Gr w w1):=((Gr.refl _).alloc _ _).trans g
 clear f1 T1 g T
 go_wp2_with fail
 refine (taken_rd a _ h0 h1).mono ?_
 rintro e w' ⟨rfl,m_rd,rfl⟩
 go_wp2_with fail
 refine (taken_rs1 a _ h0 h1).mono ?_
 rintro e w' ⟨rfl,m_rs1,rfl⟩
 go_wp2_with fail
 refine bodyPost_ret (v:=insV k (Dc.rdF 3 a) (Dc.rs1F 3 a) (Dc.rs2F 3 a) (Dc.immF 3 a)) (by simp [results,Tryz.results108,go_sem,r0,r1,r2,r3,r4,f3,insV,Dc.rdF,Dc.rs1F,Dc.rs2F,Dc.hasRd,Dc.hasRs1,Dc.hasRs2]) rfl ⟨rfl,?_⟩
 have Z:=G.out
 exact ((((((((((Z.alloc _ _).drewN _).setCell (by simp;omega) _).drewN _).setCell (by simp;omega) _).setCell (by simp) _).setCell (by simp) _).setCell (by simp) _).setCell (by simp) _).setCell (by simp) _)
theorem read_4:Read 4:=by
 intro k a w T h0 h1
 go_enter Tryz.func108,Tryz.ntmps108
 go_wp2_with fail
 refine (readImm_4 a _ (T.of ((Gr.refl _).alloc _ _)) h0 h1).mono ?_
 rintro e w1 ⟨rfl,g⟩
 have T1:=(T.of ((Gr.refl _).alloc _ _)).of g
 have b0:0<w1.heap.size:=lt_of_cell (T1.shapes 0 _ rfl)
 have c1:w1.cell? ⟨0,69,none⟩=some (.bool true):=T1.shapes 69 _ rfl
 have c2:w1.cell? ⟨0,70,none⟩=some (.bool true):=T1.shapes 70 _ rfl
 have c3:w1.cell? ⟨0,71,none⟩=some (.bool false):=T1.shapes 71 _ rfl
 obtain ⟨f1,f2,f3⟩:=fresh_of g
 have r0:=f1 0 _ rfl
 have r1:=f1 1 _ rfl
 have r2:=f1 2 _ rfl
 have r3:=f1 3 _ rfl
 have r4:=f1 4 _ rfl
 have G:Hid (Gr w w1):=((Gr.refl _).alloc _ _).trans g
 clear f1 T1 g T
 go_wp2_with fail
 refine (taken_rd a _ h0 h1).mono ?_
 rintro e w' ⟨rfl,m_rd,rfl⟩
 go_wp2_with fail
 refine (taken_rs1 a _ h0 h1).mono ?_
 rintro e w' ⟨rfl,m_rs1,rfl⟩
 go_wp2_with fail
 refine bodyPost_ret (v:=insV k (Dc.rdF 4 a) (Dc.rs1F 4 a) (Dc.rs2F 4 a) (Dc.immF 4 a)) (by simp [results,Tryz.results108,go_sem,r0,r1,r2,r3,r4,f3,insV,Dc.rdF,Dc.rs1F,Dc.rs2F,Dc.hasRd,Dc.hasRs1,Dc.hasRs2]) rfl ⟨rfl,?_⟩
 have Z:=G.out
 exact ((((((((((Z.alloc _ _).drewN _).setCell (by simp;omega) _).drewN _).setCell (by simp;omega) _).setCell (by simp) _).setCell (by simp) _).setCell (by simp) _).setCell (by simp) _).setCell (by simp) _)
theorem read_5:Read 5:=by
 intro k a w T h0 h1
 go_enter Tryz.func108,Tryz.ntmps108
 go_wp2_with fail
 refine (readImm_5 a _ (T.of ((Gr.refl _).alloc _ _)) h0 h1).mono ?_
 rintro e w1 ⟨rfl,g⟩
 have T1:=(T.of ((Gr.refl _).alloc _ _)).of g
 have b0:0<w1.heap.size:=lt_of_cell (T1.shapes 0 _ rfl)
 have c1:w1.cell? ⟨0,86,none⟩=some (.bool false):=T1.shapes 86 _ rfl
 have c2:w1.cell? ⟨0,87,none⟩=some (.bool true):=T1.shapes 87 _ rfl
 have c3:w1.cell? ⟨0,88,none⟩=some (.bool true):=T1.shapes 88 _ rfl
 obtain ⟨f1,f2,f3⟩:=fresh_of g
 have r0:=f1 0 _ rfl
 have r1:=f1 1 _ rfl
 have r2:=f1 2 _ rfl
 have r3:=f1 3 _ rfl
 have r4:=f1 4 _ rfl
 have G:Hid (Gr w w1):=((Gr.refl _).alloc _ _).trans g
 clear f1 T1 g T
 go_wp2_with fail
 refine (taken_rs1 a _ h0 h1).mono ?_
 rintro e w' ⟨rfl,m_rs1,rfl⟩
 go_wp2_with fail
 refine (taken_rs2 a _ h0 h1).mono ?_
 rintro e w' ⟨rfl,m_rs2,rfl⟩
 go_wp2_with fail
 refine bodyPost_ret (v:=insV k (Dc.rdF 5 a) (Dc.rs1F 5 a) (Dc.rs2F 5 a) (Dc.immF 5 a)) (by simp [results,Tryz.results108,go_sem,r0,r1,r2,r3,r4,f3,insV,Dc.rdF,Dc.rs1F,Dc.rs2F,Dc.hasRd,Dc.hasRs1,Dc.hasRs2]) rfl ⟨rfl,?_⟩
 have Z:=G.out
 exact ((((((((((Z.alloc _ _).drewN _).setCell (by simp;omega) _).drewN _).setCell (by simp;omega) _).setCell (by simp) _).setCell (by simp) _).setCell (by simp) _).setCell (by simp) _).setCell (by simp) _)
theorem read_6:Read 6:=by
 intro k a w T h0 h1
 go_enter Tryz.func108,Tryz.ntmps108
 go_wp2_with fail
 refine (readImm_6 a _ (T.of ((Gr.refl _).alloc _ _)) h0 h1).mono ?_
 rintro e w1 ⟨rfl,g⟩
 have T1:=(T.of ((Gr.refl _).alloc _ _)).of g
 have b0:0<w1.heap.size:=lt_of_cell (T1.shapes 0 _ rfl)
 have c1:w1.cell? ⟨0,103,none⟩=some (.bool false):=T1.shapes 103 _ rfl
 have c2:w1.cell? ⟨0,104,none⟩=some (.bool true):=T1.shapes 104 _ rfl
 have c3:w1.cell? ⟨0,105,none⟩=some (.bool true):=T1.shapes 105 _ rfl
 obtain ⟨f1,f2,f3⟩:=fresh_of g
 have r0:=f1 0 _ rfl
 have r1:=f1 1 _ rfl
 have r2:=f1 2 _ rfl
 have r3:=f1 3 _ rfl
 have r4:=f1 4 _ rfl
 have G:Hid (Gr w w1):=((Gr.refl _).alloc _ _).trans g
 clear f1 T1 g T
 go_wp2_with fail
 refine (taken_rs1 a _ h0 h1).mono ?_
 rintro e w' ⟨rfl,m_rs1,rfl⟩
 go_wp2_with fail
 refine (taken_rs2 a _ h0 h1).mono ?_
 rintro e w' ⟨rfl,m_rs2,rfl⟩
 go_wp2_with fail
 refine bodyPost_ret (v:=insV k (Dc.rdF 6 a) (Dc.rs1F 6 a) (Dc.rs2F 6 a) (Dc.immF 6 a)) (by simp [results,Tryz.results108,go_sem,r0,r1,r2,r3,r4,f3,insV,Dc.rdF,Dc.rs1F,Dc.rs2F,Dc.hasRd,Dc.hasRs1,Dc.hasRs2]) rfl ⟨rfl,?_⟩
 have Z:=G.out
 exact ((((((((((Z.alloc _ _).drewN _).setCell (by simp;omega) _).drewN _).setCell (by simp;omega) _).setCell (by simp) _).setCell (by simp) _).setCell (by simp) _).setCell (by simp) _).setCell (by simp) _)
theorem read_7:Read 7:=by
 intro k a w T h0 h1
 go_enter Tryz.func108,Tryz.ntmps108
 go_wp2_with fail
 refine (readImm_7 a _ (T.of ((Gr.refl _).alloc _ _)) h0 h1).mono ?_
 rintro e w1 ⟨rfl,g⟩
 have T1:=(T.of ((Gr.refl _).alloc _ _)).of g
 have b0:0<w1.heap.size:=lt_of_cell (T1.shapes 0 _ rfl)
 have c1:w1.cell? ⟨0,120,none⟩=some (.bool true):=T1.shapes 120 _ rfl
 have c2:w1.cell? ⟨0,121,none⟩=some (.bool true):=T1.shapes 121 _ rfl
 have c3:w1.cell? ⟨0,122,none⟩=some (.bool true):=T1.shapes 122 _ rfl
 obtain ⟨f1,f2,f3⟩:=fresh_of g
 have r0:=f1 0 _ rfl
 have r1:=f1 1 _ rfl
 have r2:=f1 2 _ rfl
 have r3:=f1 3 _ rfl
 have r4:=f1 4 _ rfl
 have G:Hid (Gr w w1):=((Gr.refl _).alloc _ _).trans g
 clear f1 T1 g T
 go_wp2_with fail
 refine (taken_rd a _ h0 h1).mono ?_
 rintro e w' ⟨rfl,m_rd,rfl⟩
 go_wp2_with fail
 refine (taken_rs1 a _ h0 h1).mono ?_
 rintro e w' ⟨rfl,m_rs1,rfl⟩
 go_wp2_with fail
 refine (taken_rs2 a _ h0 h1).mono ?_
 rintro e w' ⟨rfl,m_rs2,rfl⟩
 go_wp2_with fail
 refine bodyPost_ret (v:=insV k (Dc.rdF 7 a) (Dc.rs1F 7 a) (Dc.rs2F 7 a) (Dc.immF 7 a)) (by simp [results,Tryz.results108,go_sem,r0,r1,r2,r3,r4,f3,insV,Dc.rdF,Dc.rs1F,Dc.rs2F,Dc.hasRd,Dc.hasRs1,Dc.hasRs2]) rfl ⟨rfl,?_⟩
 have Z:=G.out
 exact ((((((((((((Z.alloc _ _).drewN _).setCell (by simp;omega) _).drewN _).setCell (by simp;omega) _).drewN _).setCell (by simp;omega) _).setCell (by simp) _).setCell (by simp) _).setCell (by simp) _).setCell (by simp) _).setCell (by simp) _)
theorem read_8:Read 8:=by
 intro k a w T h0 h1
 go_enter Tryz.func108,Tryz.ntmps108
 go_wp2_with fail
 refine (readImm_8 a _ (T.of ((Gr.refl _).alloc _ _)) h0 h1).mono ?_
 rintro e w1 ⟨rfl,g⟩
 have T1:=(T.of ((Gr.refl _).alloc _ _)).of g
 have b0:0<w1.heap.size:=lt_of_cell (T1.shapes 0 _ rfl)
 have c1:w1.cell? ⟨0,137,none⟩=some (.bool true):=T1.shapes 137 _ rfl
 have c2:w1.cell? ⟨0,138,none⟩=some (.bool true):=T1.shapes 138 _ rfl
 have c3:w1.cell? ⟨0,139,none⟩=some (.bool true):=T1.shapes 139 _ rfl
 obtain ⟨f1,f2,f3⟩:=fresh_of g
 have r0:=f1 0 _ rfl
 have r1:=f1 1 _ rfl
 have r2:=f1 2 _ rfl
 have r3:=f1 3 _ rfl
 have r4:=f1 4 _ rfl
 have G:Hid (Gr w w1):=((Gr.refl _).alloc _ _).trans g
 clear f1 T1 g T
 go_wp2_with fail
 refine (taken_rd a _ h0 h1).mono ?_
 rintro e w' ⟨rfl,m_rd,rfl⟩
 go_wp2_with fail
 refine (taken_rs1 a _ h0 h1).mono ?_
 rintro e w' ⟨rfl,m_rs1,rfl⟩
 go_wp2_with fail
 refine (taken_rs2 a _ h0 h1).mono ?_
 rintro e w' ⟨rfl,m_rs2,rfl⟩
 go_wp2_with fail
 refine bodyPost_ret (v:=insV k (Dc.rdF 8 a) (Dc.rs1F 8 a) (Dc.rs2F 8 a) (Dc.immF 8 a)) (by simp [results,Tryz.results108,go_sem,r0,r1,r2,r3,r4,f3,insV,Dc.rdF,Dc.rs1F,Dc.rs2F,Dc.hasRd,Dc.hasRs1,Dc.hasRs2]) rfl ⟨rfl,?_⟩
 have Z:=G.out
 exact ((((((((((((Z.alloc _ _).drewN _).setCell (by simp;omega) _).drewN _).setCell (by simp;omega) _).drewN _).setCell (by simp;omega) _).setCell (by simp) _).setCell (by simp) _).setCell (by simp) _).setCell (by simp) _).setCell (by simp) _)
theorem read_9:Read 9:=by
 intro k a w T h0 h1
 go_enter Tryz.func108,Tryz.ntmps108
 go_wp2_with fail
 refine (readImm_9 a _ (T.of ((Gr.refl _).alloc _ _)) h0 h1).mono ?_
 rintro e w1 ⟨rfl,g⟩
 have T1:=(T.of ((Gr.refl _).alloc _ _)).of g
 have b0:0<w1.heap.size:=lt_of_cell (T1.shapes 0 _ rfl)
 have c1:w1.cell? ⟨0,154,none⟩=some (.bool false):=T1.shapes 154 _ rfl
 have c2:w1.cell? ⟨0,155,none⟩=some (.bool false):=T1.shapes 155 _ rfl
 have c3:w1.cell? ⟨0,156,none⟩=some (.bool false):=T1.shapes 156 _ rfl
 obtain ⟨f1,f2,f3⟩:=fresh_of g
 have r0:=f1 0 _ rfl
 have r1:=f1 1 _ rfl
 have r2:=f1 2 _ rfl
 have r3:=f1 3 _ rfl
 have r4:=f1 4 _ rfl
 have G:Hid (Gr w w1):=((Gr.refl _).alloc _ _).trans g
 clear f1 T1 g T
 go_wp2_with fail
 refine bodyPost_ret (v:=insV k (Dc.rdF 9 a) (Dc.rs1F 9 a) (Dc.rs2F 9 a) (Dc.immF 9 a)) (by simp [results,Tryz.results108,go_sem,r0,r1,r2,r3,r4,f3,insV,Dc.rdF,Dc.rs1F,Dc.rs2F,Dc.hasRd,Dc.hasRs1,Dc.hasRs2]) rfl ⟨rfl,?_⟩
 have Z:=G.out
 exact (((((Z.setCell (by simp) _).setCell (by simp) _).setCell (by simp) _).setCell (by simp) _).setCell (by simp) _).alloc _ _
theorem read_any (f:Int)(h0:0≤f)(h1:f≤9):Read f:=by
 have h:f=0∨f=1∨f=2∨f=3∨f=4∨f=5∨f=6∨f=7∨f=8∨f=9:=by omega
 rcases h with rfl|rfl|rfl|rfl|rfl|rfl|rfl|rfl|rfl|rfl
 ·exact read_0
 ·exact read_1
 ·exact read_2
 ·exact read_3
 ·exact read_4
 ·exact read_5
 ·exact read_6
 ·exact read_7
 ·exact read_8
 ·exact read_9
end Go.Proofs.YtchllaeembmioaaGreatDoor.Dw
namespace Go.Proofs.YtchllaeembmioaaGreatDoor.Dw
open Go.ChangeShapes Go.WideShapes Go.ChangeAt Go.RowKit

variable {a : Int}
def decV (a:Int):Value:=insV (Dc.dop a) (Dc.rdF (Dc.frm (Dc.dop a)) a) (Dc.rs1F (Dc.frm (Dc.dop a)) a) (Dc.rs2F (Dc.frm (Dc.dop a)) a) (Dc.immF (Dc.frm (Dc.dop a)) a)
def decOk (a:Int):Bool:=decide (Dc.dop a≠0)
theorem dec_none (h:Dc.dop a=0):decV a=insV 0 0 0 0 0∧decOk a=false:=by
 unfold decV decOk;rw [h];exact ⟨rfl,rfl⟩
theorem dec_some {k:Int}(h:Dc.dop a=k)(hk:1≤k):decV a=insV k (Dc.rdF (Dc.frm k) a) (Dc.rs1F (Dc.frm k) a) (Dc.rs2F (Dc.frm k) a) (Dc.immF (Dc.frm k) a)∧decOk a=true:=by
 unfold decV decOk;rw [h];exact ⟨rfl,by simp;omega⟩
theorem sp_bd (lo:Int):(1≤Dc.sp1 lo∨Dc.sp2 lo = -1)∧0≤Dc.sp1 lo∧Dc.sp1 lo≤58 ∧ -1≤Dc.sp2 lo∧Dc.sp2 lo≤59∧Dc.sp1 lo≤Dc.sp2 lo+1:=by
 unfold Dc.sp1 Dc.sp2
 by_cases h1:lo=55
 ·simp [h1]
 by_cases h2:lo=23
 ·simp [h2]
 by_cases h3:lo=111
 ·simp [h3]
 by_cases h4:lo=103
 ·simp [h4]
 by_cases h5:lo=99
 ·simp [h5]
 by_cases h6:lo=3
 ·simp [h6]
 by_cases h7:lo=35
 ·simp [h7]
 by_cases h8:lo=19
 ·simp [h8]
 by_cases h9:lo=51
 ·simp [h9]
 by_cases h10:lo=47
 ·simp [h10]
 by_cases h11:lo=15
 ·simp [h11]
 by_cases h12:lo=115
 ·simp [h12]
 simp [h1,h2,h3,h4,h5,h6,h7,h8,h9,h10,h11,h12]
theorem mask_bd (f:Int):0≤Dc.mask f∧Dc.mask f<4294967296:=by
 unfold Dc.mask;repeat' split
 all_goals omega
theorem mask_cell {w:World}(T:Tab w)(f:Int)(h0:0≤f)(h1:f≤9):w.cell? ⟨0,f.toNat*17,none⟩=some (.int .u32 (Dc.mask f)):=by
 have h:f=0∨f=1∨f=2∨f=3∨f=4∨f=5∨f=6∨f=7∨f=8∨f=9:=by omega
 rcases h with rfl|rfl|rfl|rfl|rfl|rfl|rfl|rfl|rfl|rfl
 ·exact T.shapes 0 _ rfl
 ·exact T.shapes 17 _ rfl
 ·exact T.shapes 34 _ rfl
 ·exact T.shapes 51 _ rfl
 ·exact T.shapes 68 _ rfl
 ·exact T.shapes 85 _ rfl
 ·exact T.shapes 102 _ rfl
 ·exact T.shapes 119 _ rfl
 ·exact T.shapes 136 _ rfl
 ·exact T.shapes 153 _ rfl
theorem raw_none {s1 s2:Int}(h0:0≤a)(h1:a<4294967296)(e1:Dc.sp1 (a%128)=s1)(e2:Dc.sp2 (a%128)=s2)(h:∀j,s1≤j→j≤s2→Dc.raw a≠j):Dc.dop a=0:=by
 have:Dc.raw a=0:=by
  by_cases hr:Dc.raw a=0
  ·exact hr
  ·have:=Dc.raw_told h0 h1 hr
   exact absurd rfl (h (Dc.raw a) (by omega) (by omega))
 unfold Dc.dop;rw [this];rfl
theorem Decode_any (a:Int)(w:World)(T:Tab w)(h0:0≤a)(h1:a<4294967296):
  Calls Tryz.prog 86 #[.int .u32 a] w fun e w'=>e=.returned (.tuple #[decV a,.bool (decOk a)])∧Gr w w':=by
 have hs:=sp_bd (a%128)
 go_enter Tryz.func86,Tryz.ntmps86
 go_wp2_with fail
 refine (span_any a _ h0 h1).mono ?_
 rintro e w' ⟨rfl,rfl⟩
 have E1:Hid (Dc.sp1 (a%128)=Dc.sp1 (a%128)):=rfl
 have E2:Hid (Dc.sp2 (a%128)=Dc.sp2 (a%128)):=rfl
 go_wp2_with fail
 generalize hs1:Dc.sp1 (a%128)=s1 at *
 generalize hs2:Dc.sp2 (a%128)=s2 at *
 have H1:Hid (Dc.sp1 (a%128)=s1):=hs1
 have H2:Hid (Dc.sp2 (a%128)=s2):=hs2
 clear hs1 hs2 E1 E2
 obtain ⟨p1,p2,p3,p4,p5,p6⟩:=hs
 go_loopw [6] (fun i wr=>∃k:Int,i=.int .i64 k∧s1≤k∧k≤s2+1∧(∀j,s1≤j→j<k→Dc.raw a≠j)∧Gr (w.alloc (.cells #[.int .i64 0,.int .i64 0,.int .i64 0,.int .i64 0,.int .i32 0] 77)) wr) (fun i _=>(s2+1-intOf i).toNat)
 case atStart=>exact ⟨s1,rfl,by omega,by omega,fun j _ _=>by omega,Gr.refl _⟩
 case round=>
  obtain ⟨k,rfl,k1,k2,k3,g⟩:=hrel
  obtain ⟨f1,f2,f3⟩:=fresh_of g
  have r0:=f1 0 _ rfl
  have r1:=f1 1 _ rfl
  have r2:=f1 2 _ rfl
  have r3:=f1 3 _ rfl
  have r4:=f1 4 _ rfl
  have T1:=(T.of ((Gr.refl _).alloc _ _)).of g
  have G:Hid (Gr w wr):=((Gr.refl _).alloc _ _).trans g
  have G1:Hid (Gr (w.alloc (.cells #[.int .i64 0,.int .i64 0,.int .i64 0,.int .i64 0,.int .i32 0] 77)) wr):=g
  clear f1 g
  by_cases hk:k≤s2
  ·have hfb:=Dc.frm_bd k
   have hti:=Dc.told_iff (w:=a) (k:=k) h0 h1 (by omega) (by omega)
   have hmb:=mask_bd (Dc.frm k)
   have hb:=bits_and_u32 a (Dc.mask (Dc.frm k)) h0 h1 hmb.1 hmb.2
   rw [←hb] at hti
   have HT:Hid (bits .and .u32 a (Dc.mask (Dc.frm k))=Dc.tbits k↔Dc.raw a=k):=hti
   have K3:Hid (∀j,s1≤j→j<k→Dc.raw a≠j):=k3
   clear hb hti hmb k3
   go_wp2_with fail
   refine (told_any k _ T1).mono ?_
   rintro e w2 ⟨rfl,g2⟩
   have m0:=mask_cell (T1.of g2) (Dc.frm k) hfb.1 hfb.2
   have G2:Hid (Gr (w.alloc (.cells #[.int .i64 0,.int .i64 0,.int .i64 0,.int .i64 0,.int .i32 0] 77)) w2):=G1.out.trans g2
   have T2:=T1.of g2
   clear g2 r0 r1 r2 r3 r4 f2 f3 T1 G G1
   by_cases hr:Dc.raw a=k
   ·have nb:(bits .and .u32 a (Dc.mask (Dc.frm k)) != Dc.tbits k)=false:=by simp [HT.out.2 hr]
    have HR:Hid (Dc.raw a=k):=hr
    clear hr
    go_wp2_with fail
    refine (read_any (Dc.frm k) hfb.1 hfb.2 k a w2 T2 h0 h1).mono ?_
    rintro e w3 ⟨rfl,g3⟩
    unfold insV
    have g:=G2.out.trans g3
    obtain ⟨f1,f2,f3⟩:=fresh_of g
    have r0:=f1 0 _ rfl
    have r1:=f1 1 _ rfl
    have r2:=f1 2 _ rfl
    have r3:=f1 3 _ rfl
    have r4:=f1 4 _ rfl
    have G:Hid (Gr w w3):=((Gr.refl _).alloc _ _).trans g
    clear f1 g g3 G2 T2 m0 nb
    by_cases hk46:k=46
    ·subst hk46
     by_cases hz:a/1048576%32=0
     ·obtain ⟨DV0,DO0⟩:=dec_some (a:=a) (k:=46) (by unfold Dc.dop;rw [HR.out,if_neg (by omega)]) (by omega)
      have DV:Hid (decV a=_):=DV0
      have DO:Hid (decOk a=true):=DO0
      have hz':Dc.rs2F (Dc.frm 46) a=0:=hz
      clear DV0 DO0
      go_wp2_with fail
      refine bodyPost_ret (v:=.tuple #[insV 46 (Dc.rdF (Dc.frm 46) a) (Dc.rs1F (Dc.frm 46) a) (Dc.rs2F (Dc.frm 46) a) (Dc.immF (Dc.frm 46) a),.bool true]) (by simp [results,Tryz.results86,go_sem,r0,r1,r2,r3,r4,f3,insV,hz']) rfl ⟨by rw [DV.out,DO.out],?_⟩
      exact (((((G.out.setCell (by simp) _).setCell (by simp) _).setCell (by simp) _).setCell (by simp) _).setCell (by simp) _).alloc _ _
     ·obtain ⟨DV0,DO0⟩:=dec_none (a:=a) (by unfold Dc.dop;rw [HR.out,if_pos ⟨rfl,hz⟩])
      have DV:Hid (decV a=_):=DV0
      have DO:Hid (decOk a=false):=DO0
      have hz':(Dc.rs2F (Dc.frm 46) a != 0)=true:=by rw [show Dc.rs2F (Dc.frm 46) a=a/1048576%32 from rfl];simpa using hz
      clear DV0 DO0
      go_wp2_with fail
      refine bodyPost_ret (v:=.tuple #[insV 0 0 0 0 0,.bool false]) (by simp [results,Tryz.results86,go_sem,r0,r1,r2,r3,r4,f3,insV]) rfl ⟨by rw [DV.out,DO.out],?_⟩
      exact (((((G.out.setCell (by simp) _).setCell (by simp) _).setCell (by simp) _).setCell (by simp) _).setCell (by simp) _).alloc _ _
    ·obtain ⟨DV0,DO0⟩:=dec_some (a:=a) (k:=k) (by unfold Dc.dop;rw [HR.out,if_neg (by omega)]) (by omega)
     have DV:Hid (decV a=_):=DV0
     have DO:Hid (decOk a=true):=DO0
     have b46:(k == 46)=false:=by simpa using hk46
     clear DV0 DO0
     go_wp2_with fail
     refine bodyPost_ret (v:=.tuple #[insV k (Dc.rdF (Dc.frm k) a) (Dc.rs1F (Dc.frm k) a) (Dc.rs2F (Dc.frm k) a) (Dc.immF (Dc.frm k) a),.bool true]) (by simp [results,Tryz.results86,go_sem,r0,r1,r2,r3,r4,f3,insV]) rfl ⟨by rw [DV.out,DO.out],?_⟩
     exact (((((G.out.setCell (by simp) _).setCell (by simp) _).setCell (by simp) _).setCell (by simp) _).setCell (by simp) _).alloc _ _
   ·have nb:(bits .and .u32 a (Dc.mask (Dc.frm k)) != Dc.tbits k)=true:=by simp;intro h;exact hr (HT.out.1 h)
    go_wp2_with fail
    refine ⟨⟨k+1,rfl,by omega,by omega,fun j j1 j2=>?_,G2.out⟩,by simp only [intOf];omega⟩
    by_cases e:j=k
    ·rw [e];exact hr
    ·exact K3.out j j1 (by omega)
  ·obtain ⟨DV0,DO0⟩:=dec_none (raw_none h0 h1 H1.out H2.out fun j j1 j2=>k3 j j1 (by omega))
   have DV:Hid (decV a=_):=DV0
   have DO:Hid (decOk a=false):=DO0
   clear k3 DV0 DO0
   go_wp2
   refine bodyPost_ret (v:=.tuple #[insV 0 0 0 0 0,.bool false]) (by simp [results,Tryz.results86,go_sem,r0,r1,r2,r3,r4,f3,insV]) rfl ⟨by rw [DV.out,DO.out],?_⟩
   exact (((((G.out.setCell (by simp) _).setCell (by simp) _).setCell (by simp) _).setCell (by simp) _).setCell (by simp) _)
end Go.Proofs.YtchllaeembmioaaGreatDoor.Dw
namespace Go.Proofs.YtchllaeembmioaaGreatDoor.Re
open Go.ChangeShapes Go.WideShapes Go.ChangeAt Go.RowKit Dw

variable {a : Int} {w : World}
theorem dop_bd (h0:0≤a)(h1:a<4294967296):0≤Dc.dop a∧Dc.dop a≤59:=by
 have:=Dc.raw_bd h0 h1
 unfold Dc.dop;split<;>omega
theorem frm_pos (k:Int)(h1:1≤k)(h2:k≤59):1≤Dc.frm k:=by
 unfold Dc.frm;repeat' split
 all_goals omega
def RDec (a:Int):Prop:=∀w:World,Calls Tryz.prog 25 #[.int .u32 a] w fun e w'=>e=.returned (.tuple #[decV a,.bool (decOk a)])∧Gr w w'
theorem form_some {k f l:Int}(h0:0≤a)(h1:a<4294967296)(hk:Dc.dop a=k)(hk1:1≤k)(hf:Dc.frm k=f)(hl:letter f=l):
  Calls Tryz.prog 45 #[.int .u32 a] w fun e w'=>e=.returned (.tuple #[.int .i64 k,.int .u8 l])∧Gr w w':=by
 refine (form_any a h0 h1 w).mono ?_
 rintro e w' ⟨⟨l',rfl,h⟩,g⟩
 have e1:=h (by omega)
 rw [hk,hf,hl] at e1
 subst e1
 refine ⟨?_,g⟩
 unfold rop;rw [hk,if_neg (by omega)]
theorem form_zero (h0:0≤a)(h1:a<4294967296)(hk:Dc.dop a=0):
  Calls Tryz.prog 45 #[.int .u32 a] w fun e w'=>(∃l,e=.returned (.tuple #[.int .i64 (-1),.int .u8 l]))∧Gr w w':=by
 refine (form_any a h0 h1 w).mono ?_
 rintro e w' ⟨⟨l',rfl,h⟩,g⟩
 refine ⟨⟨l',?_⟩,g⟩
 unfold rop;rw [hk];rfl
theorem rdec_none (a:Int)(h0:0≤a)(h1:a<4294967296)(hk:Dc.dop a=0):RDec a:=by
 intro w
 obtain ⟨DV0,DO0⟩:=dec_none hk
 have DV:Hid _:=DV0
 have DO:Hid _:=DO0
 have HK:Hid _:=hk
 clear DV0 DO0 hk
 go_enter Tryz.func25,Tryz.ntmps25
 go_wp2_with fail
 refine (form_zero h0 h1 HK.out).mono ?_
 rintro e w1 ⟨⟨l,rfl⟩,g⟩
 obtain ⟨f1,f2,f3⟩:=fresh_of g
 have r0:=f1 0 _ rfl
 have r1:=f1 1 _ rfl
 have r2:=f1 2 _ rfl
 have r3:=f1 3 _ rfl
 have r4:=f1 4 _ rfl
 have G:Hid (Gr w w1):=((Gr.refl _).alloc _ _).trans g
 clear f1 g
 go_wp2_with fail
 refine bodyPost_ret (v:=.tuple #[insV 0 0 0 0 0,.bool false]) (by simp [results,Tryz.results25,go_sem,r0,r1,r2,r3,r4,f3,insV]) rfl ⟨by rw [DV.out,DO.out],?_⟩
 exact (((((G.out.setCell (by simp) _).setCell (by simp) _).setCell (by simp) _).setCell (by simp) _).setCell (by simp) _)
theorem rdec_1 (a k:Int)(h0:0≤a)(h1:a<4294967296)(hk:Dc.dop a=k)(hk1:1≤k)(hk2:k≤59)(hf:Dc.frm k=1):RDec a:=by
 intro w
 obtain ⟨DV0,DO0⟩:=dec_some hk hk1
 rw [hf] at DV0
 have DV:Hid _:=DV0
 have DO:Hid _:=DO0
 have HK:Hid _:=hk
 have HF:Hid _:=hf
 clear DV0 DO0 hk hf
 have sb:=Wd.sg_bd h0 h1
 have sb2 : -2147483648≤Wd.sg a-a%4096:=by unfold Wd.sg;split<;>omega
 go_enter Tryz.func25,Tryz.ntmps25
 go_wp2_with fail
 refine (form_some (l:=85) h0 h1 HK.out hk1 HF.out (by decide)).mono ?_
 rintro e w1 ⟨rfl,g⟩
 obtain ⟨f1,f2,f3⟩:=fresh_of g
 have r0:=f1 0 _ rfl
 have r1:=f1 1 _ rfl
 have r2:=f1 2 _ rfl
 have r3:=f1 3 _ rfl
 have r4:=f1 4 _ rfl
 have G:Hid (Gr w w1):=((Gr.refl _).alloc _ _).trans g
 clear f1 g
 go_wp2_with fail
 refine (Cut_7_11 a _ h0 h1).mono ?_
 rintro e w' ⟨rfl,rfl⟩
 go_wp2_with fail
 refine (Cut_15_19 a _ h0 h1).mono ?_
 rintro e w' ⟨rfl,rfl⟩
 go_wp2_with fail
 refine (Cut_20_24 a _ h0 h1).mono ?_
 rintro e w' ⟨rfl,rfl⟩
 go_wp2_with fail
 refine (Cut_31_31 a _ h0 h1).mono ?_
 rintro e w' ⟨rfl,rfl⟩
 go_wp2_with fail
 refine (Signed_any a _ h0 h1).mono ?_
 rintro e w' ⟨rfl,rfl⟩
 go_wp2_with fail
 refine (Cut_0_11 a _ h0 h1).mono ?_
 rintro e w' ⟨rfl,rfl⟩
 go_wp2_with fail
 refine bodyPost_ret (v:=.tuple #[insV k (Dc.rdF 1 a) (Dc.rs1F 1 a) (Dc.rs2F 1 a) (Dc.immF 1 a),.bool true]) (by simp [results,Tryz.results25,go_sem,r0,r1,r2,r3,r4,f3,insV,Dc.rdF,Dc.rs1F,Dc.rs2F,Dc.hasRd,Dc.hasRs1,Dc.hasRs2,Dc.immF]) rfl ⟨by rw [DV.out,DO.out],?_⟩
 exact (((((G.out.setCell (by simp) _).setCell (by simp) _).setCell (by simp) _).setCell (by simp) _).setCell (by simp) _).alloc _ _
theorem rdec_2 (a k:Int)(h0:0≤a)(h1:a<4294967296)(hk:Dc.dop a=k)(hk1:1≤k)(hk2:k≤59)(hf:Dc.frm k=2):RDec a:=by
 intro w
 obtain ⟨DV0,DO0⟩:=dec_some hk hk1
 rw [hf] at DV0
 have DV:Hid _:=DV0
 have DO:Hid _:=DO0
 have HK:Hid _:=hk
 have HF:Hid _:=hf
 clear DV0 DO0 hk hf
 go_enter Tryz.func25,Tryz.ntmps25
 go_wp2_with fail
 refine (form_some (l:=74) h0 h1 HK.out hk1 HF.out (by decide)).mono ?_
 rintro e w1 ⟨rfl,g⟩
 obtain ⟨f1,f2,f3⟩:=fresh_of g
 have r0:=f1 0 _ rfl
 have r1:=f1 1 _ rfl
 have r2:=f1 2 _ rfl
 have r3:=f1 3 _ rfl
 have r4:=f1 4 _ rfl
 have G:Hid (Gr w w1):=((Gr.refl _).alloc _ _).trans g
 clear f1 g
 go_wp2_with fail
 refine (Cut_7_11 a _ h0 h1).mono ?_
 rintro e w' ⟨rfl,rfl⟩
 go_wp2_with fail
 refine (Cut_15_19 a _ h0 h1).mono ?_
 rintro e w' ⟨rfl,rfl⟩
 go_wp2_with fail
 refine (Cut_20_24 a _ h0 h1).mono ?_
 rintro e w' ⟨rfl,rfl⟩
 go_wp2_with fail
 refine (Cut_31_31 a _ h0 h1).mono ?_
 rintro e w' ⟨rfl,rfl⟩
 go_wp2_with fail
 refine (Cut_12_19 a _ h0 h1).mono ?_
 rintro e w' ⟨rfl,rfl⟩
 go_wp2_with fail
 refine (Cut_20_20 a _ h0 h1).mono ?_
 rintro e w' ⟨rfl,rfl⟩
 go_wp2_with fail
 refine (Cut_21_30 a _ h0 h1).mono ?_
 rintro e w' ⟨rfl,rfl⟩
 go_wp2_with fail
 refine (signed_21 _ _ (by omega) (by omega)).mono ?_
 rintro e w' ⟨rfl,rfl⟩
 go_wp2_with fail
 refine bodyPost_ret (v:=.tuple #[insV k (Dc.rdF 2 a) (Dc.rs1F 2 a) (Dc.rs2F 2 a) (Dc.immF 2 a),.bool true]) (by simp [results,Tryz.results25,go_sem,r0,r1,r2,r3,r4,f3,insV,Dc.rdF,Dc.rs1F,Dc.rs2F,Dc.hasRd,Dc.hasRs1,Dc.hasRs2,Dc.immF]) rfl ⟨by rw [DV.out,DO.out],?_⟩
 exact (((((G.out.setCell (by simp) _).setCell (by simp) _).setCell (by simp) _).setCell (by simp) _).setCell (by simp) _).alloc _ _
theorem rdec_3 (a k:Int)(h0:0≤a)(h1:a<4294967296)(hk:Dc.dop a=k)(hk1:1≤k)(hk2:k≤59)(hf:Dc.frm k=3):RDec a:=by
 intro w
 obtain ⟨DV0,DO0⟩:=dec_some hk hk1
 rw [hf] at DV0
 have DV:Hid _:=DV0
 have DO:Hid _:=DO0
 have HK:Hid _:=hk
 have HF:Hid _:=hf
 clear DV0 DO0 hk hf
 go_enter Tryz.func25,Tryz.ntmps25
 go_wp2_with fail
 refine (form_some (l:=73) h0 h1 HK.out hk1 HF.out (by decide)).mono ?_
 rintro e w1 ⟨rfl,g⟩
 obtain ⟨f1,f2,f3⟩:=fresh_of g
 have r0:=f1 0 _ rfl
 have r1:=f1 1 _ rfl
 have r2:=f1 2 _ rfl
 have r3:=f1 3 _ rfl
 have r4:=f1 4 _ rfl
 have G:Hid (Gr w w1):=((Gr.refl _).alloc _ _).trans g
 clear f1 g
 go_wp2_with fail
 refine (Cut_7_11 a _ h0 h1).mono ?_
 rintro e w' ⟨rfl,rfl⟩
 go_wp2_with fail
 refine (Cut_15_19 a _ h0 h1).mono ?_
 rintro e w' ⟨rfl,rfl⟩
 go_wp2_with fail
 refine (Cut_20_24 a _ h0 h1).mono ?_
 rintro e w' ⟨rfl,rfl⟩
 go_wp2_with fail
 refine (Cut_31_31 a _ h0 h1).mono ?_
 rintro e w' ⟨rfl,rfl⟩
 go_wp2_with fail
 refine (Cut_20_31 a _ h0 h1).mono ?_
 rintro e w' ⟨rfl,rfl⟩
 go_wp2_with fail
 refine (signed_12 _ _ (by omega) (by omega)).mono ?_
 rintro e w' ⟨rfl,rfl⟩
 go_wp2_with fail
 refine bodyPost_ret (v:=.tuple #[insV k (Dc.rdF 3 a) (Dc.rs1F 3 a) (Dc.rs2F 3 a) (Dc.immF 3 a),.bool true]) (by simp [results,Tryz.results25,go_sem,r0,r1,r2,r3,r4,f3,insV,Dc.rdF,Dc.rs1F,Dc.rs2F,Dc.hasRd,Dc.hasRs1,Dc.hasRs2,Dc.immF]) rfl ⟨by rw [DV.out,DO.out],?_⟩
 exact (((((G.out.setCell (by simp) _).setCell (by simp) _).setCell (by simp) _).setCell (by simp) _).setCell (by simp) _).alloc _ _
theorem rdec_4 (a k:Int)(h0:0≤a)(h1:a<4294967296)(hk:Dc.dop a=k)(hk1:1≤k)(hk2:k≤59)(hf:Dc.frm k=4):RDec a:=by
 intro w
 obtain ⟨DV0,DO0⟩:=dec_some hk hk1
 rw [hf] at DV0
 have DV:Hid _:=DV0
 have DO:Hid _:=DO0
 have HK:Hid _:=hk
 have HF:Hid _:=hf
 clear DV0 DO0 hk hf
 go_enter Tryz.func25,Tryz.ntmps25
 go_wp2_with fail
 refine (form_some (l:=72) h0 h1 HK.out hk1 HF.out (by decide)).mono ?_
 rintro e w1 ⟨rfl,g⟩
 obtain ⟨f1,f2,f3⟩:=fresh_of g
 have r0:=f1 0 _ rfl
 have r1:=f1 1 _ rfl
 have r2:=f1 2 _ rfl
 have r3:=f1 3 _ rfl
 have r4:=f1 4 _ rfl
 have G:Hid (Gr w w1):=((Gr.refl _).alloc _ _).trans g
 clear f1 g
 go_wp2_with fail
 refine (Cut_7_11 a _ h0 h1).mono ?_
 rintro e w' ⟨rfl,rfl⟩
 go_wp2_with fail
 refine (Cut_15_19 a _ h0 h1).mono ?_
 rintro e w' ⟨rfl,rfl⟩
 go_wp2_with fail
 refine (Cut_20_24 a _ h0 h1).mono ?_
 rintro e w' ⟨rfl,rfl⟩
 go_wp2_with fail
 refine (Cut_31_31 a _ h0 h1).mono ?_
 rintro e w' ⟨rfl,rfl⟩
 go_wp2_with fail
 refine bodyPost_ret (v:=.tuple #[insV k (Dc.rdF 4 a) (Dc.rs1F 4 a) (Dc.rs2F 4 a) (Dc.immF 4 a),.bool true]) (by simp [results,Tryz.results25,go_sem,r0,r1,r2,r3,r4,f3,insV,Dc.rdF,Dc.rs1F,Dc.rs2F,Dc.hasRd,Dc.hasRs1,Dc.hasRs2,Dc.immF]) rfl ⟨by rw [DV.out,DO.out],?_⟩
 exact (((((G.out.setCell (by simp) _).setCell (by simp) _).setCell (by simp) _).setCell (by simp) _).setCell (by simp) _).alloc _ _
theorem rdec_5 (a k:Int)(h0:0≤a)(h1:a<4294967296)(hk:Dc.dop a=k)(hk1:1≤k)(hk2:k≤59)(hf:Dc.frm k=5):RDec a:=by
 intro w
 obtain ⟨DV0,DO0⟩:=dec_some hk hk1
 rw [hf] at DV0
 have DV:Hid _:=DV0
 have DO:Hid _:=DO0
 have HK:Hid _:=hk
 have HF:Hid _:=hf
 clear DV0 DO0 hk hf
 go_enter Tryz.func25,Tryz.ntmps25
 go_wp2_with fail
 refine (form_some (l:=66) h0 h1 HK.out hk1 HF.out (by decide)).mono ?_
 rintro e w1 ⟨rfl,g⟩
 obtain ⟨f1,f2,f3⟩:=fresh_of g
 have r0:=f1 0 _ rfl
 have r1:=f1 1 _ rfl
 have r2:=f1 2 _ rfl
 have r3:=f1 3 _ rfl
 have r4:=f1 4 _ rfl
 have G:Hid (Gr w w1):=((Gr.refl _).alloc _ _).trans g
 clear f1 g
 go_wp2_with fail
 refine (Cut_7_11 a _ h0 h1).mono ?_
 rintro e w' ⟨rfl,rfl⟩
 go_wp2_with fail
 refine (Cut_15_19 a _ h0 h1).mono ?_
 rintro e w' ⟨rfl,rfl⟩
 go_wp2_with fail
 refine (Cut_20_24 a _ h0 h1).mono ?_
 rintro e w' ⟨rfl,rfl⟩
 go_wp2_with fail
 refine (Cut_31_31 a _ h0 h1).mono ?_
 rintro e w' ⟨rfl,rfl⟩
 go_wp2_with fail
 refine (Cut_7_7 a _ h0 h1).mono ?_
 rintro e w' ⟨rfl,rfl⟩
 go_wp2_with fail
 refine (Cut_25_30 a _ h0 h1).mono ?_
 rintro e w' ⟨rfl,rfl⟩
 go_wp2_with fail
 refine (Cut_8_11 a _ h0 h1).mono ?_
 rintro e w' ⟨rfl,rfl⟩
 go_wp2_with fail
 refine (signed_13 _ _ (by omega) (by omega)).mono ?_
 rintro e w' ⟨rfl,rfl⟩
 go_wp2_with fail
 refine bodyPost_ret (v:=.tuple #[insV k (Dc.rdF 5 a) (Dc.rs1F 5 a) (Dc.rs2F 5 a) (Dc.immF 5 a),.bool true]) (by simp [results,Tryz.results25,go_sem,r0,r1,r2,r3,r4,f3,insV,Dc.rdF,Dc.rs1F,Dc.rs2F,Dc.hasRd,Dc.hasRs1,Dc.hasRs2,Dc.immF]) rfl ⟨by rw [DV.out,DO.out],?_⟩
 exact (((((G.out.setCell (by simp) _).setCell (by simp) _).setCell (by simp) _).setCell (by simp) _).setCell (by simp) _).alloc _ _
theorem rdec_6 (a k:Int)(h0:0≤a)(h1:a<4294967296)(hk:Dc.dop a=k)(hk1:1≤k)(hk2:k≤59)(hf:Dc.frm k=6):RDec a:=by
 intro w
 obtain ⟨DV0,DO0⟩:=dec_some hk hk1
 rw [hf] at DV0
 have DV:Hid _:=DV0
 have DO:Hid _:=DO0
 have HK:Hid _:=hk
 have HF:Hid _:=hf
 clear DV0 DO0 hk hf
 go_enter Tryz.func25,Tryz.ntmps25
 go_wp2_with fail
 refine (form_some (l:=83) h0 h1 HK.out hk1 HF.out (by decide)).mono ?_
 rintro e w1 ⟨rfl,g⟩
 obtain ⟨f1,f2,f3⟩:=fresh_of g
 have r0:=f1 0 _ rfl
 have r1:=f1 1 _ rfl
 have r2:=f1 2 _ rfl
 have r3:=f1 3 _ rfl
 have r4:=f1 4 _ rfl
 have G:Hid (Gr w w1):=((Gr.refl _).alloc _ _).trans g
 clear f1 g
 go_wp2_with fail
 refine (Cut_7_11 a _ h0 h1).mono ?_
 rintro e w' ⟨rfl,rfl⟩
 go_wp2_with fail
 refine (Cut_15_19 a _ h0 h1).mono ?_
 rintro e w' ⟨rfl,rfl⟩
 go_wp2_with fail
 refine (Cut_20_24 a _ h0 h1).mono ?_
 rintro e w' ⟨rfl,rfl⟩
 go_wp2_with fail
 refine (Cut_31_31 a _ h0 h1).mono ?_
 rintro e w' ⟨rfl,rfl⟩
 go_wp2_with fail
 refine (Cut_25_31 a _ h0 h1).mono ?_
 rintro e w' ⟨rfl,rfl⟩
 go_wp2_with fail
 refine (Cut_7_11 a _ h0 h1).mono ?_
 rintro e w' ⟨rfl,rfl⟩
 go_wp2_with fail
 refine (signed_12 _ _ (by omega) (by omega)).mono ?_
 rintro e w' ⟨rfl,rfl⟩
 go_wp2_with fail
 refine bodyPost_ret (v:=.tuple #[insV k (Dc.rdF 6 a) (Dc.rs1F 6 a) (Dc.rs2F 6 a) (Dc.immF 6 a),.bool true]) (by simp [results,Tryz.results25,go_sem,r0,r1,r2,r3,r4,f3,insV,Dc.rdF,Dc.rs1F,Dc.rs2F,Dc.hasRd,Dc.hasRs1,Dc.hasRs2,Dc.immF]) rfl ⟨by rw [DV.out,DO.out],?_⟩
 exact (((((G.out.setCell (by simp) _).setCell (by simp) _).setCell (by simp) _).setCell (by simp) _).setCell (by simp) _).alloc _ _
theorem rdec_7 (a k:Int)(h0:0≤a)(h1:a<4294967296)(hk:Dc.dop a=k)(hk1:1≤k)(hk2:k≤59)(hf:Dc.frm k=7):RDec a:=by
 intro w
 obtain ⟨DV0,DO0⟩:=dec_some hk hk1
 rw [hf] at DV0
 have DV:Hid _:=DV0
 have DO:Hid _:=DO0
 have HK:Hid _:=hk
 have HF:Hid _:=hf
 clear DV0 DO0 hk hf
 go_enter Tryz.func25,Tryz.ntmps25
 go_wp2_with fail
 refine (form_some (l:=82) h0 h1 HK.out hk1 HF.out (by decide)).mono ?_
 rintro e w1 ⟨rfl,g⟩
 obtain ⟨f1,f2,f3⟩:=fresh_of g
 have r0:=f1 0 _ rfl
 have r1:=f1 1 _ rfl
 have r2:=f1 2 _ rfl
 have r3:=f1 3 _ rfl
 have r4:=f1 4 _ rfl
 have G:Hid (Gr w w1):=((Gr.refl _).alloc _ _).trans g
 clear f1 g
 go_wp2_with fail
 refine (Cut_7_11 a _ h0 h1).mono ?_
 rintro e w' ⟨rfl,rfl⟩
 go_wp2_with fail
 refine (Cut_15_19 a _ h0 h1).mono ?_
 rintro e w' ⟨rfl,rfl⟩
 go_wp2_with fail
 refine (Cut_20_24 a _ h0 h1).mono ?_
 rintro e w' ⟨rfl,rfl⟩
 go_wp2_with fail
 refine (Cut_31_31 a _ h0 h1).mono ?_
 rintro e w' ⟨rfl,rfl⟩
 go_wp2_with fail
 refine bodyPost_ret (v:=.tuple #[insV k (Dc.rdF 7 a) (Dc.rs1F 7 a) (Dc.rs2F 7 a) (Dc.immF 7 a),.bool true]) (by simp [results,Tryz.results25,go_sem,r0,r1,r2,r3,r4,f3,insV,Dc.rdF,Dc.rs1F,Dc.rs2F,Dc.hasRd,Dc.hasRs1,Dc.hasRs2,Dc.immF]) rfl ⟨by rw [DV.out,DO.out],?_⟩
 exact (((((G.out.setCell (by simp) _).setCell (by simp) _).setCell (by simp) _).setCell (by simp) _).setCell (by simp) _).alloc _ _
theorem rdec_8 (a k:Int)(h0:0≤a)(h1:a<4294967296)(hk:Dc.dop a=k)(hk1:1≤k)(hk2:k≤59)(hf:Dc.frm k=8):RDec a:=by
 intro w
 obtain ⟨DV0,DO0⟩:=dec_some hk hk1
 rw [hf] at DV0
 have DV:Hid _:=DV0
 have DO:Hid _:=DO0
 have HK:Hid _:=hk
 have HF:Hid _:=hf
 clear DV0 DO0 hk hf
 go_enter Tryz.func25,Tryz.ntmps25
 go_wp2_with fail
 refine (form_some (l:=65) h0 h1 HK.out hk1 HF.out (by decide)).mono ?_
 rintro e w1 ⟨rfl,g⟩
 obtain ⟨f1,f2,f3⟩:=fresh_of g
 have r0:=f1 0 _ rfl
 have r1:=f1 1 _ rfl
 have r2:=f1 2 _ rfl
 have r3:=f1 3 _ rfl
 have r4:=f1 4 _ rfl
 have G:Hid (Gr w w1):=((Gr.refl _).alloc _ _).trans g
 clear f1 g
 go_wp2_with fail
 refine (Cut_7_11 a _ h0 h1).mono ?_
 rintro e w' ⟨rfl,rfl⟩
 go_wp2_with fail
 refine (Cut_15_19 a _ h0 h1).mono ?_
 rintro e w' ⟨rfl,rfl⟩
 go_wp2_with fail
 refine (Cut_20_24 a _ h0 h1).mono ?_
 rintro e w' ⟨rfl,rfl⟩
 go_wp2_with fail
 refine (Cut_31_31 a _ h0 h1).mono ?_
 rintro e w' ⟨rfl,rfl⟩
 go_wp2_with fail
 refine (Cut_25_26 a _ h0 h1).mono ?_
 rintro e w' ⟨rfl,rfl⟩
 go_wp2_with fail
 refine bodyPost_ret (v:=.tuple #[insV k (Dc.rdF 8 a) (Dc.rs1F 8 a) (Dc.rs2F 8 a) (Dc.immF 8 a),.bool true]) (by simp [results,Tryz.results25,go_sem,r0,r1,r2,r3,r4,f3,insV,Dc.rdF,Dc.rs1F,Dc.rs2F,Dc.hasRd,Dc.hasRs1,Dc.hasRs2,Dc.immF]) rfl ⟨by rw [DV.out,DO.out],?_⟩
 exact (((((G.out.setCell (by simp) _).setCell (by simp) _).setCell (by simp) _).setCell (by simp) _).setCell (by simp) _).alloc _ _
theorem rdec_9 (a k:Int)(h0:0≤a)(h1:a<4294967296)(hk:Dc.dop a=k)(hk1:1≤k)(hk2:k≤59)(hf:Dc.frm k=9):RDec a:=by
 intro w
 obtain ⟨DV0,DO0⟩:=dec_some hk hk1
 rw [hf] at DV0
 have DV:Hid _:=DV0
 have DO:Hid _:=DO0
 have HK:Hid _:=hk
 have HF:Hid _:=hf
 clear DV0 DO0 hk hf
 go_enter Tryz.func25,Tryz.ntmps25
 go_wp2_with fail
 refine (form_some (l:=69) h0 h1 HK.out hk1 HF.out (by decide)).mono ?_
 rintro e w1 ⟨rfl,g⟩
 obtain ⟨f1,f2,f3⟩:=fresh_of g
 have r0:=f1 0 _ rfl
 have r1:=f1 1 _ rfl
 have r2:=f1 2 _ rfl
 have r3:=f1 3 _ rfl
 have r4:=f1 4 _ rfl
 have G:Hid (Gr w w1):=((Gr.refl _).alloc _ _).trans g
 clear f1 g
 go_wp2_with fail
 refine bodyPost_ret (v:=.tuple #[insV k (Dc.rdF 9 a) (Dc.rs1F 9 a) (Dc.rs2F 9 a) (Dc.immF 9 a),.bool true]) (by simp [results,Tryz.results25,go_sem,r0,r1,r2,r3,r4,f3,insV,Dc.rdF,Dc.rs1F,Dc.rs2F,Dc.hasRd,Dc.hasRs1,Dc.hasRs2,Dc.immF]) rfl ⟨by rw [DV.out,DO.out],?_⟩
 exact (((((G.out.setCell (by simp) _).setCell (by simp) _).setCell (by simp) _).setCell (by simp) _).setCell (by simp) _).alloc _ _
theorem RDecode_any (a:Int)(h0:0≤a)(h1:a<4294967296):RDec a:=by
 by_cases hk:Dc.dop a=0
 ·exact rdec_none a h0 h1 hk
 have hb:=dop_bd h0 h1
 have hf:=frm_pos (Dc.dop a) (by omega) hb.2
 have h:Dc.frm (Dc.dop a)=1∨Dc.frm (Dc.dop a)=2∨Dc.frm (Dc.dop a)=3∨Dc.frm (Dc.dop a)=4∨Dc.frm (Dc.dop a)=5∨Dc.frm (Dc.dop a)=6∨Dc.frm (Dc.dop a)=7∨Dc.frm (Dc.dop a)=8∨Dc.frm (Dc.dop a)=9:=by
  have:=Dc.frm_bd (Dc.dop a);omega
 rcases h with h|h|h|h|h|h|h|h|h
 ·exact rdec_1 a _ h0 h1 rfl (by omega) hb.2 h
 ·exact rdec_2 a _ h0 h1 rfl (by omega) hb.2 h
 ·exact rdec_3 a _ h0 h1 rfl (by omega) hb.2 h
 ·exact rdec_4 a _ h0 h1 rfl (by omega) hb.2 h
 ·exact rdec_5 a _ h0 h1 rfl (by omega) hb.2 h
 ·exact rdec_6 a _ h0 h1 rfl (by omega) hb.2 h
 ·exact rdec_7 a _ h0 h1 rfl (by omega) hb.2 h
 ·exact rdec_8 a _ h0 h1 rfl (by omega) hb.2 h
 ·exact rdec_9 a _ h0 h1 rfl (by omega) hb.2 h
end Go.Proofs.YtchllaeembmioaaGreatDoor.Re
