/-
  Kr4, MachineRunsW, EsW: texts of ours that lie in one file.
-/
import Derived.Test.YtchllaeembmioaaGreatDoorK01
import Derived.Test.YtchllaeembmioaaGreatDoorK40
import Derived.Test.YtchllaeembmioaaGreatDoorK12
import Derived.Test.YtchllaeembmioaaGreatDoorK03
set_option linter.unusedVariables false
set_option linter.unusedSimpArgs false
set_option maxHeartbeats 8000000
set_option maxRecDepth 100000
namespace Go.Proofs.YtchllaeembmioaaGreatDoor.Kc
open Go.ChangeShapes Go.WideShapes Go.ChangeAt Go.RowKit Mm Ts

variable {w : World} {n : Nat}
theorem heapN {g:Nat}{x:Option Obj}(h:w.heap[g]?=x):(w.drewN n).heap[g]?=x:=h
theorem upK {w':World}(g:Gr w w'){k:Nat}{x:Obj}(h:w.heap[k]?=some x):w'.heap[k]?=some x:=by
 rw [g.block k (gs h).1];exact h
theorem Same6 {w:World}{b:Bv}{x1 y1 x2 y2:Value}(B1:Bc w b x1 y1)(B2:Bc w b x2 y2):
  Calls Tryz.prog 14 #[.agg #[x1,y1],.agg #[x2,y2]] w fun e w'=>e=.returned (.bool true)∧Gr w w':=by
 obtain ⟨rfl,_,a1,n1,c1,rfl,I1,hb1⟩:=B1
 obtain ⟨rfl,_,a2,n2,c2,rfl,I2,hb2⟩:=B2
 have e12:n2=n1:=I2.len.symm.trans I1.len
 subst e12
 have HN:Hid (b.is.length=n2):=I1.len
 have H1:Hid (Is w a1 n2 b.is):=I1
 have H2:Hid (Is w a2 n2 b.is):=I2
 generalize b.pc=pc at *
 clear I1 I2
 go_enter Tryz.func14,Tryz.ntmps14
 go_wp2
 go_loopw [5] (fun i wr=>∃j:Nat,j≤n2∧i=.int .i64 j∧wr.heap[w.heap.size]?=some (.cells #[.int .u32 pc,.slice a1 n2 c1] 45 (0,0))∧wr.heap[w.heap.size+1]?=some (.cells #[.int .u32 pc,.slice a2 n2 c2] 45 (0,0))∧Gr w wr) (fun i _=>n2-(intOf i).toNat)
 case atStart=>exact ⟨0,Nat.zero_le _,rfl,heap_alloc2_old w _ _,heap_alloc2_new w _ _,((Gr.refl _).alloc _).alloc _⟩
 case round=>
  obtain ⟨j,hj,rfl,B1,B2,G⟩:=hrel
  have HB1:Hid (wr.heap[w.heap.size]?=some (.cells #[.int .u32 pc,.slice a1 n2 c1] 45 (0,0))):=B1
  have HB2:Hid (wr.heap[w.heap.size+1]?=some (.cells #[.int .u32 pc,.slice a2 n2 c2] 45 (0,0))):=B2
  have HG:Hid (Gr w wr):=G
  have k1:wr.cell? ⟨w.heap.size,1,none⟩=some (.slice a1 n2 c1):=cell_of_row _ _ _ _ _ _ B1
  have k2:wr.cell? ⟨w.heap.size+1,1,none⟩=some (.slice a2 n2 c2):=cell_of_row _ _ _ _ _ _ B2
  clear B1 B2 G
  by_cases hlt:j<n2
  ·obtain ⟨x,hx⟩:∃x,b.is[j]?=some x:=⟨_,List.getElem?_eq_getElem (by rw [HN.out];exact hlt)⟩
   obtain ⟨g1,o1,rfl,l1,f1⟩:=(H1.out.of HG.out).spot (by omega)
   obtain ⟨g2,o2,rfl,l2,f2⟩:=(H2.out.of HG.out).spot (by omega)
   obtain ⟨p0,p1,p2,p3,p4⟩:=f1 j x hx
   obtain ⟨q0,q1,q2,q3,q4⟩:=f2 j x hx
   clear f1 f2 hx H1 H2
   obtain ⟨z0,z1,z2,z3,z4⟩:=x
   simp only at *
   go_wp2
   go_quiet (fail)
   go_wp2
   go_roundw
   case rel=>exact ⟨j+1,by omega,by go_num,heapN HB1.out,heapN HB2.out,HG.out.drewN _⟩
   case measure=>simp [intOf];omega
  ·go_wp2
   go_ret
   exact ⟨rfl,HG.out⟩
theorem Same9 {w:World}{bs:List Bv}{a1 a2:Option Addr}{n:Nat}(c1 c2:Nat)(B1:Bs w a1 n bs)(B2:Bs w a2 n bs)(hn:n≤140737488351232)(room pu sl:Int):
  Calls Tryz.prog 10 #[.agg #[.int .i64 room,.slice a1 n c1,.int .i64 pu,.int .i64 sl],.agg #[.int .i64 room,.slice a2 n c2,.int .i64 pu,.int .i64 sl]] w fun e w'=>e=.returned (.bool true)∧Gr w w':=by
 have HN:Hid (bs.length=n):=B1.len
 have H1:Hid (Bs w a1 n bs):=B1
 have H2:Hid (Bs w a2 n bs):=B2
 have S6:Hid (∀(W:World) (b:Bv) (x1 y1 x2 y2:Value),Bc W b x1 y1→Bc W b x2 y2→Calls Tryz.prog 14 #[.agg #[x1,y1],.agg #[x2,y2]] W fun e w'=>e=.returned (.bool true)∧Gr W w'):=fun W b x1 y1 x2 y2=>Same6
 clear B1 B2
 go_enter Tryz.func10,Tryz.ntmps10
 go_wp2_with fail
 go_loopw [5] (fun i wr=>∃j:Nat,j≤n∧i=.int .i64 j∧wr.heap[w.heap.size]?=some (.cells #[.int .i64 room,.slice a1 n c1,.int .i64 pu,.int .i64 sl] 35 (0,0))∧wr.heap[w.heap.size+1]?=some (.cells #[.int .i64 room,.slice a2 n c2,.int .i64 pu,.int .i64 sl] 35 (0,0))∧Gr w wr) (fun i _=>n-(intOf i).toNat)
 case atStart=>exact ⟨0,Nat.zero_le _,rfl,heap_alloc2_old w _ _,heap_alloc2_new w _ _,((Gr.refl _).alloc _).alloc _⟩
 case round=>
  obtain ⟨j,hj,rfl,B1,B2,G⟩:=hrel
  have HB1:Hid (wr.heap[w.heap.size]?=some (.cells #[.int .i64 room,.slice a1 n c1,.int .i64 pu,.int .i64 sl] 35 (0,0))):=B1
  have HB2:Hid (wr.heap[w.heap.size+1]?=some (.cells #[.int .i64 room,.slice a2 n c2,.int .i64 pu,.int .i64 sl] 35 (0,0))):=B2
  have HG:Hid (Gr w wr):=G
  have k1:wr.cell? ⟨w.heap.size,1,none⟩=some (.slice a1 n c1):=cell_of_row _ _ _ _ _ _ B1
  have k2:wr.cell? ⟨w.heap.size+1,1,none⟩=some (.slice a2 n c2):=cell_of_row _ _ _ _ _ _ B2
  clear B1 B2 G
  by_cases hlt:j<n
  ·obtain ⟨x,hx⟩:∃x,bs[j]?=some x:=⟨_,List.getElem?_eq_getElem (by rw [HN.out];exact hlt)⟩
   obtain ⟨g1,o1,rfl,l1,f1⟩:=(H1.out.of HG.out).spot (by omega)
   obtain ⟨g2,o2,rfl,l2,f2⟩:=(H2.out.of HG.out).spot (by omega)
   obtain ⟨u1,v1,p0,p1,bc1⟩:=f1 j x hx
   obtain ⟨u2,v2,q0,q1,bc2⟩:=f2 j x hx
   have S7:Hid (∀W:World,Gr wr W→Calls Tryz.prog 14 #[.agg #[u1,v1],.agg #[u2,v2]] W fun e w'=>e=.returned (.bool true)∧Gr W w'):=fun W G=>S6.out W x u1 v1 u2 v2 (bc1.of G) (bc2.of G)
   obtain ⟨rfl,_,m1,r1,s1,rfl,_⟩:=bc1
   obtain ⟨rfl,_,m2,r2,s2,rfl,_⟩:=bc2
   clear f1 f2 hx H1 H2 S6
   generalize x.pc=pc at *
   go_wp2_with fail
   go_region_with ((go_at_call 14;refine (S7.out _ (by repeat (first|exact Gr.refl wr|refine Gr.drewN ?_ _|refine Gr.drew ?_|refine Gr.alloc ?_ _))).mono ?_;rintro e w2 ⟨rfl,G2⟩;have HG2:Hid (Gr wr w2):=Gr.trans (by repeat (first|exact Gr.refl wr|refine Gr.drewN ?_ _|refine Gr.drew ?_|refine Gr.alloc ?_ _)) G2;clear G2))
   all_goals
    go_wp2_with fail
    go_roundw
    case rel=>exact ⟨j+1,by omega,by go_num,upK HG2.out HB1.out,upK HG2.out HB2.out,HG.out.trans HG2.out⟩
    case measure=>simp [intOf];omega
  ·go_wp2_with fail
   go_ret
   exact ⟨rfl,HG.out⟩
end Go.Proofs.YtchllaeembmioaaGreatDoor.Kc
namespace Go.Proofs.YtchllaeembmioaaGreatDoor.machineRuns
open Go.ChangeShapes Go.WideShapes Go.ChangeAt Go.RowKit Mm Hh Hc Mc

theorem zeros (w:World):Shw w (.agg #[.slice none 0 0,.slice none 0 0,.slice none 0 0,.int .i64 0]) 0 0 ⟨[],[],[],0⟩:=
 ⟨none,0,none,0,none,0,rfl,⟨rfl,fun _=>rfl,fun ad e=>by cases e⟩,⟨rfl,fun h hm=>(by cases hm),fun h=>absurd h (by omega)⟩,⟨rfl,fun _=>rfl,fun ad e=>by cases e⟩⟩
end Go.Proofs.YtchllaeembmioaaGreatDoor.machineRuns
namespace Go.Proofs.YtchllaeembmioaaGreatDoor.En
open Go.ChangeShapes Go.WideShapes Go.ChangeAt Go.RowKit Mm Hh Hc Mc

def ErNo (w:World) (ma ha pa:Option Addr) (mn mc hn hc pn pc:Nat) (room E:Int):Prop:=
 ∀W:World,Gr w W→Calls Tryz.prog 8 #[.agg #[.slice ma mn mc,.slice ha hn hc],.slice pa pn pc,.int .i64 room] W fun e w'=>∃v a c,e=.returned (.tuple #[v,.agg #[.int .i64 0,.slice a 0 c,.int .i64 0,.int .i64 0],.int .i64 E])∧Shw w' v 0 0 ⟨[],[],[],0⟩∧Gr W w'
def ErYes (w:World) (ma ha pa:Option Addr) (mn mc hn hc pn pc:Nat) (room:Int) (S:Sh) (F:List Kc.Bv→Int→Int→Prop):Prop:=
 ∀W:World,Gr w W→Calls Tryz.prog 8 #[.agg #[.slice ma mn mc,.slice ha hn hc],.slice pa pn pc,.int .i64 room] W fun e w'=>∃v a m c pu sl L,e=.returned (.tuple #[v,.agg #[.int .i64 room,.slice a m c,.int .i64 pu,.int .i64 sl],.int .i64 0])∧Shw w' v hn mn S∧(Kc.Bs w' a m L∧m≤c∧F L pu sl)∧Gr W w'
theorem es_no {ma ha pa:Option Addr}{hn pn:Nat}(mc hc pc:Nat){m:List UInt8}{hs:List Hv}{ps:List (Int×Int)}{w:World}(mn:Nat)(room:Int)(hmn:m.length=mn)(H:Hs w ha hn hs)(P:Ps w pa pn ps)(b1:mn≤140737488351232)(b2:hn≤140737488351232)(b3:pn≤140737488351232)(hno:¬wrong m hs ps=0)(R:ErNo w ma ha pa mn mc hn hc pn pc room (wrong m hs ps)):
  Calls Tryz.prog 3 #[.agg #[.slice ma mn mc,.slice ha hn hc],.slice pa pn pc,.int .i64 room] w fun e w'=>e=.returned (.bool true)∧Gr w w':=by
 have HWr:Hid (∀W:World,Gr w W→Calls Tryz.prog 6 #[.agg #[.slice ma mn mc,.slice ha hn hc],.slice pa pn pc] W fun e w'=>e=.returned (.int .i64 (wrong m hs ps))∧Gr W w'):=fun W G=>Wrong_any (fun h o W=>rmay_any o W) mc hc pc mn hmn (H.of G) (P.of G) b1 b2 b3
 have HR:Hid (ErNo w ma ha pa mn mc hn hc pn pc room (wrong m hs ps)):=R
 clear H P hmn R
 generalize wrong m hs ps=E at *
 have hE:(E != 0)=true:=by simpa using hno
 have hE2:(E == 0)=false:=by simpa using hno
 have hE3:(E == E)=true:=by simp
 clear hno
 go_enter Tryz.func3,Tryz.ntmps3
 go_wp2_with fail
 refine (HWr.out _ ((Gr.refl _).alloc _)).mono ?_
 rintro e w1 ⟨rfl,G1⟩
 have HG1:Hid (Gr w w1):=((Gr.refl _).alloc _).trans G1
 have HB1:Hid (w1.heap[w.heap.size]?=some (.cells #[.slice ma mn mc,.slice ha hn hc] 25 (0,0))):=Hr.heap_of_gr G1 (heap_alloc_new w _)
 have x0:w1.cell? ⟨w.heap.size,0,none⟩=some (.slice ma mn mc):=cell_of_row _ _ _ _ _ _ HB1.out
 have x1:w1.cell? ⟨w.heap.size,1,none⟩=some (.slice ha hn hc):=cell_of_row _ _ _ _ _ _ HB1.out
 clear G1 HWr
 go_wp2_with fail
 refine (HR.out _ HG1.out).mono ?_
 rintro e w3 ⟨v,a,c,rfl,S3,G3⟩
 have HS3:Hid (Shw w3 v 0 0 ⟨[],[],[],0⟩):=S3
 obtain ⟨s1,d1,s2,d2,s3,d3,rfl,_⟩:=S3
 have HG3:Hid (Gr w w3):=HG1.out.trans G3
 clear G3 HR x0 x1
 go_wp2_with fail
 refine (Same_w ((HS3.out.of ((Gr.refl _).alloc _)).of ((Gr.refl _).alloc _)) (machineRuns.zeros _) (by decide) (by omega)).mono ?_
 rintro e w4 ⟨rfl,G4⟩
 have HG4:Hid (Gr w w4):=((HG3.out.alloc _).alloc _).trans G4
 have HC4:Hid (w4.heap[w3.heap.size+1]?=some (.cells #[.int .i64 0,.slice a 0 c,.int .i64 0,.int .i64 0] 35 (0,0))):=Hr.heap_of_gr G4 (by have:=heap_alloc_new (w3.alloc (.cells #[.slice s1 0 d1,.slice s2 0 d2,.slice s3 0 d3,.int .i64 0] 32)) (.cells #[.int .i64 0,.slice a 0 c,.int .i64 0,.int .i64 0] 35);simpa using this)
 have y0:w4.cell? ⟨w3.heap.size+1,0,none⟩=some (.int .i64 0):=cell_of_row _ _ _ _ _ _ HC4.out
 have y1:w4.cell? ⟨w3.heap.size+1,1,none⟩=some (.slice a 0 c):=cell_of_row _ _ _ _ _ _ HC4.out
 have y2:w4.cell? ⟨w3.heap.size+1,2,none⟩=some (.int .i64 0):=cell_of_row _ _ _ _ _ _ HC4.out
 have y3:w4.cell? ⟨w3.heap.size+1,3,none⟩=some (.int .i64 0):=cell_of_row _ _ _ _ _ _ HC4.out
 clear G4 HS3
 go_wp2_with fail
 refine (Kc.Same9 c 0 (Kc.bs_nil _ _) (Kc.bs_nil _ _) (by omega) 0 0 0).mono ?_
 rintro e w5 ⟨rfl,G5⟩
 have HG5:Hid (Gr w w5):=HG4.out.trans G5
 clear G5 y0 y1 y2 y3 HC4
 go_wp2_with fail
 go_ret
 exact ⟨rfl,HG5.out⟩
theorem es_rng {ma ha pa:Option Addr}{hn pn:Nat}(mc hc pc:Nat){m:List UInt8}{hs:List Hv}{ps:List (Int×Int)}{w:World}(mn:Nat)(room:Int)(hml:m.length=mn)(H:Hs w ha hn hs)(P:Ps w pa pn ps)(hy:wrong m hs ps=0)(hr:room<0∨¬room<0∧64<room)(R:ErNo w ma ha pa mn mc hn hc pn pc room 3):
  Calls Tryz.prog 3 #[.agg #[.slice ma mn mc,.slice ha hn hc],.slice pa pn pc,.int .i64 room] w fun e w'=>e=.returned (.bool true)∧Gr w w':=by
 obtain ⟨b1,b2,b4,_,b3,hpk⟩:=wrong_ok hy
 have hl:=H.len
 have hpl:=P.len
 have HWr:Hid (∀W:World,Gr w W→Calls Tryz.prog 6 #[.agg #[.slice ma mn mc,.slice ha hn hc],.slice pa pn pc] W fun e w'=>e=.returned (.int .i64 0)∧Gr W w'):=fun W G=>(Wrong_any (fun h o W=>rmay_any o W) mc hc pc mn hml (H.of G) (P.of G) (by omega) (by omega) (by omega)).mono fun e w' h=>⟨by rw [h.1,hy],h.2⟩
 have HWk:Hid (∀W:World,Gr w W→Calls Tryz.prog 7 #[.slice pa pn pc] W fun e w'=>∃z,e=.returned (.int .i64 z)∧Gr W w'):=fun W G=>work_any pc (P.of G) (by omega) (fun p hp=>⟨(hpk p hp).2.2.1,(hpk p hp).2.2.2⟩)
 have HR:Hid (ErNo w ma ha pa mn mc hn hc pn pc room 3):=R
 clear H P hy hl hpl hml b1 b2 b4 b3 hpk R
 rcases hr with hr|⟨hr,hr'⟩
 all_goals
  go_enter Tryz.func3,Tryz.ntmps3
  go_wp2_with fail
  refine (HWr.out _ ((Gr.refl _).alloc _)).mono ?_
  rintro e w1 ⟨rfl,G1⟩
  have HG1:Hid (Gr w w1):=((Gr.refl _).alloc _).trans G1
  have HB1:Hid (w1.heap[w.heap.size]?=some (.cells #[.slice ma mn mc,.slice ha hn hc] 25 (0,0))):=Hr.heap_of_gr G1 (heap_alloc_new w _)
  clear G1 HWr
  go_wp2_with fail
  refine (HWk.out _ HG1.out).mono ?_
  rintro e w2 ⟨z,rfl,G2⟩
  have HG2:Hid (Gr w w2):=HG1.out.trans G2
  have HB2:Hid (w2.heap[w.heap.size]?=some (.cells #[.slice ma mn mc,.slice ha hn hc] 25 (0,0))):=Hr.heap_of_gr G2 HB1.out
  have x0:w2.cell? ⟨w.heap.size,0,none⟩=some (.slice ma mn mc):=cell_of_row _ _ _ _ _ _ HB2.out
  have x1:w2.cell? ⟨w.heap.size,1,none⟩=some (.slice ha hn hc):=cell_of_row _ _ _ _ _ _ HB2.out
  clear G2 HWk HG1 HB1
  by_cases hz:3000<z
  ·go_wp2_with fail
   go_ret
   exact ⟨rfl,HG2.out⟩
  ·go_wp2_with fail
   refine (HR.out _ HG2.out).mono ?_
   rintro e w3 ⟨v,a,c,rfl,S3,G3⟩
   have HS3:Hid (Shw w3 v 0 0 ⟨[],[],[],0⟩):=S3
   obtain ⟨s1,d1,s2,d2,s3,d3,rfl,_⟩:=S3
   have HG3:Hid (Gr w w3):=HG2.out.trans G3
   clear G3 HR x0 x1
   go_wp2_with fail
   refine (Same_w ((HS3.out.of ((Gr.refl _).alloc _)).of ((Gr.refl _).alloc _)) (machineRuns.zeros _) (by decide) (by omega)).mono ?_
   rintro e w4 ⟨rfl,G4⟩
   have HG4:Hid (Gr w w4):=((HG3.out.alloc _).alloc _).trans G4
   have HC4:Hid (w4.heap[w3.heap.size+1]?=some (.cells #[.int .i64 0,.slice a 0 c,.int .i64 0,.int .i64 0] 35 (0,0))):=Hr.heap_of_gr G4 (by have:=heap_alloc_new (w3.alloc (.cells #[.slice s1 0 d1,.slice s2 0 d2,.slice s3 0 d3,.int .i64 0] 32)) (.cells #[.int .i64 0,.slice a 0 c,.int .i64 0,.int .i64 0] 35);simpa using this)
   have y0:w4.cell? ⟨w3.heap.size+1,0,none⟩=some (.int .i64 0):=cell_of_row _ _ _ _ _ _ HC4.out
   have y1:w4.cell? ⟨w3.heap.size+1,1,none⟩=some (.slice a 0 c):=cell_of_row _ _ _ _ _ _ HC4.out
   have y2:w4.cell? ⟨w3.heap.size+1,2,none⟩=some (.int .i64 0):=cell_of_row _ _ _ _ _ _ HC4.out
   have y3:w4.cell? ⟨w3.heap.size+1,3,none⟩=some (.int .i64 0):=cell_of_row _ _ _ _ _ _ HC4.out
   clear G4 HS3
   go_wp2_with fail
   refine (Kc.Same9 c 0 (Kc.bs_nil _ _) (Kc.bs_nil _ _) (by omega) 0 0 0).mono ?_
   rintro e w5 ⟨rfl,G5⟩
   have HG5:Hid (Gr w w5):=HG4.out.trans G5
   clear G5 y0 y1 y2 y3 HC4
   go_wp2_with fail
   go_ret
   exact ⟨rfl,HG5.out⟩
theorem es_yes {ma ha pa:Option Addr}{hn pn:Nat}(mc hc pc:Nat){m:List UInt8}{hs:List Hv}{ps:List (Int×Int)}{w:World}(mn:Nat)(room:Int)(M:Mem w ma mn m)(hcap:ma=none→mc=0)(H:Hs w ha hn hs)(P:Ps w pa pn ps)(hy:wrong m hs ps=0)(hr0:0≤room)(hr1:room≤64)(F:List Kc.Bv→Int→Int→Prop)(R:ErYes w ma ha pa mn mc hn hc pn pc room (play ⟨hs,m,[],0⟩ (nums ps)) F):
  Calls Tryz.prog 3 #[.agg #[.slice ma mn mc,.slice ha hn hc],.slice pa pn pc,.int .i64 room] w fun e w'=>e=.returned (.bool true)∧Gr w w':=by
 obtain ⟨b1,b2,b4,_,b3,hpk⟩:=wrong_ok hy
 have hml:=M.len
 have hl:=H.len
 have hpl:=P.len
 have HWr:Hid (∀W:World,Gr w W→Calls Tryz.prog 6 #[.agg #[.slice ma mn mc,.slice ha hn hc],.slice pa pn pc] W fun e w'=>e=.returned (.int .i64 0)∧Gr W w'):=fun W G=>(Wrong_any (fun h o W=>rmay_any o W) mc hc pc mn hml (H.of G) (P.of G) (by omega) (by omega) (by omega)).mono fun e w' h=>⟨by rw [h.1,hy],h.2⟩
 have HWk:Hid (∀W:World,Gr w W→Calls Tryz.prog 7 #[.slice pa pn pc] W fun e w'=>∃z,e=.returned (.int .i64 z)∧Gr W w'):=fun W G=>work_any pc (P.of G) (by omega) (fun p hp=>⟨(hpk p hp).2.2.1,(hpk p hp).2.2.2⟩)
 have HR:Hid (ErYes w ma ha pa mn mc hn hc pn pc room (play ⟨hs,m,[],0⟩ (nums ps)) F):=R
 have HPl:Hid (∀W:World,Gr w W→Calls Tryz.prog 11 #[.agg #[.slice ma mn mc,.slice ha hn hc],.slice pa pn pc] W fun e w'=>∃v,e=.returned v∧Shw w' v hn mn (play ⟨hs,m,[],0⟩ (nums ps))∧Gr W w'):=fun W G=>Play_any mc hc pc mn (M.of G) hcap (H.of G) (P.of G) hy
 have HFew:=(few_nums hy H.ok).1
 have HFO:Hid ((play ⟨hs,m,[],0⟩ (nums ps)).out.length≤1000000):=by have:=HFew.1;have:=HFew.2;unfold Hid;omega
 have c4:hn≤4:=by omega
 clear H P M hy hcap hl hpl hml b1 b2 b4 b3 hpk HFew R
 generalize play ⟨hs,m,[],0⟩ (nums ps)=S at *
 go_enter Tryz.func3,Tryz.ntmps3
 go_wp2_with fail
 refine (HWr.out _ ((Gr.refl _).alloc _)).mono ?_
 rintro e w1 ⟨rfl,G1⟩
 have HG1:Hid (Gr w w1):=((Gr.refl _).alloc _).trans G1
 have HB1:Hid (w1.heap[w.heap.size]?=some (.cells #[.slice ma mn mc,.slice ha hn hc] 25 (0,0))):=Hr.heap_of_gr G1 (heap_alloc_new w _)
 clear G1 HWr
 go_wp2_with fail
 refine (HWk.out _ HG1.out).mono ?_
 rintro e w2 ⟨z,rfl,G2⟩
 have HG2:Hid (Gr w w2):=HG1.out.trans G2
 have HB2:Hid (w2.heap[w.heap.size]?=some (.cells #[.slice ma mn mc,.slice ha hn hc] 25 (0,0))):=Hr.heap_of_gr G2 HB1.out
 have x0:w2.cell? ⟨w.heap.size,0,none⟩=some (.slice ma mn mc):=cell_of_row _ _ _ _ _ _ HB2.out
 have x1:w2.cell? ⟨w.heap.size,1,none⟩=some (.slice ha hn hc):=cell_of_row _ _ _ _ _ _ HB2.out
 clear G2 HWk HG1 HB1
 by_cases hz:3000<z
 ·go_wp2_with fail
  go_ret
  exact ⟨rfl,HG2.out⟩
 ·go_wp2_with fail
  refine (HR.out _ HG2.out).mono ?_
  rintro e w3 ⟨v,a,k,c,pu,sl,L,rfl,S3, -,G3⟩
  have HS3:Hid (Shw w3 v hn mn S):=S3
  obtain ⟨s1,d1,s2,d2,s3,d3,rfl,_⟩:=S3
  have HG3:Hid (Gr w w3):=HG2.out.trans G3
  have HB3:Hid (w3.heap[w.heap.size]?=some (.cells #[.slice ma mn mc,.slice ha hn hc] 25 (0,0))):=Hr.heap_of_gr G3 HB2.out
  have hlt:w.heap.size<w3.heap.size:=(Array.getElem?_eq_some_iff.1 HB3.out).1
  clear x0 x1
  have x0:w3.cell? ⟨w.heap.size,0,none⟩=some (.slice ma mn mc):=cell_of_row _ _ _ _ _ _ HB3.out
  have x1:w3.cell? ⟨w.heap.size,1,none⟩=some (.slice ha hn hc):=cell_of_row _ _ _ _ _ _ HB3.out
  clear G3 HR HG2 HB2
  go_wp2_with fail
  refine (HPl.out _ ((HG3.out.alloc _).alloc _)).mono ?_
  rintro e w4 ⟨v,rfl,S4,G4⟩
  have HS4:Hid (Shw w4 v hn mn S):=S4
  obtain ⟨t1,f1,t2,f2,t3,f3,rfl,_⟩:=S4
  have HG34:Hid (Gr w3 w4):=(((Gr.refl _).alloc _).alloc _).trans G4
  have HSw:Hid (w4.heap[w3.heap.size]?=some (.cells #[.slice s1 mn d1,.slice s2 hn d2,.slice s3 S.out.length d3,.int .i64 S.steps] 32 (0,0))):=Hr.heap_of_gr (((Gr.refl _).alloc _).trans G4) (heap_alloc_new w3 _)
  have z0:w4.cell? ⟨w3.heap.size,0,none⟩=some (.slice s1 mn d1):=cell_of_row _ _ _ _ _ _ HSw.out
  have z1:w4.cell? ⟨w3.heap.size,1,none⟩=some (.slice s2 hn d2):=cell_of_row _ _ _ _ _ _ HSw.out
  have z2:w4.cell? ⟨w3.heap.size,2,none⟩=some (.slice s3 S.out.length d3):=cell_of_row _ _ _ _ _ _ HSw.out
  have z3:w4.cell? ⟨w3.heap.size,3,none⟩=some (.int .i64 S.steps):=cell_of_row _ _ _ _ _ _ HSw.out
  have hlt4:w3.heap.size<w4.heap.size:=(Array.getElem?_eq_some_iff.1 HSw.out).1
  clear G4 HPl x0 x1 HB3
  go_wp2_with fail
  refine (Same_w ((HS3.out.of HG34.out).of ((Gr.refl _).alloc _)) (HS4.out.of ((Gr.refl _).alloc _)) HFO.out c4).mono ?_
  rintro e w5 ⟨rfl,G5⟩
  have HG5:Hid (Gr w w5):=HG3.out.trans (HG34.out.trans (((Gr.refl _).alloc _).trans G5))
  clear G5 z0 z1 z2 z3
  go_wp2_with fail
  go_ret
  exact ⟨rfl,HG5.out⟩
end Go.Proofs.YtchllaeembmioaaGreatDoor.En
