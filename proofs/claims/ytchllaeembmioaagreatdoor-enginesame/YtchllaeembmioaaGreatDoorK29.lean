/-
  Pe, Pg, Ph, Pi, Pf, Rm6, Rm9: texts of ours that lie in one file.
-/
import Derived.Test.YtchllaeembmioaaGreatDoorK28
import Derived.Test.YtchllaeembmioaaGreatDoorK15
import Derived.Test.YtchllaeembmioaaGreatDoorK27
import Derived.Test.YtchllaeembmioaaGreatDoorK18
import Derived.Test.YtchllaeembmioaaGreatDoorK03
set_option linter.unusedVariables false
set_option linter.unusedSimpArgs false
set_option maxHeartbeats 8000000
set_option maxRecDepth 100000
namespace Go.Proofs.YtchllaeembmioaaGreatDoor.Mp
open Go.ChangeShapes Go.WideShapes Go.ChangeAt Go.RowKit Mm Hh Hc Mi

theorem Pr.fld' {w:World}{base g:Nat}{r:Rn}{bf bt steps:Int}(I:Pr w base g r bf bt steps)(ht:r.tm.length=4)(j:Nat):w.cell? ⟨g,44+j,none⟩=[Value.int .u32 bf,.int .u32 bt,.int .i64 steps,.int .i64 r.n,.int .u32 r.here][j]?:=by
 obtain ⟨c,e,I⟩:=I
 have h:(rsR r bf bt steps)[4+j]?=[Value.int .u32 bf,.int .u32 bt,.int .i64 steps,.int .i64 r.n,.int .u32 r.here][j]?:=by
  unfold rsR
  rw [List.getElem?_append_right (by simp [ht])]
  simp [ht]
 have:=(I.rest (4+j)).trans h
 rwa [show 40+(4+j)=44+j by omega] at this
theorem putO_tm (q:Rn)(d:Int)(x:Option Int):(q.putO d x).tm.length=q.tm.length∧(q.putO d x).over=q.over:=by
 cases x with
 | none=>exact ⟨rfl,rfl⟩
 | some x=>show (q.put d x).tm.length=q.tm.length∧(q.put d x).over=q.over;unfold Rn.put;split<;>simp
theorem dos_tm {r:Rn}(o:r.Ok)(i:Mv):(dos r i).tm.length=4:=by
 unfold dos
 split
 ·exact o.tl
 split
 ·exact o.tl
 split
 ·exact o.tl
 ·rw [(putO_tm _ _ _).1];exact o.tl
theorem dos_over (r:Rn)(i:Mv):(dos r i).over=r.over:=by
 unfold dos
 split
 ·rfl
 split
 ·rfl
 split
 ·rfl
 ·rw [(putO_tm _ _ _).2];rfl
theorem mic_pr {w:World}{base g:Nat}{r:Rn}{bf bt steps:Int}{i:Mv}(hi:0≤named i.op)(hs:r.h.state=0)(hw:r.own=ownB bf bt r.sto)(I:Pr w base g (gos bf bt steps r i) bf bt steps):Pr w base g (mic bf bt steps r i) bf bt steps:=by
 rw [←gos_mic hi hs hw]
 exact I
theorem mic_over {r:Rn}{bf bt steps:Int}{i:Mv}(hi:0≤named i.op)(hs:r.h.state=0)(hw:r.own=ownB bf bt r.sto):(mic bf bt steps r i).over=(gos bf bt steps r i).over:=by
 rw [←gos_mic hi hs hw]
theorem dos_here {r:Rn}(o:r.Ok){i:Mv}(hn:Hh.W i.n):Hh.W (dos r i).here:=by
 have e:∀(q:Rn) (d:Int) (x:Option Int),(q.putO d x).here=q.here:=fun q d x=>by
  cases x with
  | none=>rfl
  | some x=>show (q.put d x).here=q.here;unfold Rn.put;split<;>rfl
 unfold dos
 split
 ·exact hn
 split
 ·exact ⟨o.h0,o.h1⟩
 split
 ·exact ⟨o.h0,o.h1⟩
 ·rw [e];exact ⟨o.h0,o.h1⟩
theorem lvP_w {r:Rn}(o:r.Ok){i:Mv}(hn:Hh.W i.n):Hh.W (lvP r i):=by
 unfold lvP
 split
 ·have:=W.lo (r.get i.a+i.n)
  unfold Hh.W at *
  omega
 ·exact hn
theorem goesOn_any {w:World}{base g:Nat}{r:Rn}{bf bt steps:Int}(I:Pr w base g r bf bt steps)(G:Gd bf bt r)(T:Gc.Ts w base)(ho:r.over=false)(h0:r.n≤1000000)(h1:r.out.length≤1000000)(h2:r.sto.length≤1000000){i:Mv}(hi:micOk i=true)(hn:Hh.W i.n):
  Calls Tryz.prog 100 #[.pointer (some ⟨g,0,none⟩),.agg (mvA i)] w fun e w'=>e=.returned (.bool (!(mic bf bt steps r i).over))∧Pr w' base g (mic bf bt steps r i) bf bt steps∧Below base w w':=by
 obtain ⟨hnm,hd,ha,hb⟩:=micOk_named hi
 have hs:=G.st ho
 have Lv:Hid (∀W:World,Gr w W→Calls Tryz.prog 123 #[.pointer (some ⟨g,0,none⟩),.agg (mvA i)] W fun e w'=>e=.returned (.tuple #[.int .u32 (lvP r i),.bool (lvB bf bt steps r i)])∧Gr W w'):=fun W q=>leaves_any (I.of q) G.ok h2 hnm ha hb hn
 have HP:Hid (∀W:World,Pr W base g (gos bf bt steps r i) bf bt steps→Pr W base g (mic bf bt steps r i) bf bt steps):=fun W J=>mic_pr hnm hs G.own J
 have HO:Hid ((mic bf bt steps r i).over=(gos bf bt steps r i).over):=mic_over hnm hs G.own
 have HBe:Hid (base≤w.heap.size):=I.base_le
 have HI:Hid (Pr w base g r bf bt steps):=I
 have HWP:Hid (Hh.W (lvP r i)):=lvP_w G.ok hn
 have HWH:Hid (Hh.W (dos r i).here):=dos_here G.ok hn
 have HOK:Hid ((dos r i).tm.length=4):=dos_tm G.ok i
 have hdo:(dos r i).over=false:=(dos_over r i).trans ho
 have fg:=I.lt
 cases hB:lvB bf bt steps r i with
 | true=>
  have HE:Hid (gos bf bt steps r i=r.stop (lvP r i)):=gos_lv hB
  rw [hB] at Lv
  have Lv2:Hid (∀W:World,Gr w W→Calls Tryz.prog 123 #[.pointer (some ⟨g,0,none⟩),.agg (mvA i)] W fun e w'=>e=.returned (.tuple #[.int .u32 (lvP r i),.bool true])∧Gr W w'):=Lv
  clear Lv hB hdo HWH hs hnm hd ha hb I T G
  obtain ⟨op,d,a,b,n⟩:=i
  unfold mvA at *
  simp only at *
  generalize lvP r ⟨op,d,a,b,n⟩=y at *
  go_enter Tryz.func100,Tryz.ntmps100
  go_wp2_with fail
  refine (Lv2.out _ (by repeat (first|exact Gr.refl _|refine Gr.alloc ?_ _))).mono ?_
  rintro e w1 ⟨rfl,G1⟩
  have HG1:Hid (Gr w w1):=Gr.trans (by repeat (first|exact Gr.refl _|refine Gr.alloc ?_ _)) G1
  have J:=HI.out.of HG1.out
  have k32:w1.cell? ⟨g,32,none⟩=some (.int .u32 r.h.pc):=J.hart (j:=0) (by omega)
  have fz:=J.fz
  have HJ:Hid (Pr (w1.setCell ⟨g,32,none⟩ (.int .u32 y)) base g (r.stop y) bf bt steps):=(J.setPc HWP.out).same r.own true
  have HB:Hid (Below base w (w1.setCell ⟨g,32,none⟩ (.int .u32 y))):=(Below.mono HG1.out HBe.out).trans (((Ch.refl g w1).setCell _ _).below (by obtain ⟨c,_,q⟩:=J;exact q.bg) J.base_le)
  clear J G1 Lv2
  go_wp2_with fail
  go_ret
  refine ⟨?_,HP.out _ (by rw [HE.out];exact HJ.out),HB.out⟩
  rw [HO.out,HE.out]
  rfl
 | false=>
  have hop:¬i.op=3∧¬i.op=4:=by
   refine ⟨fun q=>?_,fun q=>?_⟩
   ·unfold lvB at hB
    rw [if_neg (by omega),if_pos q] at hB
    cases hB
   ·unfold lvB at hB
    rw [if_neg (by omega),if_neg (by omega),if_pos q] at hB
    cases hB
  have Do:Hid (∀W:World,Gr w W→Calls Tryz.prog 124 #[.pointer (some ⟨g,0,none⟩),.agg (mvA i)] W fun e w'=>e=.returned (.tuple #[])∧Pr w' base g (dos r i) bf bt steps∧Gc.Fr 147 base W w'):=fun W q=>do_any (I.of q) G.ok (Gc.ts_of T (Below.mono q I.base_le)) (by have:=G.len;omega) h0 h1 h2 hnm hop.1 hop.2 hd ha hb hn
  rw [hB] at Lv
  have Lv2:Hid (∀W:World,Gr w W→Calls Tryz.prog 123 #[.pointer (some ⟨g,0,none⟩),.agg (mvA i)] W fun e w'=>e=.returned (.tuple #[.int .u32 (lvP r i),.bool false])∧Gr W w'):=Lv
  have HE1:Hid ((dos r i).h.state=0→gos bf bt steps r i=dos r i):=fun q=>gos_go hB q
  have HE2:Hid (¬(dos r i).h.state=0→gos bf bt steps r i=(dos r i).stop (dos r i).here):=fun q=>gos_end hB q
  clear Lv hB hs hnm hd ha hb I T G hop
  obtain ⟨op,d,a,b,n⟩:=i
  unfold mvA at *
  simp only at *
  generalize lvP r ⟨op,d,a,b,n⟩=y at *
  by_cases q:(dos r ⟨op,d,a,b,n⟩).h.state=0
  ·have HE:Hid (gos bf bt steps r ⟨op,d,a,b,n⟩=dos r ⟨op,d,a,b,n⟩):=HE1.out q
   generalize dos r ⟨op,d,a,b,n⟩=r2 at *
   clear HE1 HE2
   go_enter Tryz.func100,Tryz.ntmps100
   go_wp2_with fail
   refine (Lv2.out _ (by repeat (first|exact Gr.refl _|refine Gr.alloc ?_ _))).mono ?_
   rintro e w1 ⟨rfl,G1⟩
   have HG1:Hid (Gr w w1):=Gr.trans (by repeat (first|exact Gr.refl _|refine Gr.alloc ?_ _)) G1
   have k0:w1.heap[w.heap.size]?=some (.cells #[.int .i64 op,.int .i64 d,.int .i64 a,.int .i64 b,.int .u32 n] 166 (0,0)):=heap_up G1 (heap_alloc_new w _)
   have p0:w1.cell? ⟨w.heap.size,0,none⟩=some (.int .i64 op):=cell_of_row _ _ _ _ _ _ k0
   have p1:w1.cell? ⟨w.heap.size,1,none⟩=some (.int .i64 d):=cell_of_row _ _ _ _ _ _ k0
   have p2:w1.cell? ⟨w.heap.size,2,none⟩=some (.int .i64 a):=cell_of_row _ _ _ _ _ _ k0
   have p3:w1.cell? ⟨w.heap.size,3,none⟩=some (.int .i64 b):=cell_of_row _ _ _ _ _ _ k0
   have p4:w1.cell? ⟨w.heap.size,4,none⟩=some (.int .u32 n):=cell_of_row _ _ _ _ _ _ k0
   clear G1 Lv2 k0
   go_wp2_with fail
   refine (Do.out _ HG1.out).mono ?_
   rintro e w2 ⟨rfl,J2,F2⟩
   have HJ2:Hid (Pr w2 base g r2 bf bt steps):=J2
   have HB2:Hid (Below base w w2):=(Below.mono HG1.out HBe.out).trans F2.below
   have k35:w2.cell? ⟨g,35,none⟩=some (.int .i64 0):=by rw [←q];exact J2.hart (j:=3) (by omega)
   clear J2 F2 Do p0 p1 p2 p3 p4 HI
   go_wp2_with fail
   go_ret
   refine ⟨?_,HP.out _ (by rw [HE.out];exact HJ2.out),HB2.out⟩
   rw [HO.out,HE.out,hdo]
   rfl
  ·have HE:Hid (gos bf bt steps r ⟨op,d,a,b,n⟩=(dos r ⟨op,d,a,b,n⟩).stop (dos r ⟨op,d,a,b,n⟩).here):=HE2.out q
   generalize dos r ⟨op,d,a,b,n⟩=r2 at *
   have bq:(r2.h.state != 0)=true:=by simp [q]
   clear HE1 HE2
   go_enter Tryz.func100,Tryz.ntmps100
   go_wp2_with fail
   refine (Lv2.out _ (by repeat (first|exact Gr.refl _|refine Gr.alloc ?_ _))).mono ?_
   rintro e w1 ⟨rfl,G1⟩
   have HG1:Hid (Gr w w1):=Gr.trans (by repeat (first|exact Gr.refl _|refine Gr.alloc ?_ _)) G1
   have k0:w1.heap[w.heap.size]?=some (.cells #[.int .i64 op,.int .i64 d,.int .i64 a,.int .i64 b,.int .u32 n] 166 (0,0)):=heap_up G1 (heap_alloc_new w _)
   have p0:w1.cell? ⟨w.heap.size,0,none⟩=some (.int .i64 op):=cell_of_row _ _ _ _ _ _ k0
   have p1:w1.cell? ⟨w.heap.size,1,none⟩=some (.int .i64 d):=cell_of_row _ _ _ _ _ _ k0
   have p2:w1.cell? ⟨w.heap.size,2,none⟩=some (.int .i64 a):=cell_of_row _ _ _ _ _ _ k0
   have p3:w1.cell? ⟨w.heap.size,3,none⟩=some (.int .i64 b):=cell_of_row _ _ _ _ _ _ k0
   have p4:w1.cell? ⟨w.heap.size,4,none⟩=some (.int .u32 n):=cell_of_row _ _ _ _ _ _ k0
   clear G1 Lv2 k0
   go_wp2_with fail
   refine (Do.out _ HG1.out).mono ?_
   rintro e w2 ⟨rfl,J2,F2⟩
   have k35:w2.cell? ⟨g,35,none⟩=some (.int .i64 r2.h.state):=J2.hart (j:=3) (by omega)
   have k32:w2.cell? ⟨g,32,none⟩=some (.int .u32 r2.h.pc):=J2.hart (j:=0) (by omega)
   have k48:w2.cell? ⟨g,48,none⟩=some (.int .u32 r2.here):=J2.fld' HOK.out 4
   have fz:=J2.fz
   have HJ2:Hid (Pr (w2.setCell ⟨g,32,none⟩ (.int .u32 r2.here)) base g (r2.stop r2.here) bf bt steps):=(J2.setPc HWH.out).same r2.own true
   have HB2:Hid (Below base w (w2.setCell ⟨g,32,none⟩ (.int .u32 r2.here))):=((Below.mono HG1.out HBe.out).trans F2.below).trans (((Ch.refl g w2).setCell _ _).below (by obtain ⟨c,_,q⟩:=J2;exact q.bg) J2.base_le)
   clear J2 F2 Do p0 p1 p2 p3 p4 HI q
   go_wp2_with fail
   go_ret
   refine ⟨?_,HP.out _ (by rw [HE.out];exact HJ2.out),HB2.out⟩
   rw [HO.out,HE.out]
   rfl
end Go.Proofs.YtchllaeembmioaaGreatDoor.Mp
namespace Go.Proofs.YtchllaeembmioaaGreatDoor.Mp
open Go.ChangeShapes Go.WideShapes Go.ChangeAt Go.RowKit Mm Hh Hc Mi

theorem run_any {w0 w:World}{ao:Option Addr}{n:Nat}(cap:Nat){code:List Mv}(C:Cs w0 ao n code)(hmay:mayC code=true){h:Hv}{l:List UInt8}{bf bt steps:Int}(oh:h.Ok)(hst:h.state=0)(hl:l.length≤4096)(T:Gc.Ts w0 w0.heap.size){g:Nat}(I:Pr w w0.heap.size g (mstart h l) bf bt steps)(G:Gr w0 w):
  Calls Tryz.prog 77 #[.pointer (some ⟨g,0,none⟩),.slice ao n cap] w fun e w'=>e=.returned (.tuple #[])∧Pr w' w0.heap.size g (mplay bf bt steps h l code) bf bt steps∧Gr w0 w':=by
 have HL:Hid (code.length=n):=C.len
 have HC:Hid (Cs w0 ao n code):=C
 have HT:Hid (Gc.Ts w0 w0.heap.size):=T
 have hn200:n≤200∧code.all micOk=true:=by
  unfold mayC at hmay
  rw [HL.out] at hmay
  simpa using hmay
 have hn:n≤200:=hn200.1
 have HA:Hid (∀i∈code,micOk i=true):=fun i hi=>List.all_eq_true.1 hn200.2 i hi
 have HGd:Hid (∀j,Gd bf bt (mrun bf bt steps (mstart h l) (code.take j))):=fun j=>Gd.mrun (Gd.start oh hst hl) C.wn j
 have HBd:Hid (∀j,(mrun bf bt steps (mstart h l) (code.take j)).sto.length≤j∧(mrun bf bt steps (mstart h l) (code.take j)).out.length≤j∧(mrun bf bt steps (mstart h l) (code.take j)).n≤j):=fun j=>by
  obtain ⟨_,a,b,c⟩:=bd_mrun bf bt steps (mstart h l) code j
  have e1:(mstart h l).sto.length=0:=rfl
  have e2:(mstart h l).out.length=0:=rfl
  have e3:(mstart h l).n=0:=rfl
  omega
 have HTk:Hid (∀j i,code[j]?=some i→(mrun bf bt steps (mstart h l) (code.take j)).over=false→mrun bf bt steps (mstart h l) (code.take (j+1))=mic bf bt steps (mrun bf bt steps (mstart h l) (code.take j)) i):=fun j i hi ho=>mrun_take bf bt steps hi ho
 have HDn:Hid (∀j,(mrun bf bt steps (mstart h l) (code.take j)).over=true∨j=n→mplay bf bt steps h l code=mend (mrun bf bt steps (mstart h l) (code.take j))):=fun j hj=>by
  unfold mplay
  rcases hj with hj|hj
  ·rw [mrun_done bf bt steps hj]
  ·rw [hj,←HL.out,List.take_length]
 have HI:Hid (Pr w w0.heap.size g (mrun bf bt steps (mstart h l) (code.take 0)) bf bt steps):=I
 have HG:Hid (Gr w0 w):=G
 have HO0:Hid ((mrun bf bt steps (mstart h l) (code.take 0)).over=false):=rfl
 clear C T hmay hn200 I G oh hst hl
 generalize hR:(fun j=>mrun bf bt steps (mstart h l) (code.take j))=R at *
 have eR:∀j,mrun bf bt steps (mstart h l) (code.take j)=R j:=fun j=>by rw [←hR]
 simp only [eR] at *
 clear hR eR
 generalize mplay bf bt steps h l code=MP at *
 go_enter Tryz.func77,Tryz.ntmps77
 go_wp2_with fail
 go_loopw [8] (fun i wr=>∃j:Nat,j≤n∧i=.int .i64 j∧(R j).over=false∧Pr wr w0.heap.size g (R j) bf bt steps∧Gr w0 wr) (fun i _=>n-(intOf i).toNat)
 case atStart=>exact ⟨0,Nat.zero_le _,rfl,HO0.out,HI.out,HG.out⟩
 case round=>
  obtain ⟨j,hj,rfl,hov,hI,hG⟩:=hrel
  have HOv:Hid ((R j).over=false):=hov
  have HIj:Hid (Pr wr w0.heap.size g (R j) bf bt steps):=hI
  have HGj:Hid (Gr w0 wr):=hG
  clear hov hI hG HI HG HO0
  by_cases hlt:j<n
  ·obtain ⟨c,hc⟩:∃c,code[j]?=some c:=⟨_,List.getElem?_eq_getElem (by rw [HL.out];exact hlt)⟩
   obtain ⟨b,o,rfl,hb,hcell⟩:=(HC.out.of HGj.out).spot (by omega)
   obtain ⟨p0,p1,p2,p3,p4⟩:=hcell j c hc
   have hmem:=List.mem_of_getElem? hc
   have bd:=HBd.out j
   have Gs:Hid (∀W:World,Gr wr W→Calls Tryz.prog 100 #[.pointer (some ⟨g,0,none⟩),.agg (mvA c)] W fun e w'=>e=.returned (.bool (!(R (j+1)).over))∧Pr w' w0.heap.size g (R (j+1)) bf bt steps∧Gr w0 w'):=fun W q=>by
    rw [HTk.out j c hc HOv.out]
    refine (goesOn_any (HIj.out.of q) (HGd.out j) (Gc.ts_of HT.out (HGj.out.trans q)) HOv.out (by omega) (by omega) (by omega) (HA.out c hmem) (HC.out.wn c hmem)).mono ?_
    rintro e w' ⟨rfl,J,B⟩
    exact ⟨rfl,J,Below.trans (HGj.out.trans q) B⟩
   have HDj:Hid ((R (j+1)).over=true→MP=mend (R (j+1))):=fun h=>HDn.out (j+1) (.inl h)
   clear hcell hc hmem bd HTk HGd HBd HA HDn
   obtain ⟨op,d,a,b2,nn⟩:=c
   unfold mvA at Gs
   simp only at *
   generalize hr:R (j+1)=r2 at *
   cases hov2:r2.over with
   | true=>
    have HE:Hid (MP=r2):=by
     unfold Hid
     rw [HDj.out hov2]
     unfold mend
     rw [if_neg (by simp [hov2])]
    rw [hov2] at Gs
    simp only [Bool.not_true] at Gs
    clear HDj hr
    go_wp2_with fail
    refine (Gs.out _ ((Gr.refl _).alloc _)).mono ?_
    rintro e w1 ⟨rfl,J1,G1⟩
    have HJ1:Hid (Pr w1 w0.heap.size g r2 bf bt steps):=J1
    have HG1:Hid (Gr w0 w1):=G1
    clear Gs J1 G1 p0 p1 p2 p3 p4
    go_wp2_with fail
    refine bodyPost_ret (results_none Tryz.results77 _ _ _) rfl ?_
    exact ⟨rfl,by rw [HE.out];exact HJ1.out,HG1.out⟩
   | false=>
    have HOv2:Hid ((R (j+1)).over=false):=by unfold Hid;rw [hr];exact hov2
    rw [hov2] at Gs
    simp only [Bool.not_false] at Gs
    rw [←hr] at Gs
    have Gs2:Hid (∀W:World,Gr wr W→Calls Tryz.prog 100 #[.pointer (some ⟨g,0,none⟩),.agg #[.int .i64 op,.int .i64 d,.int .i64 a,.int .i64 b2,.int .u32 nn]] W fun e w'=>e=.returned (.bool true)∧Pr w' w0.heap.size g (R (j+1)) bf bt steps∧Gr w0 w'):=Gs
    clear HDj hr Gs hov2
    go_wp2_with fail
    refine (Gs2.out _ ((Gr.refl _).alloc _)).mono ?_
    rintro e w1 ⟨rfl,J1,G1⟩
    have HJ1:Hid (Pr w1 w0.heap.size g (R (j+1)) bf bt steps):=J1
    have HG1:Hid (Gr w0 w1):=G1
    clear Gs2 J1 G1 p0 p1 p2 p3 p4
    go_wp2_with fail
    go_roundw
    case rel=>exact ⟨j+1,by omega,by go_num,HOv2.out,HJ1.out,HG1.out⟩
    case measure=>simp [intOf];omega
  ·have ej:j=n:=by omega
   have HE0:Hid (MP=mend (R j)):=HDn.out j (.inr ej)
   have okj:=(HGd.out j).ok
   have bd:=(HBd.out j).2.2
   have k47:wr.cell? ⟨g,47,none⟩=some (.int .i64 (R j).n):=HIj.out.fld okj 3
   have k48:wr.cell? ⟨g,48,none⟩=some (.int .u32 (R j).here):=HIj.out.fld okj 4
   have k32:wr.cell? ⟨g,32,none⟩=some (.int .u32 (R j).h.pc):=HIj.out.hart (j:=0) (by omega)
   have fz:=HIj.out.fz
   have wp:=W.lo ((R j).here+4)
   have HJ:Hid (Pr (wr.setCell ⟨g,32,none⟩ (.int .u32 (Wd.lo ((R j).here+4)))) w0.heap.size g { R j with h:=(R j).h.go (Wd.lo ((R j).here+4)) } bf bt steps):=HIj.out.setPc wp
   have HB:Hid (Gr w0 (wr.setCell ⟨g,32,none⟩ (.int .u32 (Wd.lo ((R j).here+4))))):=Below.trans HGj.out (((Ch.refl g wr).setCell _ _).below (by obtain ⟨c,_,q⟩:=HIj.out;exact q.bg) HIj.out.base_le)
   have h48:=okj.h0
   have h49:=okj.h1
   clear HTk HGd HBd HA HDn HC HT HL okj wp ej hj bd
   generalize R j=rj at *
   by_cases hz:rj.n=0
   ·have HE:Hid (MP=rj):=by
     unfold Hid
     rw [HE0.out]
     unfold mend
     rw [if_neg (by simp [hz])]
    have hz2:(rj.n:Int)=0:=by omega
    clear HE0
    go_wp2_with fail
    go_end0
    exact ⟨rfl,by rw [HE.out];exact HIj.out,HGj.out⟩
   ·have HE:Hid (MP={ rj with h:=rj.h.go (Wd.lo (rj.here+4)) }):=by
     unfold Hid
     rw [HE0.out]
     unfold mend
     rw [if_pos ⟨HOv.out,by omega⟩]
    have hz2:0<(rj.n:Int):=by omega
    clear HE0 hz
    go_wp2_with fail
    go_end0
    exact ⟨rfl,by rw [HE.out];exact HJ.out,HB.out⟩
end Go.Proofs.YtchllaeembmioaaGreatDoor.Mp
namespace Go.Proofs.YtchllaeembmioaaGreatDoor.Mp
open Go.ChangeShapes Go.WideShapes Go.ChangeAt Go.RowKit Mm Hh Hc Mi

def layA (off:Nat) (v cs:Array Value):Array Value:=v.zipIdx.foldl (fun cs (x:Value×Nat)=>cs.setIfInBounds (off+x.2) x.1) cs
theorem layA_size (off:Nat)(v cs:Array Value):(layA off v cs).size=cs.size:=(fold_set off v cs).1
theorem layA_get (off:Nat)(v cs:Array Value)(k:Nat):(layA off v cs)[k]?=if off≤k∧k<off+v.size∧k<cs.size then v[k-off]? else cs[k]?:=(fold_set off v cs).2 k
theorem fill_cons {place:Nat→Option (Nat×Nat)}{cells:Array Value}{i:Nat}{v:Value}{rest:List (Nat×Value)}{off n:Nat}(A:Array Value)(hA:v.cells=A)(hp:place i=some (off,n))(hv:A.size=n)(hb:off+n≤cells.size):Instr.fill place cells ((i,v)::rest)=Instr.fill place (layA off A cells) rest:=by
 rw [Instr.fill]
 simp only [hp]
 rw [hA,if_neg (by simp [hv];omega)]
 rfl
theorem cB_size {c:Cv}(o:c.h.Ok)(rs:List Value):(Gc.cB c rs).size=40+rs.length:=by simp [Gc.cB,hL_len o];omega
theorem rsR_len {r:Rn}(ht:r.tm.length=4)(bf bt steps:Int):(rsR r bf bt steps).length=9:=by simp [rsR,ht]
theorem zRunner:(Tryz.prog.info? 147).bind (·.zero)=some (.agg (Gc.cB ⟨h0,nilS,nilS,nilS⟩ (rsR (mstart h0 []) 0 0 0))):=by kernel_rfl
theorem iRunner:(Tryz.prog.info? 147).map (·.size)=some 49:=by kernel_rfl
theorem cB_low {c:Cv}(o:c.h.Ok){rs:List Value}{k:Nat}(hk:k<40):(Gc.cB c rs)[k]?=(cA c)[k]?:=by
 have hl:=hL_len o
 show (hL c.h++([c.m,c.out,c.sto]++rs)).toArray[k]?=(hL c.h++[c.m,c.out,c.sto]).toArray[k]?
 rw [List.getElem?_toArray,List.getElem?_toArray,←List.append_assoc,List.getElem?_append_left (by simp;omega)]
theorem built4 {P:Program}{t:TypeId}{it:TypeInfo}{z:Value}{fs:Array Field}{ps:List (Nat×Nat)}(hi:P.info? t=some it)(hu:P.underlying t=some (.struct fs))(hz:it.zero=some z)
  (hp:fs.toList.mapM (fun f=>(P.info? f.type).map fun i=>(f.offset,i.size))=some ps){n p m q s:Nat}(p0:ps.toArray[0]?=some (0,n))(p2:ps.toArray[2]?=some (p,m))(p3:ps.toArray[3]?=some (q,1))(p5:ps.toArray[5]?=some (s,1))(A B:Array Value)(x y:Value)(hA:A.size=n)(hB:B.size=m)(hx:x.cells=#[x])(hy:y.cells=#[y])
  (b0:n≤z.cells.size)(b2:p+m≤z.cells.size)(b3:q+1≤z.cells.size)(b5:s+1≤z.cells.size):
  P.built t [(0,.agg A),(2,.agg B),(3,x),(5,y)]=some (layA s #[y] (layA q #[x] (layA p B (layA 0 A z.cells)))):=by
 unfold Program.built
 simp only [hi,hu,hz,hp]
 rw [fill_cons (off:=0) (n:=n) A rfl p0 hA (by omega)]
 rw [fill_cons (off:=p) (n:=m) B rfl p2 hB (by rw [layA_size];omega)]
 rw [fill_cons (off:=q) (n:=1) #[x] hx p3 rfl (by rw [layA_size,layA_size];omega)]
 rw [fill_cons (off:=s) (n:=1) #[y] hy p5 rfl (by rw [layA_size,layA_size,layA_size];omega)]
 rw [Instr.fill]
theorem built5 {P:Program}{t:TypeId}{it:TypeInfo}{z:Value}{fs:Array Field}{ps:List (Nat×Nat)}(hi:P.info? t=some it)(hu:P.underlying t=some (.struct fs))(hz:it.zero=some z)
  (hp:fs.toList.mapM (fun f=>(P.info? f.type).map fun i=>(f.offset,i.size))=some ps){n o1 o2 o3 o4:Nat}(p0:ps.toArray[0]?=some (0,n))(p1:ps.toArray[1]?=some (o1,1))(p2:ps.toArray[2]?=some (o2,1))(p3:ps.toArray[3]?=some (o3,1))(p4:ps.toArray[4]?=some (o4,1))(A:Array Value)(x1 x2 x3 x4:Value)(hA:A.size=n)(h1:x1.cells=#[x1])(h2:x2.cells=#[x2])(h3:x3.cells=#[x3])(h4:x4.cells=#[x4])
  (b0:n≤z.cells.size)(b1:o1+1≤z.cells.size)(b2:o2+1≤z.cells.size)(b3:o3+1≤z.cells.size)(b4:o4+1≤z.cells.size):
  P.built t [(0,.agg A),(1,x1),(2,x2),(3,x3),(4,x4)]=some (layA o4 #[x4] (layA o3 #[x3] (layA o2 #[x2] (layA o1 #[x1] (layA 0 A z.cells))))):=by
 unfold Program.built
 simp only [hi,hu,hz,hp]
 rw [fill_cons (off:=0) (n:=n) A rfl p0 hA (by omega)]
 rw [fill_cons (off:=o1) (n:=1) #[x1] h1 p1 rfl (by rw [layA_size];omega)]
 rw [fill_cons (off:=o2) (n:=1) #[x2] h2 p2 rfl (by rw [layA_size,layA_size];omega)]
 rw [fill_cons (off:=o3) (n:=1) #[x3] h3 p3 rfl (by rw [layA_size,layA_size,layA_size];omega)]
 rw [fill_cons (off:=o4) (n:=1) #[x4] h4 p4 rfl (by rw [layA_size,layA_size,layA_size,layA_size];omega)]
 rw [Instr.fill]
theorem built_runner {c:Cv}(o:c.h.Ok)(hh:Hv)(l:List UInt8)(bf bt steps:Int):Tryz.prog.built 147 [(0,.agg (cA c)),(2,.agg #[.int .u32 bf,.int .u32 bt]),(3,.int .i64 steps),(5,.int .u32 hh.pc)]=some (Gc.cB c (rsR (mstart hh l) bf bt steps)):=by
 obtain ⟨it,hi,hz⟩:=info_zero zRunner
 have hs0:(Gc.cB ⟨h0,nilS,nilS,nilS⟩ (rsR (mstart h0 []) 0 0 0)).size=49:=by rw [cB_size h0_ok,rsR_len rfl]
 refine Eq.trans (built4 (ps:=[(0,40),(40,4),(44,2),(46,1),(47,1),(48,1)]) (n:=40) (p:=44) (m:=2) (q:=46) (s:=48) hi Tryz.underlying147 hz (by kernel_rfl) rfl rfl rfl rfl (cA c) #[.int .u32 bf,.int .u32 bt] (.int .i64 steps) (.int .u32 hh.pc) (cA_size o) rfl rfl rfl (by show 40≤(Gc.cB _ _).size;rw [hs0];omega) (by show 44+2≤(Gc.cB _ _).size;rw [hs0];omega) (by show 46+1≤(Gc.cB _ _).size;rw [hs0];omega) (by show 48+1≤(Gc.cB _ _).size;rw [hs0];omega)) ?_
 show some (layA 48 _ (layA 46 _ (layA 44 _ (layA 0 _ (Gc.cB ⟨h0,nilS,nilS,nilS⟩ (rsR (mstart h0 []) 0 0 0))))))=_
 have hr0:∀j,(Gc.cB ⟨h0,nilS,nilS,nilS⟩ (rsR (mstart h0 []) 0 0 0))[40+j]?=(rsR (mstart h0 []) 0 0 0)[j]?:=fun j=>Gc.cB_rest h0_ok j
 generalize Gc.cB ⟨h0,nilS,nilS,nilS⟩ (rsR (mstart h0 []) 0 0 0)=Z at *
 refine congrArg some ?_
 apply Array.ext_getElem?
 intro k
 have z2:(#[.int .u32 bf,.int .u32 bt]:Array Value).size=2:=rfl
 have z1:∀v:Value,(#[v]:Array Value).size=1:=fun _=>rfl
 rw [layA_get,layA_get,layA_get,layA_get,layA_size,layA_size,layA_size,hs0,z2,z1,z1,cA_size o]
 by_cases h40:k<40
 ·rw [if_neg (by omega),if_neg (by omega),if_neg (by omega),if_pos (by omega),cB_low o h40]
  rfl
 ·obtain ⟨j,rfl⟩:∃j,k=40+j:=⟨k-40,by omega⟩
  rw [Gc.cB_rest o,hr0]
  by_cases h9:j<9
  ·have:j=0∨j=1∨j=2∨j=3∨j=4∨j=5∨j=6∨j=7∨j=8:=by omega
   rcases this with rfl|rfl|rfl|rfl|rfl|rfl|rfl|rfl|rfl<;>rfl
  ·rw [if_neg (by omega),if_neg (by omega),if_neg (by omega),if_neg (by omega),List.getElem?_eq_none (by rw [rsR_len rfl];omega),List.getElem?_eq_none (by rw [rsR_len rfl];omega)]
theorem built_did5 {h:Hv}(o:h.Ok)(M O S:Value)(n:Int)(hM:M.cells=#[M])(hO:O.cells=#[O])(hS:S.cells=#[S]):Tryz.prog.built 84 [(0,.agg (hA h)),(1,M),(2,O),(3,.int .i64 n),(4,S)]=some (gA h M O n S):=by
 obtain ⟨it,hi,hz⟩:=info_zero zDidA
 have hs0:(gA h0 nilS nilS 0 nilS).size=41:=gA_size h0_ok _ _ _ _
 refine Eq.trans (built5 (ps:=[(0,37),(37,1),(38,1),(39,1),(40,1)]) (n:=37) (o1:=37) (o2:=38) (o3:=39) (o4:=40) hi Tryz.underlying84 hz (by kernel_rfl) rfl rfl rfl rfl rfl (hA h) M O (.int .i64 n) S (hA_size o) hM hO rfl hS (by show 37≤(gA _ _ _ _ _).size;rw [hs0];omega) (by show 37+1≤(gA _ _ _ _ _).size;rw [hs0];omega) (by show 38+1≤(gA _ _ _ _ _).size;rw [hs0];omega) (by show 39+1≤(gA _ _ _ _ _).size;rw [hs0];omega) (by show 40+1≤(gA _ _ _ _ _).size;rw [hs0];omega)) ?_
 show some (layA 40 _ (layA 39 _ (layA 38 _ (layA 37 _ (layA 0 _ (gA h0 nilS nilS 0 nilS))))))=_
 have hr0:∀j,(gA h0 nilS nilS 0 nilS)[37+j]?=[nilS,nilS,Value.int .i64 0,nilS][j]?:=fun j=>gA_get h0_ok j
 generalize gA h0 nilS nilS 0 nilS=Z at *
 refine congrArg some ?_
 apply Array.ext_getElem?
 intro k
 have z1:∀v:Value,(#[v]:Array Value).size=1:=fun _=>rfl
 rw [layA_get,layA_get,layA_get,layA_get,layA_get,layA_size,layA_size,layA_size,layA_size,hs0,z1,z1,z1,z1,hA_size o]
 by_cases h37:k<37
 ·have hk:(gA h M O n S)[k]?=(hL h)[k]?:=by
   have hl:=hL_len o
   unfold gA gL
   rw [List.getElem?_toArray,List.getElem?_append_left (by omega)]
  rw [if_neg (by omega),if_neg (by omega),if_neg (by omega),if_neg (by omega),if_pos (by omega),hk]
  unfold hA
  rw [List.getElem?_toArray]
  rfl
 ·obtain ⟨j,rfl⟩:∃j,k=37+j:=⟨k-37,by omega⟩
  rw [gA_get o,hr0]
  by_cases h4:j<4
  ·have:j=0∨j=1∨j=2∨j=3:=by omega
   rcases this with rfl|rfl|rfl|rfl<;>rfl
  ·rw [if_neg (by omega),if_neg (by omega),if_neg (by omega),if_neg (by omega),if_neg (by omega),List.getElem?_eq_none (by simp;omega),List.getElem?_eq_none (by simp;omega)]
end Go.Proofs.YtchllaeembmioaaGreatDoor.Mp
namespace Go.Proofs.YtchllaeembmioaaGreatDoor.Mp
open Go.ChangeShapes Go.WideShapes Go.ChangeAt Go.RowKit Mm Hh Hc Mi

theorem three_of {w w':World}{A B Z:Array Value}{t u s:Nat}(g:Gr (((w.alloc (.cells A t)).alloc (.cells B u)).alloc (.cells Z s)) w'):w'.heap[w.heap.size]?=some (.cells A t (0,0))∧w'.heap[w.heap.size+1]?=some (.cells B u (0,0))∧w'.heap[w.heap.size+1+1]?=some (.cells Z s (0,0)):=by
 refine ⟨heap_up g (heap_up (((Gr.refl _).alloc _).alloc _) (heap_alloc_new w _)),heap_up g (heap_up ((Gr.refl _).alloc _) ?_),heap_up g ?_⟩
 ·have:=heap_alloc_new (w.alloc (.cells A t)) (.cells B u)
  simpa using this
 ·have:=heap_alloc_new ((w.alloc (.cells A t)).alloc (.cells B u)) (.cells Z s)
  simpa using this
theorem one_cB (c:Cv)(r:Rn)(bf bt steps:Int)(h1:c.m.oneCell'=true)(h2:c.out.oneCell'=true)(h3:c.sto.oneCell'=true):(Gc.cB c (rsR r bf bt steps)).all (·.oneCell')=true:=by
 refine all_oneCell_toArray ?_
 intro v hv
 simp only [hL,rsR,List.mem_append,List.mem_map,List.mem_cons,List.not_mem_nil,or_false] at hv
 rcases hv with (⟨n,_,rfl⟩|rfl|rfl|rfl|rfl|rfl)|(rfl|rfl|rfl)|⟨n,_,rfl⟩|rfl|rfl|rfl|rfl|rfl<;>first|rfl|assumption
theorem newRunner_gen {w:World}{h hc:Hv}(o:h.Ok)(oc:hc.Ok){ao:Option Addr}{n cap:Nat}(l:List UInt8){ok:Bool}(bf bt steps:Int){PV:World→Value→Prop}
  (st:∀(W W':World) (v:Value),PV W v→(∀(k:Nat) (c:Array Value) (f:Nat×Nat),W.heap[k]?=some (.cells c 5 f)→W'.heap[k]?=W.heap[k]?)→PV W' v)
  (one:∀W v,PV W v→v.cells=#[v]∧v.oneCell'=true)
  (NC:∀W:World,Gr w W→Calls Tryz.prog 99 #[.agg (hA h),.slice ao n cap] W fun e w'=>∃v,e=.returned (.tuple #[.agg (cA ⟨hc,v,nilS,nilS⟩),.bool ok])∧PV w' v∧Gr W w'):
  Calls Tryz.prog 76 #[.agg (hA h),.slice ao n cap,.agg #[.int .u32 bf,.int .u32 bt],.int .i64 steps] w fun e w'=>∃v,e=.returned (.tuple #[.agg (Gc.cB ⟨hc,v,nilS,nilS⟩ (rsR (mstart h l) bf bt steps)),.bool ok])∧PV w' v∧Gr w w':=by
 have HN:Hid (∀W:World,Gr w W→Calls Tryz.prog 99 #[.agg (hA h),.slice ao n cap] W fun e w'=>∃v,e=.returned (.tuple #[.agg (cA ⟨hc,v,nilS,nilS⟩),.bool ok])∧PV w' v∧Gr W w'):=NC
 have HBu:Hid (∀v,Tryz.prog.built 147 [(0,.agg (cA ⟨hc,v,nilS,nilS⟩)),(2,.agg #[.int .u32 bf,.int .u32 bt]),(3,.int .i64 steps),(5,.int .u32 h.pc)]=some (Gc.cB ⟨hc,v,nilS,nilS⟩ (rsR (mstart h l) bf bt steps))):=fun v=>built_runner (c:=⟨hc,v,nilS,nilS⟩) oc h l bf bt steps
 have HS:Hid ((hA h).size=37):=hA_size o
 have h32:(hA h)[32]?=some (.int .u32 h.pc):=by unfold hA;rw [List.getElem?_toArray];exact hL_fld o 0
 have HA1:Hid (∀v,(cA ⟨hc,v,nilS,nilS⟩).size=40):=fun v=>cA_size oc
 have HO1:Hid (∀v:Value,v.oneCell'=true→(cA ⟨hc,v,nilS,nilS⟩).all (·.oneCell')=true):=fun v hv=>one_cA _ hv rfl rfl
 have HR1:Hid (∀v,(Gc.cB ⟨hc,v,nilS,nilS⟩ (rsR (mstart h l) bf bt steps)).size=49):=fun v=>by rw [cB_size oc,rsR_len rfl]
 have HRo:Hid (∀v:Value,v.oneCell'=true→(Gc.cB ⟨hc,v,nilS,nilS⟩ (rsR (mstart h l) bf bt steps)).all (·.oneCell')=true):=fun v hv=>one_cB _ _ _ _ _ hv rfl rfl
 have HSt:Hid (∀(W W':World) (v:Value),PV W v→(∀(k:Nat) (c:Array Value) (f:Nat×Nat),W.heap[k]?=some (.cells c 5 f)→W'.heap[k]?=W.heap[k]?)→PV W' v):=st
 have HOn:Hid (∀W v,PV W v→v.cells=#[v]∧v.oneCell'=true):=one
 clear NC st one o oc
 generalize hA h=H0 at *
 generalize h.pc=pc at *
 go_enter Tryz.func76,Tryz.ntmps76
 go_wp2_with (refine wpList_load_row rfl 51 _ rfl w.heap.size rfl 51 H0 (0,0) _ ?lh1 Tryz.underlying51 rfl (by rw [HS.out];exact iHa) ?_;(case lh1=>exact heap_up (((Gr.refl _).alloc _).alloc _) (heap_alloc_new w _)))
 refine (HN.out _ ((((Gr.refl _).alloc _).alloc _).alloc _)).mono ?_
 rintro e w1 ⟨v,rfl,hv,G1⟩
 obtain ⟨b0,b1,b2⟩:=three_of G1
 have HG1:Hid (Gr w w1):=((((Gr.refl _).alloc _).alloc _).alloc _).trans G1
 have HPV:Hid (PV w1 v):=hv
 have HV1:Hid (v.oneCell'=true):=(HOn.out _ _ hv).2
 have HBu1:=HBu.out v
 have HA2:Hid ((cA ⟨hc,v,nilS,nilS⟩).size=40):=HA1.out v
 have HO2:Hid ((cA ⟨hc,v,nilS,nilS⟩).all (·.oneCell')=true):=HO1.out v HV1.out
 have HR2:Hid ((Gc.cB ⟨hc,v,nilS,nilS⟩ (rsR (mstart h l) bf bt steps)).size=49):=HR1.out v
 have HRo2:Hid ((Gc.cB ⟨hc,v,nilS,nilS⟩ (rsR (mstart h l) bf bt steps)).all (·.oneCell')=true):=HRo.out v HV1.out
 have HBZ:Hid (∃Z:Array Value,Z.size=49∧w1.heap[w.heap.size+1+1]?=some (.cells Z 147 (0,0))):=⟨_,rfl,b2⟩
 have hlt:w.heap.size+1+1<w1.heap.size:=(Array.getElem?_eq_some_iff.1 b2).1
 clear hv G1 b2 HN HBu HA1 HO1 HR1 HRo
 obtain ⟨Z,hz,hZ⟩:=HBZ.out
 have HZ:Hid (w1.heap[w.heap.size+1+1]?=some (.cells Z 147 (0,0))):=hZ
 have HZs:Hid (Z.size=49):=hz
 have HB0:Hid (w1.heap[w.heap.size]?=some (.cells H0 51 (0,0))):=b0
 have HB1:Hid (w1.heap[w.heap.size+1]?=some (.cells #[.int .u32 bf,.int .u32 bt] 109 (0,0))):=b1
 clear HBZ hz hZ b0 b1
 have HBx:Hid (Tryz.prog.built 147 [(0,.agg (cA ⟨hc,v,nilS,nilS⟩)),(2,.agg #[.int .u32 bf,.int .u32 bt]),(3,.int .i64 steps),(5,.int .u32 pc)]=some (Gc.cB ⟨hc,v,nilS,nilS⟩ (rsR (mstart h l) bf bt steps))):=HBu1
 clear HBu1
 generalize hR1:Gc.cB ⟨hc,v,nilS,nilS⟩ (rsR (mstart h l) bf bt steps)=R1 at *
 have HRe:Hid (Gc.cB ⟨hc,v,nilS,nilS⟩ (rsR (mstart h l) bf bt steps)=R1):=hR1
 clear hR1
 generalize cA ⟨hc,v,nilS,nilS⟩=A1 at *
 have HX:Hid (∀Y:Array Value,Gr w1 ((w1.alloc (.cells Y 115)).setRow w1.heap.size A1)):=fun Y=>gr_setRow ((Gr.refl _).alloc _) (Nat.le_refl _) _
 have HX1:Hid (∀Y:Array Value,((w1.alloc (.cells Y 115)).setRow w1.heap.size A1).heap[w1.heap.size]?=some (.cells A1 115 (0,0))):=fun Y=>setRow_heap _ _ _ _ _ (0,0) (heap_alloc_new w1 _)
 have q0:∀Y:Array Value,((w1.alloc (.cells Y 115)).setRow w1.heap.size A1).cell? ⟨w.heap.size+1,0,none⟩=some (.int .u32 bf):=fun Y=>cell_of_row _ _ _ _ _ _ (heap_up (HX.out Y) HB1.out)
 have q1:∀Y:Array Value,((w1.alloc (.cells Y 115)).setRow w1.heap.size A1).cell? ⟨w.heap.size+1,1,none⟩=some (.int .u32 bt):=fun Y=>cell_of_row _ _ _ _ _ _ (heap_up (HX.out Y) HB1.out)
 have q2:∀Y:Array Value,((w1.alloc (.cells Y 115)).setRow w1.heap.size A1).cell? ⟨w.heap.size,32,none⟩=some (.int .u32 pc):=fun Y=>(cell_of_row _ _ _ _ _ _ (heap_up (HX.out Y) HB0.out)).trans h32
 go_wp2_with (first
  | (refine wpList_store_row rfl 115 _ _ rfl w1.heap.size A1 rfl rfl 115 _ (heap_alloc_new w1 _) (by rw [HA2.out];exact iC) (by rw [HA2.out];rfl) HO2.out ?_)
  | (refine wpList_load_row rfl 115 _ rfl w1.heap.size rfl 115 A1 (0,0) _ ?lh2 Tryz.underlying115 rfl (by rw [HA2.out];exact iC) ?_;(case lh2=>exact HX1.out _))
  | (refine wpList_buildTo rfl 147 _ rfl _ rfl R1 (by have:=HBx.out;simp [Act.eval,Act.put];exact this) ?_)
  | (refine wpList_store_row rfl 147 _ _ rfl (w.heap.size+1+1) R1 rfl rfl 147 Z ?sr1 (by rw [HR2.out];exact iRunner) (by rw [HR2.out];exact HZs.out) HRo2.out ?_;(case sr1=>exact heap_up (HX.out _) HZ.out)))
 refine bodyPost_ret (v:=.tuple #[.agg R1,.bool ok]) (Hr.results_cell_tmp' Tryz.results76 _ _ _ _ _ (0,0) _ _ rfl rfl (setRow_heap _ _ _ _ _ (0,0) (heap_up (HX.out _) HZ.out)) Tryz.underlying147 rfl (by rw [HR2.out];exact iRunner)) rfl ⟨v,by rw [HRe.out],?_,?_⟩
 ·refine HSt.out _ _ v HPV.out fun k c f hk=>?_
  exact (setRow_other _ _ _ _ (ne_of_types hk HZ.out (by decide))).trans ((HX.out _).block k (Array.getElem?_eq_some_iff.1 hk).1)
 ·exact gr_setRow (HG1.out.trans (HX.out _)) (by omega) _
end Go.Proofs.YtchllaeembmioaaGreatDoor.Mp
namespace Go.Proofs.YtchllaeembmioaaGreatDoor.Mp
open Go.ChangeShapes Go.WideShapes Go.ChangeAt Go.RowKit Mm Hh Hc Mi

variable {w : World}
def rowsA:List Value:=rowsL.map (Value.int .i64)
theorem heap_up2 {w':World}(g:Gr w w'){k:Nat}{x:Obj}(h:w.heap[k]?=some x):w'.heap[k]?=some x:=by
 rw [g.block k (gs h).1];exact h
theorem rowsA_len:rowsA.length=33:=rfl
theorem iRows:(Tryz.prog.info? 198).map (·.size)=some 33:=by kernel_rfl
theorem Tr.range (T:Tr w):w.rangeAt 3 0 rowsA:=fun j v hv=>by
 rw [Nat.zero_add]
 unfold rowsA at hv
 rw [List.getElem?_map] at hv
 cases h:rowsL[j]? with
 | none=>rw [h] at hv;cases hv
 | some n=>
  rw [h] at hv
  have e:Value.int .i64 n=v:=by simpa using hv
  rw [←e]
  exact T.rows j n h
theorem idx_row {j:Nat}(hj:j<11){f l k:Int}(h:rowsT[j]?=some (f,l,k))(W:World):(Instr.index 198 (.agg rowsA.toArray) (.int .i64 j)).run Tryz.prog W=.ok (.agg #[.int .i64 f,.int .i64 l,.int .i64 k]) W:=by
 have:j=0∨j=1∨j=2∨j=3∨j=4∨j=5∨j=6∨j=7∨j=8∨j=9∨j=10:=by omega
 rcases this with rfl|rfl|rfl|rfl|rfl|rfl|rfl|rfl|rfl|rfl|rfl <;>
  (injection h with h;injection h with h1 h;injection h with h2 h3;subst h1 h2 h3;rfl)
theorem may1_any {w:World}(T:Tr w)(op d a b n:Int):
  Calls Tryz.prog 98 #[.agg #[.int .i64 op,.int .i64 d,.int .i64 a,.int .i64 b,.int .u32 n]] w fun e w'=>e=.returned (.bool (micOk ⟨op,d,a,b,n⟩))∧Gr w w':=by
 have HT:Hid (Tr w):=T
 have HRg:Hid (∀x,(w.alloc x).rangeAt 3 0 rowsA):=fun x=>(T.of ((Gr.refl _).alloc _)).range
 have HX:Hid (∀j:Nat,j<11→∀f l k,rowsT[j]?=some (f,l,k)→∀W:World,(Instr.index 198 (.agg rowsA.toArray) (.int .i64 j)).run Tryz.prog W=.ok (.agg #[.int .i64 f,.int .i64 l,.int .i64 k]) W):=fun j hj f l k h W=>idx_row hj h W
 have HL:Hid (rowsA.length=33):=rowsA_len
 have HM:Hid (∀k,named op=k→0≤k→micOk ⟨op,d,a,b,n⟩=fitB k ⟨op,d,a,b,n⟩):=fun k h h0=>fit_ok h h0
 have HN:Hid (named op<0→micOk ⟨op,d,a,b,n⟩=false):=fun h=>mic_no1 h
 have Wi:Hid (∀(f l:Int) (W:World),Calls Tryz.prog 75 #[.int .i64 op,.int .i64 f,.int .i64 l] W fun e w'=>e=.returned (.bool (decide (f≤op∧op≤l)))∧w'=W):=fun f l W=>within_any op f l W
 have Fi:Hid (∀(K:Int),(K=0∨K=7∨K=8∨K=9∨K=10∨K=11∨K=14)→∀W:World,Calls Tryz.prog 122 #[.agg #[.int .i64 op,.int .i64 d,.int .i64 a,.int .i64 b,.int .u32 n],.int .i64 K] W fun e w'=>e=.returned (.bool (fitB K ⟨op,d,a,b,n⟩))∧Gr W w'):=fun K h W=>fits_any h op d a b n W
 generalize micOk ⟨op,d,a,b,n⟩=OKB at *
 generalize rowsA=A at *
 clear T
 go_enter Tryz.func98,Tryz.ntmps98
 go_wp2_with (refine wpList_load_mid rfl 198 _ rfl 3 0 rfl A _ ?lm1 Tryz.underlying198 rfl (by rw [HL.out];exact iRows) ?_;(case lm1=>exact HRg.out _))
 go_loopw [6] (fun i wr=>∃j:Nat,j≤11∧i=.int .i64 j∧(∀t f l k,t<j→rowsT[t]?=some (f,l,k)→¬(f≤op∧op≤l))∧wr.heap[w.heap.size]?=some (.cells #[.int .i64 op,.int .i64 d,.int .i64 a,.int .i64 b,.int .u32 n] 166 (0,0))∧Gr w wr) (fun i _=>11-(intOf i).toNat)
 case atStart=>exact ⟨0,Nat.zero_le _,rfl,fun t f l k h=>absurd h (by omega),heap_alloc_new w _,(Gr.refl _).alloc _⟩
 case round=>
  obtain ⟨j,hj,rfl,hno,hB,G⟩:=hrel
  have HNo:Hid (∀t f l k,t<j→rowsT[t]?=some (f,l,k)→¬(f≤op∧op≤l)):=hno
  have HB:Hid (wr.heap[w.heap.size]?=some (.cells #[.int .i64 op,.int .i64 d,.int .i64 a,.int .i64 b,.int .u32 n] 166 (0,0))):=hB
  have HG:Hid (Gr w wr):=G
  clear hno hB G
  by_cases hlt:j<11
  ·obtain ⟨f,l,k,hr,_,_,_,hk,hnm⟩:=row_at hlt
   have hx:=HX.out j hlt f l k hr
   have HNx:Hid (¬(f≤op∧op≤l)→∀t f l k,t<j+1→rowsT[t]?=some (f,l,k)→¬(f≤op∧op≤l)):=fun h t f' l' k' ht hr'=>by
    by_cases e:t=j
    ·subst e
     rw [hr] at hr'
     injection hr' with e1
     injection e1 with e1 e2
     injection e2 with e2 e3
     subst e1 e2
     exact h
    ·exact HNo.out t f' l' k' (by omega) hr'
   have HF:Hid (f≤op∧op≤l→OKB=fitB k ⟨op,d,a,b,n⟩):=fun h=>HM.out k (hnm op h.1 h.2) (by omega)
   have p0:wr.cell? ⟨w.heap.size,0,none⟩=some (.int .i64 op):=cell_of_row _ _ _ _ _ _ HB.out
   have p1:wr.cell? ⟨w.heap.size,1,none⟩=some (.int .i64 d):=cell_of_row _ _ _ _ _ _ HB.out
   have p2:wr.cell? ⟨w.heap.size,2,none⟩=some (.int .i64 a):=cell_of_row _ _ _ _ _ _ HB.out
   have p3:wr.cell? ⟨w.heap.size,3,none⟩=some (.int .i64 b):=cell_of_row _ _ _ _ _ _ HB.out
   have p4:wr.cell? ⟨w.heap.size,4,none⟩=some (.int .u32 n):=cell_of_row _ _ _ _ _ _ HB.out
   have hsz:w.heap.size<wr.heap.size:=(Array.getElem?_eq_some_iff.1 HB.out).1
   have HKv:Hid (k=0∨k=7∨k=8∨k=9∨k=10∨k=11∨k=14):=hk
   clear hr hk hnm HX HNo
   by_cases c:f≤op∧op≤l
   ·have HF2:Hid (OKB=fitB k ⟨op,d,a,b,n⟩):=HF.out c
    have Wi2:Hid (∀W:World,Calls Tryz.prog 75 #[.int .i64 op,.int .i64 f,.int .i64 l] W fun e w'=>e=.returned (.bool true)∧w'=W):=fun W=>by
     have:=Wi.out f l W
     rwa [decide_eq_true c] at this
    clear c HF HNx Wi
    go_wp2_with fail
    refine (Wi2.out _).mono ?_
    rintro e w1 ⟨rfl,rfl⟩
    clear Wi2
    go_wp2_with fail
    refine (Fi.out k HKv.out _).mono ?_
    rintro e w1 ⟨rfl,G1⟩
    have HG1:Hid (Gr w w1):=(HG.out.alloc _).trans G1
    clear Fi G1 p0 p1 p2 p3 p4
    go_wp2_with fail
    go_ret
    exact ⟨retB HF2.out.symm,HG1.out⟩
   ·have HNx2:Hid (∀t f l k,t<j+1→rowsT[t]?=some (f,l,k)→¬(f≤op∧op≤l)):=HNx.out c
    have Wi2:Hid (∀W:World,Calls Tryz.prog 75 #[.int .i64 op,.int .i64 f,.int .i64 l] W fun e w'=>e=.returned (.bool false)∧w'=W):=fun W=>by
     have:=Wi.out f l W
     rwa [decide_eq_false c] at this
    clear c HF HNx Wi
    go_wp2_with fail
    refine (Wi2.out _).mono ?_
    rintro e w1 ⟨rfl,rfl⟩
    clear Wi2
    go_wp2_with fail
    go_roundw
    case rel=>exact ⟨j+1,by omega,by go_num,HNx2.out,heap_up2 ((Gr.refl _).alloc _) HB.out,HG.out.alloc _⟩
    case measure=>simp [intOf];omega
  ·have ej:j=11:=by omega
   have HE:Hid (OKB=false):=HN.out (named_none fun t f l k hr=>HNo.out t f l k (by have:=(List.getElem?_eq_some_iff.1 hr).1;have:rowsT.length=11:=rfl;omega) hr)
   go_wp2_with fail
   go_ret
   exact ⟨retB HE.out.symm,HG.out⟩
theorem PMay_any {ao:Option Addr}{n:Nat}(cap:Nat){code:List Mv}{w:World}(C:Cs w ao n code)(T:Tr w)(hn:n≤140737488351232):
  Calls Tryz.prog 74 #[.slice ao n cap] w fun e w'=>e=.returned (.bool (mayC code))∧Gr w w':=by
 have HL:Hid (code.length=n):=C.len
 have HM:Hid (mayC code=(decide (n≤200) && code.all micOk)):=by unfold Hid mayC;rw [HL.out]
 by_cases c2:200<n
 ·have HE:Hid (mayC code=false):=by unfold Hid;rw [HM.out,decide_eq_false (by omega)];rfl
  clear HM C T
  go_enter Tryz.func74,Tryz.ntmps74
  go_wp2
  go_ret
  exact ⟨retB HE.out.symm,Gr.refl _⟩
 have HM2:Hid (mayC code=code.all micOk):=by unfold Hid;rw [HM.out,decide_eq_true (by omega)];rfl
 have HC:Hid (Cs w ao n code):=C
 have HT:Hid (Tr w):=T
 clear HM C T
 go_enter Tryz.func74,Tryz.ntmps74
 go_wp2
 go_loopw [10] (fun i wr=>∃j:Nat,j≤n∧i=.int .i64 j∧(code.take j).all micOk=true∧Gr w wr) (fun i _=>n-(intOf i).toNat)
 case atStart=>exact ⟨0,Nat.zero_le _,rfl,rfl,Gr.refl _⟩
 case round=>
  obtain ⟨j,hj,rfl,hall,G⟩:=hrel
  have HA:Hid ((code.take j).all micOk=true):=hall
  have HG:Hid (Gr w wr):=G
  clear hall G
  by_cases hlt:j<n
  ·obtain ⟨c,hc⟩:∃c,code[j]?=some c:=⟨_,List.getElem?_eq_getElem (by rw [HL.out];exact hlt)⟩
   obtain ⟨b,o,rfl,hb,hcell⟩:=(HC.out.of HG.out).spot (by omega)
   obtain ⟨p0,p1,p2,p3,p4⟩:=hcell j c hc
   have Ma:Hid (∀W:World,Gr w W→Calls Tryz.prog 98 #[.agg #[.int .i64 c.op,.int .i64 c.d,.int .i64 c.a,.int .i64 c.b,.int .u32 c.n]] W fun e w'=>e=.returned (.bool (micOk c))∧Gr W w'):=fun W G=>may1_any (HT.out.of G) c.op c.d c.a c.b c.n
   have HNo:Hid (micOk c=false→mayC code=false):=fun h=>by rw [HM2.out];exact all_no hc h
   have HYes:Hid (micOk c=true→(code.take (j+1)).all micOk=true):=fun h=>by rw [all_take1 _ _ _ _ hc,HA.out,h];rfl
   clear hcell hc HC HA HT
   obtain ⟨op,d,a,b2,nn⟩:=c
   simp only at *
   generalize micOk ⟨op,d,a,b2,nn⟩=OKB at *
   cases OKB with
   | false=>
    have HNo2:Hid (mayC code=false):=HNo.out rfl
    clear HNo HYes
    go_wp2_with fail
    refine (Ma.out _ (HG.out.alloc _)).mono ?_
    rintro e w1 ⟨rfl,G1⟩
    have HG1:Hid (Gr w w1):=(HG.out.alloc _).trans G1
    clear Ma G1 p0 p1 p2 p3 p4
    go_wp2_with fail
    go_ret
    exact ⟨retB HNo2.out.symm,HG1.out⟩
   | true=>
    have HY2:Hid ((code.take (j+1)).all micOk=true):=HYes.out rfl
    clear HNo HYes
    go_wp2_with fail
    refine (Ma.out _ (HG.out.alloc _)).mono ?_
    rintro e w1 ⟨rfl,G1⟩
    have HG1:Hid (Gr w w1):=(HG.out.alloc _).trans G1
    clear Ma G1 p0 p1 p2 p3 p4
    go_wp2_with fail
    go_roundw
    case rel=>exact ⟨j+1,by omega,by go_num,HY2.out,HG1.out⟩
    case measure=>simp [intOf];omega
  ·have ej:j=n:=by omega
   have HE:Hid (mayC code=true):=by
    unfold Hid
    rw [HM2.out]
    have:=HA.out
    rwa [ej,←HL.out,List.take_length] at this
   go_wp2_with fail
   go_ret
   exact ⟨retB HE.out.symm,HG.out⟩
end Go.Proofs.YtchllaeembmioaaGreatDoor.Mp
namespace Go.Proofs.YtchllaeembmioaaGreatDoor.Mi
open Go.ChangeShapes Go.WideShapes Go.ChangeAt Go.RowKit Mm Hh Hc

end Go.Proofs.YtchllaeembmioaaGreatDoor.Mi
namespace Go.Proofs.YtchllaeembmioaaGreatDoor.Mi
open Go.ChangeShapes Go.WideShapes Go.ChangeAt Go.RowKit Mm Hh Hc

end Go.Proofs.YtchllaeembmioaaGreatDoor.Mi
