/-
  Rm6, Rm8: texts of ours that lie in one file.
-/
import Derived.Test.YtkdghgiajifbdaaDoorQ09
import Derived.Test.YtkdghgiajifbdaaDoorQ10
import Derived.Test.YtkdghgiajifbdaaDoorQ11
import Derived.Test.YtkdghgiajifbdaaDoorQ06
set_option linter.unusedVariables false
set_option linter.unusedSimpArgs false
set_option maxHeartbeats 8000000
set_option maxRecDepth 100000
namespace Go.Proofs.YtkdghgiajifbdaaDoor.Mi
open Go.ChangeShapes Go.WideShapes Go.ChangeAt Go.RowKit Mm Hh Hc

theorem May_any {ao:Option Addr}{n:Nat}(cap:Nat){code:List Mv}{w:World}(C:Cs w ao n code)(hn:n≤140737488351232):
  Calls Tryd.prog 16 #[.slice ao n cap] w fun e w'=>e=.returned (.bool (mayC code))∧Gr w w':=by
 have HL:Hid (code.length=n):=C.len
 have HM:Hid (mayC code=(decide (n≤200) && code.all micOk)):=by unfold Hid mayC;rw [HL.out]
 by_cases c2:200<n
 ·have HE:Hid (mayC code=false):=by unfold Hid;rw [HM.out,decide_eq_false (by omega)];rfl
  clear HM C
  go_enter Tryd.func16,Tryd.ntmps16
  go_wp2
  go_ret
  exact ⟨retB HE.out.symm,Gr.refl _⟩
 have HM2:Hid (mayC code=code.all micOk):=by unfold Hid;rw [HM.out,decide_eq_true (by omega)];rfl
 clear HM
 have HC:Hid (Cs w ao n code):=C
 clear C
 go_enter Tryd.func16,Tryd.ntmps16
 go_wp2
 go_loopw [3] (fun i wr=>∃j:Nat,j≤n∧i=.int .i64 j∧(code.take j).all micOk=true∧Gr w wr) (fun i _=>n-(intOf i).toNat)
 case atStart=>exact ⟨0,Nat.zero_le _,rfl,rfl,Gr.refl _⟩
 case round=>
  obtain ⟨j,hj,rfl,hall,G⟩:=hrel
  have HA:Hid ((code.take j).all micOk=true):=hall
  have HG:Hid (Gr w wr):=G
  clear hall G
  by_cases hlt:j<n
  ·obtain ⟨c,hc⟩:∃c,code[j]?=some c:=⟨_,List.getElem?_eq_getElem (by rw [HL.out];exact hlt)⟩
   obtain ⟨b,o,rfl,hb,hcell⟩:=(HC.out.of HG.out).spot (by omega)
   obtain ⟨p0,p1,p2,p3,p4⟩:=hcell j c hc
   have hmem:=List.mem_of_getElem? hc
   have HW:Hid (W c.n):=HC.out.wn c hmem
   have wo:=HC.out.wo c hmem
   have Nm:Hid (∀V:World,_):=fun V=>named_any c.op V wo.1 wo.2
   have HNo:Hid (micOk c=false→mayC code=false):=fun h=>by rw [HM2.out];exact all_no hc h
   have HYes:Hid (micOk c=true→(code.take (j+1)).all micOk=true):=fun h=>by rw [all_take1 _ _ _ _ hc,HA.out,h];rfl
   have N1:Hid (named c.op<0→micOk c=false):=mic_no1
   have N2:Hid (named c.op<8→¬c.n=0→micOk c=false):=mic_no2
   have R0:Hid (regOk (decide (named c.op%2=1)) c.d=false→micOk c=false):=mic_no3
   have R1:Hid (regOk (decide (named c.op/2%2=1)) c.a=false→micOk c=false):=mic_no4
   have R2:Hid (regOk (decide (named c.op/4%2=1)) c.b=false→micOk c=false):=mic_no5
   have Y:Hid (0≤named c.op→(8≤named c.op∨c.n=0)→regOk (decide (named c.op%2=1)) c.d=true→regOk (decide (named c.op/2%2=1)) c.a=true→regOk (decide (named c.op/4%2=1)) c.b=true→micOk c=true):=mic_yes
   clear hcell hc hmem wo HC HA
   have HK:Hid (0≤named c.op→named c.op=0∨named c.op=7∨named c.op=8∨named c.op=9∨named c.op=10∨named c.op=11∨named c.op=14):=named_vals
   obtain ⟨op,d,a,b2,nn⟩:=c
   simp only at *
   generalize micOk ⟨op,d,a,b2,nn⟩=OKB at *
   generalize named op=K at *
   by_cases k0:K<0
   ·go_wp2_with fail
    refine (Nm.out _).mono ?_
    rintro e w1 ⟨rfl,rfl⟩
    go_wp2
    go_ret
    exact ⟨retB (HNo.out (N1.out k0)).symm,HG.out.alloc _⟩
   have kv:=HK.out (by omega)
   clear HK
   by_cases k8:K<8
   ·by_cases hz:nn=0
    ·have YY:Hid (regOk (decide (K%2=1)) d=true→regOk (decide (K/2%2=1)) a=true→regOk (decide (K/4%2=1)) b2=true→OKB=true):=Y.out (by omega) (.inr hz)
     subst hz
     clear Y N1 N2
     go_wp2_with fail
     refine (Nm.out _).mono ?_
     rintro e w1 ⟨rfl,rfl⟩
     clear Nm p0 p1 p2 p3 p4
     go_wp2
     go_loopw [8,7] (fun i bit wq=>∃t:Nat,t≤3∧i=.int .i64 t∧bit=.int .i64 (pw t)∧(1≤t→regOk (decide (K%2=1)) d=true)∧(2≤t→regOk (decide (K/2%2=1)) a=true)∧(3≤t→regOk (decide (K/4%2=1)) b2=true)∧wq.cell? ⟨wr.heap.size+1,0,none⟩=some (.int .i64 d)∧wq.cell? ⟨wr.heap.size+1,1,none⟩=some (.int .i64 a)∧wq.cell? ⟨wr.heap.size+1,2,none⟩=some (.int .i64 b2)∧Gr w wq) (fun i _ _=>3-(intOf i).toNat)
     case atStart=>exact ⟨0,by omega,rfl,rfl,by omega,by omega,by omega,by simp,by simp,by simp,(HG.out.alloc _).alloc _⟩
     case round=>
      obtain ⟨t,ht,rfl,rfl,g0,g1,g2,s0,s1,s2,Gq⟩:=hrel
      rename World=>wq
      have HGr:Hid (Gr w wq):=Gq
      have G0:Hid (1≤t→regOk (decide (K%2=1)) d=true):=g0
      have G1:Hid (2≤t→regOk (decide (K/2%2=1)) a=true):=g1
      have G2:Hid (3≤t→regOk (decide (K/4%2=1)) b2=true):=g2
      clear g0 g1 g2 Gq
      have tv:t=0∨t=1∨t=2∨t=3:=by omega
      rcases tv with rfl|rfl|rfl|rfl
      ·rw [show pw 0=(1:Int) from rfl]
       by_cases hb1:K%2=1
       ·have hd1:decide (K%2=1)=true:=decide_eq_true hb1
        have f1:K.tmod 2=1:=by rw [Int.tmod_eq_emod_of_nonneg (by omega)];omega
        have f2:(K.tdiv 1).tmod 2=1:=by rw [Int.tdiv_one];exact f1
        by_cases x0:d<0
        ·go_wp2
         go_ret
         exact ⟨retB (HNo.out (R0.out (reg_no (.inr (.inl x0))))).symm,HGr.out⟩
        by_cases x1:36≤d
        ·go_wp2
         go_ret
         exact ⟨retB (HNo.out (R0.out (reg_no (.inr (.inr x1))))).symm,HGr.out⟩
        go_wp2
        go_roundw
        case rel=>exact ⟨1,by omega,by go_num,by go_num,(fun _=>reg_yes (.inl hd1) (by omega) (by omega)),(fun h=>by omega),(fun h=>by omega),s0,s1,s2,HGr.out⟩
        case measure=>simp [intOf]
       ·have hd1:decide (K%2=1)=false:=decide_eq_false hb1
        have f1:K.tmod 2=0:=by rw [Int.tmod_eq_emod_of_nonneg (by omega)];omega
        have f2:(K.tdiv 1).tmod 2=0:=by rw [Int.tdiv_one];exact f1
        by_cases xz:d=0
        ·subst xz
         go_wp2
         go_roundw
         case rel=>exact ⟨1,by omega,by go_num,by go_num,(fun _=>reg_yes (.inr rfl) (by omega) (by omega)),(fun h=>by omega),(fun h=>by omega),s0,s1,s2,HGr.out⟩
         case measure=>simp [intOf]
        ·have xb:(d == 0)=false:=by simpa using xz
         have xc:(d != 0)=true:=by simpa using xz
         go_wp2
         go_ret
         exact ⟨retB (HNo.out (R0.out (reg_no (.inl ⟨hd1,xz⟩)))).symm,HGr.out⟩
      ·rw [show pw 1=(2:Int) from rfl]
       by_cases hb1:K/2%2=1
       ·have hd1:decide (K/2%2=1)=true:=decide_eq_true hb1
        have f1:(K.tdiv 2).tmod 2=1:=by rw [Int.tdiv_eq_ediv_of_nonneg (by omega),Int.tmod_eq_emod_of_nonneg (by omega)];omega
        by_cases x0:a<0
        ·go_wp2
         go_ret
         exact ⟨retB (HNo.out (R1.out (reg_no (.inr (.inl x0))))).symm,HGr.out⟩
        by_cases x1:36≤a
        ·go_wp2
         go_ret
         exact ⟨retB (HNo.out (R1.out (reg_no (.inr (.inr x1))))).symm,HGr.out⟩
        go_wp2
        go_roundw
        case rel=>exact ⟨2,by omega,by go_num,by go_num,(fun _=>G0.out (by omega)),(fun _=>reg_yes (.inl hd1) (by omega) (by omega)),(fun h=>by omega),s0,s1,s2,HGr.out⟩
        case measure=>simp [intOf]
       ·have hd1:decide (K/2%2=1)=false:=decide_eq_false hb1
        have f1:(K.tdiv 2).tmod 2=0:=by rw [Int.tdiv_eq_ediv_of_nonneg (by omega),Int.tmod_eq_emod_of_nonneg (by omega)];omega
        by_cases xz:a=0
        ·subst xz
         go_wp2
         go_roundw
         case rel=>exact ⟨2,by omega,by go_num,by go_num,(fun _=>G0.out (by omega)),(fun _=>reg_yes (.inr rfl) (by omega) (by omega)),(fun h=>by omega),s0,s1,s2,HGr.out⟩
         case measure=>simp [intOf]
        ·have xb:(a == 0)=false:=by simpa using xz
         have xc:(a != 0)=true:=by simpa using xz
         go_wp2
         go_ret
         exact ⟨retB (HNo.out (R1.out (reg_no (.inl ⟨hd1,xz⟩)))).symm,HGr.out⟩
      ·rw [show pw 2=(4:Int) from rfl]
       by_cases hb1:K/4%2=1
       ·have hd1:decide (K/4%2=1)=true:=decide_eq_true hb1
        have f1:(K.tdiv 4).tmod 2=1:=by rw [Int.tdiv_eq_ediv_of_nonneg (by omega),Int.tmod_eq_emod_of_nonneg (by omega)];omega
        by_cases x0:b2<0
        ·go_wp2
         go_ret
         exact ⟨retB (HNo.out (R2.out (reg_no (.inr (.inl x0))))).symm,HGr.out⟩
        by_cases x1:36≤b2
        ·go_wp2
         go_ret
         exact ⟨retB (HNo.out (R2.out (reg_no (.inr (.inr x1))))).symm,HGr.out⟩
        go_wp2
        go_roundw
        case rel=>exact ⟨3,by omega,by go_num,by go_num,(fun _=>G0.out (by omega)),(fun _=>G1.out (by omega)),(fun _=>reg_yes (.inl hd1) (by omega) (by omega)),s0,s1,s2,HGr.out⟩
        case measure=>simp [intOf]
       ·have hd1:decide (K/4%2=1)=false:=decide_eq_false hb1
        have f1:(K.tdiv 4).tmod 2=0:=by rw [Int.tdiv_eq_ediv_of_nonneg (by omega),Int.tmod_eq_emod_of_nonneg (by omega)];omega
        by_cases xz:b2=0
        ·subst xz
         go_wp2
         go_roundw
         case rel=>exact ⟨3,by omega,by go_num,by go_num,(fun _=>G0.out (by omega)),(fun _=>G1.out (by omega)),(fun _=>reg_yes (.inr rfl) (by omega) (by omega)),s0,s1,s2,HGr.out⟩
         case measure=>simp [intOf]
        ·have xb:(b2 == 0)=false:=by simpa using xz
         have xc:(b2 != 0)=true:=by simpa using xz
         go_wp2
         go_ret
         exact ⟨retB (HNo.out (R2.out (reg_no (.inl ⟨hd1,xz⟩)))).symm,HGr.out⟩
      ·go_wp2
       go_roundw
       case rel=>exact ⟨j+1,by omega,by go_num,HYes.out (YY.out (G0.out (by omega)) (G1.out (by omega)) (G2.out (by omega))),HGr.out⟩
       case measure=>simp [intOf];omega
    ·have hzb:(nn == 0)=false:=by simpa using hz
     have hzc:(nn != 0)=true:=by simpa using hz
     go_wp2_with fail
     refine (Nm.out _).mono ?_
     rintro e w1 ⟨rfl,rfl⟩
     go_wp2
     go_ret
     exact ⟨retB (HNo.out (N2.out k8 hz)).symm,HG.out.alloc _⟩
   ·have YY:Hid (regOk (decide (K%2=1)) d=true→regOk (decide (K/2%2=1)) a=true→regOk (decide (K/4%2=1)) b2=true→OKB=true):=Y.out (by omega) (.inl (by omega))
    clear Y N1 N2
    go_wp2_with fail
    refine (Nm.out _).mono ?_
    rintro e w1 ⟨rfl,rfl⟩
    clear Nm p0 p1 p2 p3 p4
    go_wp2
    go_loopw [8,7] (fun i bit wq=>∃t:Nat,t≤3∧i=.int .i64 t∧bit=.int .i64 (pw t)∧(1≤t→regOk (decide (K%2=1)) d=true)∧(2≤t→regOk (decide (K/2%2=1)) a=true)∧(3≤t→regOk (decide (K/4%2=1)) b2=true)∧wq.cell? ⟨wr.heap.size+1,0,none⟩=some (.int .i64 d)∧wq.cell? ⟨wr.heap.size+1,1,none⟩=some (.int .i64 a)∧wq.cell? ⟨wr.heap.size+1,2,none⟩=some (.int .i64 b2)∧Gr w wq) (fun i _ _=>3-(intOf i).toNat)
    case atStart=>exact ⟨0,by omega,rfl,rfl,by omega,by omega,by omega,by simp,by simp,by simp,(HG.out.alloc _).alloc _⟩
    case round=>
     obtain ⟨t,ht,rfl,rfl,g0,g1,g2,s0,s1,s2,Gq⟩:=hrel
     rename World=>wq
     have HGr:Hid (Gr w wq):=Gq
     have G0:Hid (1≤t→regOk (decide (K%2=1)) d=true):=g0
     have G1:Hid (2≤t→regOk (decide (K/2%2=1)) a=true):=g1
     have G2:Hid (3≤t→regOk (decide (K/4%2=1)) b2=true):=g2
     clear g0 g1 g2 Gq
     have tv:t=0∨t=1∨t=2∨t=3:=by omega
     rcases tv with rfl|rfl|rfl|rfl
     ·rw [show pw 0=(1:Int) from rfl]
      by_cases hb1:K%2=1
      ·have hd1:decide (K%2=1)=true:=decide_eq_true hb1
       have f1:K.tmod 2=1:=by rw [Int.tmod_eq_emod_of_nonneg (by omega)];omega
       have f2:(K.tdiv 1).tmod 2=1:=by rw [Int.tdiv_one];exact f1
       by_cases x0:d<0
       ·go_wp2
        go_ret
        exact ⟨retB (HNo.out (R0.out (reg_no (.inr (.inl x0))))).symm,HGr.out⟩
       by_cases x1:36≤d
       ·go_wp2
        go_ret
        exact ⟨retB (HNo.out (R0.out (reg_no (.inr (.inr x1))))).symm,HGr.out⟩
       go_wp2
       go_roundw
       case rel=>exact ⟨1,by omega,by go_num,by go_num,(fun _=>reg_yes (.inl hd1) (by omega) (by omega)),(fun h=>by omega),(fun h=>by omega),s0,s1,s2,HGr.out⟩
       case measure=>simp [intOf]
      ·have hd1:decide (K%2=1)=false:=decide_eq_false hb1
       have f1:K.tmod 2=0:=by rw [Int.tmod_eq_emod_of_nonneg (by omega)];omega
       have f2:(K.tdiv 1).tmod 2=0:=by rw [Int.tdiv_one];exact f1
       by_cases xz:d=0
       ·subst xz
        go_wp2
        go_roundw
        case rel=>exact ⟨1,by omega,by go_num,by go_num,(fun _=>reg_yes (.inr rfl) (by omega) (by omega)),(fun h=>by omega),(fun h=>by omega),s0,s1,s2,HGr.out⟩
        case measure=>simp [intOf]
       ·have xb:(d == 0)=false:=by simpa using xz
        have xc:(d != 0)=true:=by simpa using xz
        go_wp2
        go_ret
        exact ⟨retB (HNo.out (R0.out (reg_no (.inl ⟨hd1,xz⟩)))).symm,HGr.out⟩
     ·rw [show pw 1=(2:Int) from rfl]
      by_cases hb1:K/2%2=1
      ·have hd1:decide (K/2%2=1)=true:=decide_eq_true hb1
       have f1:(K.tdiv 2).tmod 2=1:=by rw [Int.tdiv_eq_ediv_of_nonneg (by omega),Int.tmod_eq_emod_of_nonneg (by omega)];omega
       by_cases x0:a<0
       ·go_wp2
        go_ret
        exact ⟨retB (HNo.out (R1.out (reg_no (.inr (.inl x0))))).symm,HGr.out⟩
       by_cases x1:36≤a
       ·go_wp2
        go_ret
        exact ⟨retB (HNo.out (R1.out (reg_no (.inr (.inr x1))))).symm,HGr.out⟩
       go_wp2
       go_roundw
       case rel=>exact ⟨2,by omega,by go_num,by go_num,(fun _=>G0.out (by omega)),(fun _=>reg_yes (.inl hd1) (by omega) (by omega)),(fun h=>by omega),s0,s1,s2,HGr.out⟩
       case measure=>simp [intOf]
      ·have hd1:decide (K/2%2=1)=false:=decide_eq_false hb1
       have f1:(K.tdiv 2).tmod 2=0:=by rw [Int.tdiv_eq_ediv_of_nonneg (by omega),Int.tmod_eq_emod_of_nonneg (by omega)];omega
       by_cases xz:a=0
       ·subst xz
        go_wp2
        go_roundw
        case rel=>exact ⟨2,by omega,by go_num,by go_num,(fun _=>G0.out (by omega)),(fun _=>reg_yes (.inr rfl) (by omega) (by omega)),(fun h=>by omega),s0,s1,s2,HGr.out⟩
        case measure=>simp [intOf]
       ·have xb:(a == 0)=false:=by simpa using xz
        have xc:(a != 0)=true:=by simpa using xz
        go_wp2
        go_ret
        exact ⟨retB (HNo.out (R1.out (reg_no (.inl ⟨hd1,xz⟩)))).symm,HGr.out⟩
     ·rw [show pw 2=(4:Int) from rfl]
      by_cases hb1:K/4%2=1
      ·have hd1:decide (K/4%2=1)=true:=decide_eq_true hb1
       have f1:(K.tdiv 4).tmod 2=1:=by rw [Int.tdiv_eq_ediv_of_nonneg (by omega),Int.tmod_eq_emod_of_nonneg (by omega)];omega
       by_cases x0:b2<0
       ·go_wp2
        go_ret
        exact ⟨retB (HNo.out (R2.out (reg_no (.inr (.inl x0))))).symm,HGr.out⟩
       by_cases x1:36≤b2
       ·go_wp2
        go_ret
        exact ⟨retB (HNo.out (R2.out (reg_no (.inr (.inr x1))))).symm,HGr.out⟩
       go_wp2
       go_roundw
       case rel=>exact ⟨3,by omega,by go_num,by go_num,(fun _=>G0.out (by omega)),(fun _=>G1.out (by omega)),(fun _=>reg_yes (.inl hd1) (by omega) (by omega)),s0,s1,s2,HGr.out⟩
       case measure=>simp [intOf]
      ·have hd1:decide (K/4%2=1)=false:=decide_eq_false hb1
       have f1:(K.tdiv 4).tmod 2=0:=by rw [Int.tdiv_eq_ediv_of_nonneg (by omega),Int.tmod_eq_emod_of_nonneg (by omega)];omega
       by_cases xz:b2=0
       ·subst xz
        go_wp2
        go_roundw
        case rel=>exact ⟨3,by omega,by go_num,by go_num,(fun _=>G0.out (by omega)),(fun _=>G1.out (by omega)),(fun _=>reg_yes (.inr rfl) (by omega) (by omega)),s0,s1,s2,HGr.out⟩
        case measure=>simp [intOf]
       ·have xb:(b2 == 0)=false:=by simpa using xz
        have xc:(b2 != 0)=true:=by simpa using xz
        go_wp2
        go_ret
        exact ⟨retB (HNo.out (R2.out (reg_no (.inl ⟨hd1,xz⟩)))).symm,HGr.out⟩
     ·go_wp2
      go_roundw
      case rel=>exact ⟨j+1,by omega,by go_num,HYes.out (YY.out (G0.out (by omega)) (G1.out (by omega)) (G2.out (by omega))),HGr.out⟩
      case measure=>simp [intOf];omega
  ·have HE:Hid (mayC code=true):=by
    have e:(code.take j).all micOk=true:=HA.out
    rw [show j=n by omega,←HL.out,List.take_length] at e
    unfold Hid;rw [HM2.out,e]
   go_wp2
   go_ret
   exact ⟨retB HE.out.symm,HG.out⟩
end Go.Proofs.YtkdghgiajifbdaaDoor.Mi
namespace Go.Proofs.YtkdghgiajifbdaaDoor.Mi
open Go.ChangeShapes Go.WideShapes Go.ChangeAt Go.RowKit Mm Hh Hc

variable {h : Hv} {M O S v : Value} {n : Int} {w : World}
theorem neq_hartM (o:h.Ok)(w:World):(binOp .neq 43 (.agg (hL h).toArray) (.agg (hL h).toArray)).run Tryd.prog w=.ok (.bool false) w:=by
 have e:(binOp .eql 43 (.agg (hL h).toArray) (.agg (hL h).toArray)).run Tryd.prog w=.ok (.bool true) w:=eql_hart o w
 have e1:binOp .eql 43 (.agg (hL h).toArray) (.agg (hL h).toArray)=(do pure (.bool (←Op.equal 43 (.agg (hL h).toArray) (.agg (hL h).toArray)))):=rfl
 have e2:binOp .neq 43 (.agg (hL h).toArray) (.agg (hL h).toArray)=(do pure (.bool (!(←Op.equal 43 (.agg (hL h).toArray) (.agg (hL h).toArray))))):=rfl
 rw [e1,Sem.run_bind] at e
 rw [e2,Sem.run_bind]
 generalize (Op.equal 43 (.agg (hL h).toArray) (.agg (hL h).toArray)).run Tryd.prog w=r at e ⊢
 cases r with
 | ok v w'=>
  simp only [Result.andThen_ok,Sem.run_pure,Result.ok.injEq,Value.bool.injEq] at e ⊢
  obtain ⟨rfl,rfl⟩:=e
  exact ⟨rfl,rfl⟩
 | _=>simp [Result.andThen] at e
theorem rg_get {ss:List (Int×Int)}:∀{i:Nat} {p:Int×Int},ss[i]?=some p→(rgs ss)[i*2]?=some (.int .u32 p.1)∧(rgs ss)[i*2+1]?=some (.int .u32 (Wd.lo (p.1+p.2))):=by
 induction ss with
 | nil=>intro i p h;simp at h
 | cons q r ih=>
  intro i p h
  have e:rgs (q::r)=[.int .u32 q.1,.int .u32 (Wd.lo (q.1+q.2))]++rgs r:=rfl
  match i,h with
  | 0,h=>simp at h;subst h;exact ⟨rfl,rfl⟩
  | i+1,h=>
   have ih:=ih (i:=i) (by simpa using h)
   rw [e,List.getElem?_append_right (by simp;omega),List.getElem?_append_right (by simp;omega)]
   simp only [List.length_cons,List.length_nil]
   rw [show (i+1)*2-(0+1+1)=i*2 by omega,show (i+1)*2+1-(0+1+1)=i*2+1 by omega]
   exact ih
theorem gA_get (o:h.Ok)(j:Nat):(gA h M O n S)[37+j]?=[M,O,Value.int .i64 n,S][j]?:=by
 unfold gA gL
 rw [List.getElem?_toArray,List.getElem?_append_right (by simp [hL_len o])]
 simp [hL_len o]
theorem gA_hart (o:h.Ok){j:Nat}(hv:(hL h)[j]?=some v):(gA h M O n S)[j]?=some v:=by
 have hl:=hL_len o
 have hj:j<(hL h).length:=(List.getElem?_eq_some_iff.1 hv).1
 unfold gA gL
 rw [List.getElem?_toArray,List.getElem?_append_left hj]
 exact hv
theorem own_at {base e sz n:Nat}{xs:List Value}(h:w.ownsRow base e sz v n xs)(hn:0<n):∃g c,v=.slice (some ⟨g,0,none⟩) n c∧g<w.heap.size∧∀j u,xs[j]?=some u→w.cell? ⟨g,j,none⟩=some u:=by
 obtain ⟨g,c,rfl⟩:=own_form h hn
 refine ⟨g,c,rfl,(h.lt g rfl).2,fun j u hu=>?_⟩
 have:=h.cells (g:=g) rfl j u hu
 rwa [add_at,Nat.zero_add] at this
theorem heapD {g n:Nat}{x:Option Obj}(h:w.heap[g]?=x):(w.drewN n).heap[g]?=x:=h
theorem Same_same {r:Rn}{M2 O2 S2:Value}(D1:Dr w r M O S)(D2:Dr w r M2 O2 S2)(ho:r.out.length≤1000000)(hs:r.sto.length≤1000000):
  Calls Tryd.prog 21 #[.agg (gA r.h M O r.n S),.agg (gA r.h M2 O2 r.n S2)] w fun e w'=>e=.returned (.bool true)∧Gr w w':=by
 obtain ⟨ok,⟨ma,mc,rfl,m1⟩,⟨ob,oo⟩,⟨sb,so⟩⟩:=D1
 obtain ⟨_,⟨ma2,mc2,rfl,m2⟩,⟨ob2,oo2⟩,⟨sb2,so2⟩⟩:=D2
 obtain ⟨oa,oc,rfl,w1⟩:=wm_own rfl oo
 obtain ⟨oa2,oc2,rfl,w2⟩:=wm_own rfl oo2
 obtain ⟨sa,sc,rfl⟩:=owns_word so
 obtain ⟨sa2,sc2,rfl⟩:=owns_word so2
 have By:Hid (∀W:World,Gr w W→Calls Tryd.prog 43 #[.slice ma r.m.length mc,.slice ma2 r.m.length mc2] W fun e w'=>e=.returned (.bool true)∧w'=W):=fun W G=>by
  have:=Mr.Bytes_any mc mc2 (m1.of G) (m2.of G)
  simpa using this
 have Wo:Hid (∀W:World,Gr w W→Calls Tryd.prog 44 #[.slice oa r.out.length oc,.slice oa2 r.out.length oc2] W fun e w'=>e=.returned (.bool true)∧Gr W w'):=fun W G=>Words_same oc oc2 ho (w1.of G) (w2.of G)
 have HC:Hid (∀i p,r.sto[i]?=some p→∃g1 g2,sa=some ⟨g1,0,none⟩∧sa2=some ⟨g2,0,none⟩∧g1<w.heap.size∧g2<w.heap.size∧(w.cell? ⟨g1,i*2,none⟩=some (.int .u32 p.1)∧w.cell? ⟨g1,i*2+1,none⟩=some (.int .u32 (Wd.lo (p.1+p.2))))∧(w.cell? ⟨g2,i*2,none⟩=some (.int .u32 p.1)∧w.cell? ⟨g2,i*2+1,none⟩=some (.int .u32 (Wd.lo (p.1+p.2))))):=fun i p hp=>by
  have hn:0<r.sto.length:=by have:=(List.getElem?_eq_some_iff.1 hp).1;omega
  obtain ⟨g1,d1,e1,l1,c1⟩:=own_at so hn
  obtain ⟨g2,d2,e2,l2,c2⟩:=own_at so2 hn
  injection e1 with f1 _ _
  injection e2 with f2 _ _
  have q:=rg_get hp
  exact ⟨g1,g2,f1,f2,l1,l2,⟨c1 _ _ q.1,c1 _ _ q.2⟩,⟨c2 _ _ q.1,c2 _ _ q.2⟩⟩
 have ne:∀W:World,(binOp .neq 43 (.agg (hL r.h).toArray) (.agg (hL r.h).toArray)).run Tryd.prog W=.ok (.bool false) W:=fun W=>neq_hartM ok.h W
 have HL:Hid ((hL r.h).length=37):=hL_len ok.h
 have HX1:Hid (∀j v,(hL r.h)[j]?=some v→(gA r.h (.slice ma r.m.length mc) (.slice oa r.out.length oc) r.n (.slice sa r.sto.length sc))[j]?=some v):=fun j v h=>gA_hart ok.h h
 have HX2:Hid (∀j v,(hL r.h)[j]?=some v→(gA r.h (.slice ma2 r.m.length mc2) (.slice oa2 r.out.length oc2) r.n (.slice sa2 r.sto.length sc2))[j]?=some v):=fun j v h=>gA_hart ok.h h
 have x37:(gA r.h (.slice ma r.m.length mc) (.slice oa r.out.length oc) r.n (.slice sa r.sto.length sc))[37]?=some (.slice ma r.m.length mc):=gA_get ok.h 0
 have x38:(gA r.h (.slice ma r.m.length mc) (.slice oa r.out.length oc) r.n (.slice sa r.sto.length sc))[38]?=some (.slice oa r.out.length oc):=gA_get ok.h 1
 have x39:(gA r.h (.slice ma r.m.length mc) (.slice oa r.out.length oc) r.n (.slice sa r.sto.length sc))[39]?=some (.int .i64 r.n):=gA_get ok.h 2
 have x40:(gA r.h (.slice ma r.m.length mc) (.slice oa r.out.length oc) r.n (.slice sa r.sto.length sc))[40]?=some (.slice sa r.sto.length sc):=gA_get ok.h 3
 have y37:(gA r.h (.slice ma2 r.m.length mc2) (.slice oa2 r.out.length oc2) r.n (.slice sa2 r.sto.length sc2))[37]?=some (.slice ma2 r.m.length mc2):=gA_get ok.h 0
 have y38:(gA r.h (.slice ma2 r.m.length mc2) (.slice oa2 r.out.length oc2) r.n (.slice sa2 r.sto.length sc2))[38]?=some (.slice oa2 r.out.length oc2):=gA_get ok.h 1
 have y39:(gA r.h (.slice ma2 r.m.length mc2) (.slice oa2 r.out.length oc2) r.n (.slice sa2 r.sto.length sc2))[39]?=some (.int .i64 r.n):=gA_get ok.h 2
 have y40:(gA r.h (.slice ma2 r.m.length mc2) (.slice oa2 r.out.length oc2) r.n (.slice sa2 r.sto.length sc2))[40]?=some (.slice sa2 r.sto.length sc2):=gA_get ok.h 3
 clear m1 m2 oo oo2 so so2 w1 w2 ok
 generalize gA r.h (.slice ma r.m.length mc) (.slice oa r.out.length oc) r.n (.slice sa r.sto.length sc)=A1 at *
 generalize gA r.h (.slice ma2 r.m.length mc2) (.slice oa2 r.out.length oc2) r.n (.slice sa2 r.sto.length sc2)=A2 at *
 generalize hsl:r.sto.length=sn at *
 have HSL:Hid (r.sto.length=sn):=hsl
 clear hsl
 generalize r.m.length=mn at *
 generalize r.out.length=on at *
 generalize (r.n:Int)=rn at *
 have HA1:Hid (((w.alloc (.cells A1 50)).alloc (.cells A2 50)).heap[w.heap.size]?=some (.cells A1 50 (0,0))):=heap_alloc2_old w _ _
 have HA2:Hid (((w.alloc (.cells A1 50)).alloc (.cells A2 50)).heap[w.heap.size+1]?=some (.cells A2 50 (0,0))):=heap_alloc2_new w _ _
 have R1:Hid (((w.alloc (.cells A1 50)).alloc (.cells A2 50)).rangeAt w.heap.size 0 (hL r.h)):=fun j v hv=>by rw [Nat.zero_add];exact (cr HA1.out).trans (HX1.out j v hv)
 have R2:Hid (((w.alloc (.cells A1 50)).alloc (.cells A2 50)).rangeAt (w.heap.size+1) 0 (hL r.h)):=fun j v hv=>by rw [Nat.zero_add];exact (cr HA2.out).trans (HX2.out j v hv)
 go_enter Tryd.func21,Tryd.ntmps21
 go_wp2_with (first
  | (refine wpList_load_mid rfl 43 (.tmp 6) rfl w.heap.size 0 rfl (hL r.h) _ ?lm1 Tryd.underlying43 rfl (by rw [HL.out];exact iHa) ?_;(case lm1=>exact R1.out))
  | (refine wpList_load_mid rfl 43 (.tmp 8) rfl (w.heap.size+1) 0 rfl (hL r.h) _ ?lm2 Tryd.underlying43 rfl (by rw [HL.out];exact iHa) ?_;(case lm2=>exact R2.out)))
 refine (By.out _ (((Gr.refl _).alloc _).alloc _)).mono ?_
 rintro e w0 ⟨rfl,rfl⟩
 clear By R1 R2 ne
 go_wp2_with fail
 refine (Wo.out _ (((Gr.refl _).alloc _).alloc _)).mono ?_
 rintro e w3 ⟨rfl,G3⟩
 have HG3:Hid (Gr w w3):=(((Gr.refl _).alloc _).alloc _).trans G3
 have HB1:Hid (w3.heap[w.heap.size]?=some (.cells A1 50 (0,0))):=heap_up G3 HA1.out
 have HB2:Hid (w3.heap[w.heap.size+1]?=some (.cells A2 50 (0,0))):=heap_up G3 HA2.out
 clear G3 Wo HA1 HA2 HX1 HX2
 go_wp2_with fail
 go_loopw [5] (fun i wr=>∃j:Nat,j≤sn∧i=.int .i64 j∧wr.heap[w.heap.size]?=some (.cells A1 50 (0,0))∧wr.heap[w.heap.size+1]?=some (.cells A2 50 (0,0))∧Gr w wr) (fun i _=>sn-(intOf i).toNat)
 case atStart=>exact ⟨0,Nat.zero_le _,rfl,HB1.out,HB2.out,HG3.out⟩
 case round=>
  obtain ⟨j,hj,rfl,B1,B2,G⟩:=hrel
  have HC1:Hid (wr.heap[w.heap.size]?=some (.cells A1 50 (0,0))):=B1
  have HC2:Hid (wr.heap[w.heap.size+1]?=some (.cells A2 50 (0,0))):=B2
  have HG:Hid (Gr w wr):=G
  have k1:wr.cell? ⟨w.heap.size,40,none⟩=some (.slice sa sn sc):=(cr B1).trans x40
  have k2:wr.cell? ⟨w.heap.size+1,40,none⟩=some (.slice sa2 sn sc2):=(cr B2).trans y40
  clear B1 B2 G
  by_cases hlt:j<sn
  ·obtain ⟨p,hp⟩:∃p,r.sto[j]?=some p:=⟨_,List.getElem?_eq_getElem (by rw [HSL.out];exact hlt)⟩
   obtain ⟨g1,g2,rfl,rfl,l1,l2,⟨p0,p1⟩,⟨q0,q1⟩⟩:=HC.out j p hp
   have P0:=(HG.out.cell ⟨g1,j*2,none⟩ (by exact l1)).trans p0
   have P1:=(HG.out.cell ⟨g1,j*2+1,none⟩ (by exact l1)).trans p1
   have Q0:=(HG.out.cell ⟨g2,j*2,none⟩ (by exact l2)).trans q0
   have Q1:=(HG.out.cell ⟨g2,j*2+1,none⟩ (by exact l2)).trans q1
   clear HC hp p0 p1 q0 q1
   generalize Wd.lo (p.1+p.2)=y at *
   generalize p.1=x at *
   go_wp2
   go_quiet (fail)
   go_wp2
   go_roundw
   case rel=>exact ⟨j+1,by omega,by go_num,heapD HC1.out,heapD HC2.out,HG.out.drewN _⟩
   case measure=>simp [intOf];omega
  ·go_wp2
   go_ret
   exact ⟨rfl,HG.out⟩
end Go.Proofs.YtkdghgiajifbdaaDoor.Mi
