/-
  Bm1, Bm2, Mw: texts of ours that lie in one file.
-/
import Derived.Test.YtkdghgiajifbdaaDoorQ15
import Derived.Test.YtkdghgiajifbdaaDoorQ03
import Derived.Test.YtkdghgiajifbdaaDoorQ25
import Derived.Test.YtkdghgiajifbdaaDoorQ06
import Derived.Test.YtkdghgiajifbdaaDoorQ09
set_option linter.unusedVariables false
set_option linter.unusedSimpArgs false
set_option maxHeartbeats 8000000
set_option maxRecDepth 100000
namespace Go.Proofs.YtkdghgiajifbdaaDoor.Bk
open Go.ChangeShapes Go.WideShapes Go.ChangeAt Go.RowKit Mm Hh Hc

variable {w W w' : World} {base e sz n b t k g : Nat} {v z0 z1 : Value} {xs : List Value}
def bkP (n:Nat) (pc:Int):Int:=if 4096<n then 0 else pc
def bkX (n:Nat) (l:List UInt8) (pc:Int):List Int:=if 4096<n then [] else blk l pc 16 0
theorem iB:(Tryd.prog.info? 34).map (·.size)=some 2:=by kernel_rfl
theorem infoI:(Tryd.prog.info? 23).map (fun i=>(i.zero,i.size,i.bytes))=some (some (.agg #[.int .i64 0,.int .i64 0,.int .i64 0,.int .i64 0,.int .i32 0]),5,40):=by kernel_rfl
theorem owns_form (h:w.ownsRow base e sz v n xs):∃a c,v=.slice a n c:=by
 rcases h.2 with ⟨rfl,rfl⟩|⟨g,cap,_,rfl,_⟩
 ·exact ⟨none,0,rfl⟩
 ·exact ⟨_,cap,rfl⟩
theorem owns_base {b':Nat}(h:w.ownsRow b e sz v n xs)(hb:b'≤b):w.ownsRow b' e sz v n xs:=by
 refine ⟨h.1,?_⟩
 rcases h.2 with h|⟨g',cap,cur,hv,hb1,r⟩
 ·exact .inl h
 ·exact .inr ⟨g',cap,cur,hv,by omega,r⟩
theorem five_cells {x0 x1 x2 x3 x4:Value}(h0:W.cell? ⟨b,0,none⟩=some x0)(h1:W.cell? ⟨b,1,none⟩=some x1)(h2:W.cell? ⟨b,2,none⟩=some x2)(h3:W.cell? ⟨b,3,none⟩=some x3)(h4:W.cell? ⟨b,4,none⟩=some x4):∀j u,([x0,x1,x2,x3,x4]:List Value)[j]?=some u→W.cell? ((⟨b,0,none⟩:Addr).add j)=some u:=by
 intro j u hj
 rw [add_at]
 match j,hj with
 | 0,hj=>simp at hj;subst hj;exact h0
 | 1,hj=>simp at hj;subst hj;exact h1
 | 2,hj=>simp at hj;subst hj;exact h2
 | 3,hj=>simp at hj;subst hj;exact h3
 | 4,hj=>simp at hj;subst hj;exact h4
structure Aft (w w3:World) (g gi:Nat) (pc:Int) (v:Value) (k:Nat) (xs:List Value) (y:Value):Prop where
 b1:w3.heap[g+1]?=some (.cells #[.int .u32 pc,v] 34 (0,0))
 b0:w3.heap[g]?=some (.cells #[.int .u32 0,.slice none 0 0] 34 (0,0))
 own:w3.ownsRow (g+2) 23 5 v k xs
 gr:Gr w w3
 op:w3.cell? ⟨gi,0,none⟩=some y
theorem grown_hold {O:Value}(hO:w.ownsRow base e sz O n xs)(q:w.grownBy w' O.ownBlock)(ht:t≠e){o:Array Value}{f:Nat×Nat}(hk:w.heap[k]?=some (.cells o t f)):w'.heap[k]?=some (.cells o t f):=
 (q.block k (gs hk).1 (fun h=>by
  rcases hO.2 with ⟨h0,_⟩|⟨g',cap,cur,hv,_,hg,_⟩
  ·rw [h0] at h;cases h
  ·rw [hv] at h
   injection h with h
   exact ne_of_types hk hg ht h)).trans hk
theorem heap_held (g:Gr w w'){x:Obj}(h:w.heap[k]?=some x):w'.heap[k]?=some x:=by
 rw [Below.block g k (gs h).1];exact h
theorem aft {wr w1 w2:World}{pc:Int}{S v':Value}{xs':List Value}{Y Z:Array Value}{y:Value}(hg:w.heap.size=g)(B1:wr.heap[g+1]?=some (.cells #[.int .u32 pc,S] 34 (0,0)))(B0:wr.heap[g]?=some (.cells #[.int .u32 0,.slice none 0 0] 34 (0,0)))
  (O:wr.ownsRow (g+2) 23 5 S k xs)(G:Gr w wr)(G1:Gr wr w1)(q:((w1.alloc (.cells Y 23)).alloc (.cells Z 23)).grownBy w2 S.ownBlock)(O2:w2.ownsRow (g+2) 23 5 v' (k+1) xs')(hy:Y[0]?=some y):
  w2.cell? ⟨g+1,1,none⟩=some S∧w2.frozen? ⟨g+1,1,none⟩=false∧Aft w (w2.setCell ⟨g+1,1,none⟩ v') g w1.heap.size pc v' (k+1) xs' y:=by
 have G2:Gr wr ((w1.alloc (.cells Y 23)).alloc (.cells Z 23)):=(G1.alloc _).alloc _
 have O1:=owns_gr O G2
 have b1:=grown_hold O1 q (by decide) (heap_held G2 B1)
 have b0:=grown_hold O1 q (by decide) (heap_held G2 B0)
 have hY:w2.heap[w1.heap.size]?=some (.cells Y 23 (0,0)):=by
  have e:((w1.alloc (.cells Y 23)).alloc (.cells Z 23)).heap[w1.heap.size]?=some (.cells Y 23 (0,0)):=heap_alloc2_old w1 _ _
  refine (q.block _ (gs e).1 (fun h=>?_)).trans e
  have:=(O.lt _ h.symm).2
  have:=G1.size
  omega
 have ne:∀{t:Nat},t≠34→∀{k:Nat} {o:Array Value} {f:Nat×Nat},w2.heap[k]?=some (.cells o t f)→(w2.setCell ⟨g+1,1,none⟩ v').heap[k]?=w2.heap[k]?:=fun ht _ _ _ hk=>hso (by exact ne_of_types hk b1 ht)
 refine ⟨cr b1,fzr b1,?_,?_,?_,?_,?_⟩
 ·rw [hss b1];rfl
 ·exact (hso (by show g≠g+1;omega)).trans b0
 ·exact owns_to O2 fun k o f hk=>ne (by decide) hk
 ·refine Gr.setCell ?_ (by show w.heap.size≤g+1;omega) _
  exact (G.trans G2).grown q (fun b e=>by have:=(O.lt b e).1;omega)
 ·exact (cr ((ne (by decide) hY).trans hY)).trans hy
theorem two_set (h:W.heap[g]?=some (.cells #[z0,z1] t (0,0)))(a b:Value):((W.setCell ⟨g,0,none⟩ a).setCell ⟨g,1,none⟩ b).heap[g]?=some (.cells #[a,b] t (0,0)):=by
 have h0:=heap_setCell_same W g 0 _ _ a h
 exact heap_setCell_same _ g 1 _ _ b h0
theorem two_owns (h:W.ownsRow base 23 5 v n xs)(hb:W.heap[g]?=some (.cells #[z0,z1] 34 (0,0)))(hg:g≤base)(a b:Value):((W.setCell ⟨g,0,none⟩ a).setCell ⟨g,1,none⟩ b).ownsRow g 23 5 v n xs:=
 owns_base (owns_to h fun k o f hk=>by
  have e:=ne_of_types hk hb (by decide)
  rw [hso (by exact e),hso (by exact e)]) hg
theorem ins_oneL (x0 x1 x2 x3 x4:Int):∀u∈([.int .i64 x0,.int .i64 x1,.int .i64 x2,.int .i64 x3,.int .i32 x4]:List Value),u.oneCell'=true:=by
 intro u hu
 simp only [List.mem_cons,List.not_mem_nil,or_false] at hu
 rcases hu with rfl|rfl|rfl|rfl|rfl<;>rfl
end Go.Proofs.YtkdghgiajifbdaaDoor.Bk
namespace Go.Proofs.YtkdghgiajifbdaaDoor.Bk
open Go.ChangeShapes Go.WideShapes Go.ChangeAt Go.RowKit Mm Hh Hc

variable {w : World} {n : Nat}
theorem Last_any (op:Int)(w:World):Calls Tryd.prog 39 #[.int .i64 op] w fun e w'=>e=.returned (.bool (lastOp op))∧w'=w:=by
 go_enter Tryd.func39,Tryd.ntmps39
 go_wp2
 all_goals
  go_ret
  refine ⟨Dw.ret_bool ?_,rfl⟩
  simp only [beq_iff_eq,beq_eq_false_iff_ne,ne_eq] at *
  unfold lastOp
  first|exact (decide_eq_true (by omega)).symm|exact (decide_eq_false (by omega)).symm
theorem RMake_no (ao:Option Addr)(cap:Nat)(l:List UInt8)(pc:Int)(hn:4096<n)(hn2:n≤140737488351232):
  Calls Tryd.prog 17 #[.slice ao n cap,.int .u32 pc] w fun e w'=>∃v,e=.returned (.agg #[.int .u32 (bkP n pc),v])∧w'.ownsRow w.heap.size 23 5 v (bkX n l pc).length (blC (bkX n l pc))∧Gr w w':=by
 have e1:bkP n pc=0:=if_pos hn
 have e2:bkX n l pc=[]:=if_pos hn
 rw [e1,e2]
 clear e1 e2
 go_enter Tryd.func17,Tryd.ntmps17
 go_wp2_with fail
 refine bodyPost_ret (v:=.agg #[.int .u32 0,.slice none 0 0]) (results_cell_row rfl _ _ _ _ _ (0,0) _ rfl (heap_alloc_new w _) Tryd.underlying34 rfl iB) rfl ⟨_,rfl,World.ownsRow_nil _ _ _ _,?_⟩
 exact (Gr.refl _).alloc _
def lenAt (w:World) (g:Nat):Nat:=match w.cell? ⟨g,1,none⟩ with|some (.slice _ k _)=>k|_=>0
theorem lenAt_of {g:Nat}{v a:Value}{s:Option Addr}{k c:Nat}{t:Nat}(h:w.heap[g]?=some (.cells #[v,.slice s k c] t (0,0))):lenAt w g=k:=by
 unfold lenAt
 rw [show w.cell? ⟨g,1,none⟩=some (.slice s k c) from cr h]
theorem RMake_yes {w:World}{ao:Option Addr}{n:Nat}(cap:Nat){l:List UInt8}(pc:Int)(M:Mem w ao n l)(hn:n≤4096)(h0:0≤pc)(h1:pc<4294967296):
  Calls Tryd.prog 17 #[.slice ao n cap,.int .u32 pc] w fun e w'=>∃v,e=.returned (.agg #[.int .u32 (bkP n pc),v])∧w'.ownsRow w.heap.size 23 5 v (bkX n l pc).length (blC (bkX n l pc))∧Gr w w':=by
 have e1:bkP n pc=pc:=if_neg (by omega)
 have e2:bkX n l pc=blk l pc 16 0:=if_neg (by omega)
 rw [e1,e2]
 have L:Hid (∀(k:Nat) (W:World),Gr w W→Calls Tryd.prog 38 #[.slice ao n cap,.int .i64 13,.int .u32 ((pc+4*(k:Int))%4294967296)] W fun e w'=>e=.returned (.tuple #[.int .u32 (ldV l 13 (at4 pc k)),.bool (ldOk l 13 (at4 pc k))])∧w'=W):=fun k W G=>Mr.Load_any cap 13 (at4 pc k) (M.of G) (by omega) (at4_bd pc k).1 (at4_bd pc k).2
 have D:Hid (∀(k:Nat) (W:World),Calls Tryd.prog 13 #[.int .u32 (ldV l 13 (at4 pc k))] W fun e w'=>e=.returned (.tuple #[Dw.decV (ldV l 13 (at4 pc k)),.bool (Dw.decOk (ldV l 13 (at4 pc k)))])∧Gr W w'):=fun k V=>by
  have wx:=W.ldV l 13 (at4 pc k)
  have R:=Re.RDecode_any (ldV l 13 (at4 pc k)) wx.1 wx.2
  unfold Re.RDec at R
  exact (R V).mono fun e w' h=>⟨h.1,h.2.1⟩
 obtain ⟨i0,hi,hz0,hz1,hz2⟩:=info_parts infoI
 clear e1 e2 M
 go_enter Tryd.func17,Tryd.ntmps17
 go_wp2_with fail
 go_loopw [] (fun wr=>∃(k:Nat) (xs:List Int) (a:Option Addr) (c:Nat),k≤16∧xs.length=k∧xs++blk l pc (16-k) k=blk l pc 16 0∧wr.heap[w.heap.size+1]?=some (.cells #[.int .u32 pc,.slice a k c] 34 (0,0))∧wr.heap[w.heap.size]?=some (.cells #[.int .u32 0,.slice none 0 0] 34 (0,0))∧wr.ownsRow (w.heap.size+2) 23 5 (.slice a k c) k (blC xs)∧Gr w wr) (fun wr=>16-lenAt wr (w.heap.size+1))
 case atStart=>exact ⟨0,[],none,0,by omega,rfl,rfl,heap_alloc2_new w _ _,heap_alloc2_old w _ _,World.ownsRow_nil _ _ _ _,((Gr.refl _).alloc _).alloc _⟩
 case round=>
  obtain ⟨k,xs,a,c,hk,hl,hx,B1,B0,O,G⟩:=hrel
  have HM:Hid (lenAt wr (w.heap.size+1)=k):=lenAt_of (a:=.bool true) B1
  have HX:Hid (xs++blk l pc (16-k) k=blk l pc 16 0):=hx
  have HL:Hid (xs.length=k):=hl
  have HB1:Hid (wr.heap[w.heap.size+1]?=some (.cells #[.int .u32 pc,.slice a k c] 34 (0,0))):=B1
  have HB0:Hid (wr.heap[w.heap.size]?=some (.cells #[.int .u32 0,.slice none 0 0] 34 (0,0))):=B0
  have HO:Hid (wr.ownsRow (w.heap.size+2) 23 5 (.slice a k c) k (blC xs)):=O
  have HG:Hid (Gr w wr):=G
  have hlt:w.heap.size+1<wr.heap.size:=(Array.getElem?_eq_some_iff.1 B1).1
  clear hl hx B1 B0 O G
  have p1:wr.cell? ⟨w.heap.size+1,1,none⟩=some (.slice a k c):=cell_of_row _ _ _ _ _ _ HB1.out
  by_cases h16:k<16
  ·have LK:Hid _:=L.out k
   have DK:Hid _:=D.out k
   have DO:Hid (Dw.decOk (ldV l 13 (at4 pc k))=decide (Dc.dop (ldV l 13 (at4 pc k))≠0)):=rfl
   have FO:Hid (ftC l (at4 pc k)=if ldOk l 13 (at4 pc k)=true then (if Dc.dop (ldV l 13 (at4 pc k))=0 then 2 else 0) else 1):=rfl
   have HA:Hid (¬ftC l (at4 pc k)=0→xs=blk l pc 16 0):=fun h=>by
    have e:=HX.out
    rw [show 16-k=(15-k)+1 by omega,blk_stop h,List.append_nil] at e
    exact e
   have HBe:Hid (ftC l (at4 pc k)=0→lastOp (Dc.dop (ldV l 13 (at4 pc k)))=true→xs++[ldV l 13 (at4 pc k)]=blk l pc 16 0):=fun h h2=>by
    have e:=HX.out
    rw [show 16-k=(15-k)+1 by omega,blk_last h h2] at e
    exact e
   have HC:Hid (ftC l (at4 pc k)=0→lastOp (Dc.dop (ldV l 13 (at4 pc k)))=false→(xs++[ldV l 13 (at4 pc k)])++blk l pc (16-(k+1)) (k+1)=blk l pc 16 0):=fun h h2=>by
    have e:=HX.out
    rw [show 16-k=(15-k)+1 by omega,blk_on h h2] at e
    rw [show 16-(k+1)=15-k by omega]
    simpa using e
   have HIC:Hid (insC (ldV l 13 (at4 pc k))=[.int .i64 (Dc.dop (ldV l 13 (at4 pc k))),.int .i64 (Dc.rdF (Dc.frm (Dc.dop (ldV l 13 (at4 pc k)))) (ldV l 13 (at4 pc k))),.int .i64 (Dc.rs1F (Dc.frm (Dc.dop (ldV l 13 (at4 pc k)))) (ldV l 13 (at4 pc k))),.int .i64 (Dc.rs2F (Dc.frm (Dc.dop (ldV l 13 (at4 pc k)))) (ldV l 13 (at4 pc k))),.int .i32 (Dc.immF (Dc.frm (Dc.dop (ldV l 13 (at4 pc k)))) (ldV l 13 (at4 pc k)))]):=rfl
   clear HX
   unfold Dw.decV Dw.insV at DK
   clear L D
   generalize Dw.decOk (ldV l 13 (at4 pc k))=dk at *
   generalize ldOk l 13 (at4 pc k)=B at *
   generalize ldV l 13 (at4 pc k)=X at *
   generalize ftC l (at4 pc k)=cc at *
   generalize Dc.rdF (Dc.frm (Dc.dop X)) X=x1 at *
   generalize Dc.rs1F (Dc.frm (Dc.dop X)) X=x2 at *
   generalize Dc.rs2F (Dc.frm (Dc.dop X)) X=x3 at *
   generalize Dc.immF (Dc.frm (Dc.dop X)) X=x4 at *
   generalize Dc.dop X=x0 at *
   have LK2:Hid (∀W:World,Gr w W→Calls Tryd.prog 38 #[.slice ao n cap,.int .i64 13,.int .u32 ((pc+4*(k:Int))%4294967296)] W fun e w'=>e=.returned (.tuple #[.int .u32 X,.bool B])∧w'=W):=LK
   have DK2:Hid (∀W:World,Calls Tryd.prog 13 #[.int .u32 X] W fun e w'=>e=.returned (.tuple #[.agg #[.int .i64 x0,.int .i64 x1,.int .i64 x2,.int .i64 x3,.int .i32 x4],.bool dk])∧Gr W w'):=DK
   clear LK DK
   cases B with
   | false=>
    have HXE:Hid (xs=blk l pc 16 0):=HA.out (by rw [FO.out,if_neg (by simp)];omega)
    clear DK2 HBe HC HA HIC DO FO
    go_wp2_with fail
    refine (LK2.out _ HG.out).mono ?_
    rintro e w1 ⟨rfl,rfl⟩
    clear LK2
    have HOW:Hid (w1.ownsRow (w.heap.size+2) 23 5 (.slice a (k) c) (blk l pc 16 0).length (blC (blk l pc 16 0))):=(by unfold Hid;rw [←HXE.out,HL.out];exact HO.out)
    have q0:w1.cell? ⟨w.heap.size+1,0,none⟩=some (.int .u32 pc):=cell_of_row _ _ _ _ _ _ HB1.out
    have q1:w1.cell? ⟨w.heap.size+1,1,none⟩=some (.slice a (k) c):=cell_of_row _ _ _ _ _ _ HB1.out
    have r0:w1.cell? ⟨w.heap.size,0,none⟩=some (.int .u32 0):=cell_of_row _ _ _ _ _ _ HB0.out
    have r1:w1.cell? ⟨w.heap.size,1,none⟩=some (.slice none 0 0):=cell_of_row _ _ _ _ _ _ HB0.out
    have f0:∀j,w1.frozen? ⟨w.heap.size,j,none⟩=false:=fun j=>frozen_of_row _ _ _ _ _ HB0.out
    go_wp2_with fail
    refine bodyPost_ret (v:=.agg #[.int .u32 pc,.slice a (k) c]) (results_cell_row Tryd.results17 _ _ _ _ _ (0,0) _ rfl (two_set HB0.out _ _) Tryd.underlying34 rfl iB) rfl ⟨_,rfl,?_,?_⟩
    ·exact two_owns HOW.out HB0.out (by omega) _ _
    ·exact (HG.out.setCell (Nat.le_refl _) _).setCell (Nat.le_refl _) _
   | true=>
    by_cases hd:x0=0
    ·have hdk:dk=false:=by rw [DO.out];simp [hd]
     have HXE:Hid (xs=blk l pc 16 0):=HA.out (by rw [FO.out,if_pos rfl,if_pos hd];omega)
     subst hdk
     clear HBe HC HA HIC DO FO hd
     go_wp2_with fail
     refine (LK2.out _ HG.out).mono ?_
     rintro e w1 ⟨rfl,rfl⟩
     clear LK2
     go_wp2_with fail
     refine (DK2.out _).mono ?_
     rintro e w2 ⟨rfl,G1⟩
     have HGA:Hid (Gr w1 (w2.alloc (.cells #[.int .i64 x0,.int .i64 x1,.int .i64 x2,.int .i64 x3,.int .i32 x4] 23))):=G1.alloc _
     clear G1 DK2
     have HOW:Hid ((w2.alloc (.cells #[.int .i64 x0,.int .i64 x1,.int .i64 x2,.int .i64 x3,.int .i32 x4] 23)).ownsRow (w.heap.size+2) 23 5 (.slice a (k) c) (blk l pc 16 0).length (blC (blk l pc 16 0))):=(by unfold Hid;rw [←HXE.out,HL.out];exact owns_gr HO.out HGA.out)
     have q0:(w2.alloc (.cells #[.int .i64 x0,.int .i64 x1,.int .i64 x2,.int .i64 x3,.int .i32 x4] 23)).cell? ⟨w.heap.size+1,0,none⟩=some (.int .u32 pc):=cell_of_row _ _ _ _ _ _ (heap_held HGA.out HB1.out)
     have q1:(w2.alloc (.cells #[.int .i64 x0,.int .i64 x1,.int .i64 x2,.int .i64 x3,.int .i32 x4] 23)).cell? ⟨w.heap.size+1,1,none⟩=some (.slice a (k) c):=cell_of_row _ _ _ _ _ _ (heap_held HGA.out HB1.out)
     have r0:(w2.alloc (.cells #[.int .i64 x0,.int .i64 x1,.int .i64 x2,.int .i64 x3,.int .i32 x4] 23)).cell? ⟨w.heap.size,0,none⟩=some (.int .u32 0):=cell_of_row _ _ _ _ _ _ (heap_held HGA.out HB0.out)
     have r1:(w2.alloc (.cells #[.int .i64 x0,.int .i64 x1,.int .i64 x2,.int .i64 x3,.int .i32 x4] 23)).cell? ⟨w.heap.size,1,none⟩=some (.slice none 0 0):=cell_of_row _ _ _ _ _ _ (heap_held HGA.out HB0.out)
     have f0:∀j,(w2.alloc (.cells #[.int .i64 x0,.int .i64 x1,.int .i64 x2,.int .i64 x3,.int .i32 x4] 23)).frozen? ⟨w.heap.size,j,none⟩=false:=fun j=>frozen_of_row _ _ _ _ _ (heap_held HGA.out HB0.out)
     go_wp2_with fail
     refine bodyPost_ret (v:=.agg #[.int .u32 pc,.slice a (k) c]) (results_cell_row Tryd.results17 _ _ _ _ _ (0,0) _ rfl (two_set (heap_held HGA.out HB0.out) _ _) Tryd.underlying34 rfl iB) rfl ⟨_,rfl,?_,?_⟩
     ·exact two_owns HOW.out (heap_held HGA.out HB0.out) (by omega) _ _
     ·exact ((HG.out.trans HGA.out).setCell (Nat.le_refl _) _).setCell (Nat.le_refl _) _
    ·have hdk:dk=true:=by rw [DO.out];simp [hd]
     have hcc:cc=0:=by rw [FO.out,if_pos rfl,if_neg hd]
     subst hdk hcc
     clear HA DO FO hd
     go_wp2_with fail
     refine (LK2.out _ HG.out).mono ?_
     rintro e w0 ⟨rfl,rfl⟩
     clear LK2
     go_wp2_with fail
     refine (DK2.out _).mono ?_
     rintro e w1 ⟨rfl,G1⟩
     have HG1:Hid (Gr w0 w1):=G1
     have q1:w1.cell? ⟨w.heap.size+1,1,none⟩=some (.slice a k c):=cell_of_row _ _ _ _ _ _ (heap_held G1 HB1.out)
     have hlt1:w.heap.size+1<w1.heap.size:=Nat.lt_of_lt_of_le hlt G1.size
     clear G1 DK2 p1
     have HA:Hid True:=trivial
     go_wp2_with (at_builtin;refine wpList_append_own _ rfl (.tmp 44) (.tmp 46) 32 rfl (w.heap.size+2) 23 i0 (.agg #[.int .i64 0,.int .i64 0,.int .i64 0,.int .i64 0,.int .i32 0]) 5 40 Tryd.underlying32 hi hz0 hz1 hz2 rfl (by decide) (.slice a k c) k (blC xs) rfl (owns_gr HO.out ((HG1.out.alloc _).alloc _)) ⟨w1.heap.size+1,0,none⟩ 1 1 [.int .i64 x0,.int .i64 x1,.int .i64 x2,.int .i64 x3,.int .i32 x4] rfl rfl (five_cells (by simp) (by simp) (by simp) (by simp) (by simp)) (ins_oneL _ _ _ _ _) (by unfold maxLen;omega) (by omega) (by simp;omega) ?_;intro v' w2 hown hgrow _;obtain ⟨a',c',rfl⟩:=owns_form hown;obtain ⟨z1,z2,A0⟩:=aft rfl HB1.out HB0.out HO.out HG.out HG1.out hgrow hown (y:=.int .i64 x0) (by simp);have HF:Hid (Aft w (w2.setCell ⟨w.heap.size+1,1,none⟩ (.slice a' (k+1) c')) w.heap.size w1.heap.size pc (.slice a' (k+1) c') (k+1) (blC xs++[.int .i64 x0,.int .i64 x1,.int .i64 x2,.int .i64 x3,.int .i32 x4]) (.int .i64 x0)):=A0;have z3:=A0.op;clear A0 hown hgrow)
     clear z1 z2 z3 HO HB1 HB0 HG HG1 q1
     generalize w2.setCell ⟨w.heap.size+1,1,none⟩ (.slice a' (k+1) c')=w3 at *
     have HLN:Hid ((xs++[X]).length=k+1):=by unfold Hid;rw [List.length_append,HL.out];rfl
     have HCC:Hid (blC (xs++[X])=blC xs++[.int .i64 x0,.int .i64 x1,.int .i64 x2,.int .i64 x3,.int .i32 x4]):=by unfold Hid;rw [blC_snoc,HIC.out]
     cases hL:lastOp x0 with
     | true=>
      have HE:Hid (∀W:World,Calls Tryd.prog 39 #[.int .i64 x0] W fun e w'=>e=.returned (.bool true)∧w'=W):=fun W=>by have:=Last_any x0 W;rwa [hL] at this
      have HXE:Hid (xs++[X]=blk l pc 16 0):=HBe.out (by simp) hL
      refine (HE.out _).mono ?_
      rintro e w4 ⟨rfl,rfl⟩
      clear HE hL HBe HC HA
      have HOW:Hid (w4.ownsRow (w.heap.size+2) 23 5 (.slice a' (k+1) c') (blk l pc 16 0).length (blC (blk l pc 16 0))):=(by unfold Hid;rw [←HXE.out,HLN.out,HCC.out];exact HF.out.own)
      have q0:w4.cell? ⟨w.heap.size+1,0,none⟩=some (.int .u32 pc):=cell_of_row _ _ _ _ _ _ HF.out.b1
      have q1:w4.cell? ⟨w.heap.size+1,1,none⟩=some (.slice a' (k+1) c'):=cell_of_row _ _ _ _ _ _ HF.out.b1
      have r0:w4.cell? ⟨w.heap.size,0,none⟩=some (.int .u32 0):=cell_of_row _ _ _ _ _ _ HF.out.b0
      have r1:w4.cell? ⟨w.heap.size,1,none⟩=some (.slice none 0 0):=cell_of_row _ _ _ _ _ _ HF.out.b0
      have f0:∀j,w4.frozen? ⟨w.heap.size,j,none⟩=false:=fun j=>frozen_of_row _ _ _ _ _ HF.out.b0
      go_wp2_with fail
      refine bodyPost_ret (v:=.agg #[.int .u32 pc,.slice a' (k+1) c']) (results_cell_row Tryd.results17 _ _ _ _ _ (0,0) _ rfl (two_set HF.out.b0 _ _) Tryd.underlying34 rfl iB) rfl ⟨_,rfl,?_,?_⟩
      ·exact two_owns HOW.out HF.out.b0 (by omega) _ _
      ·exact (HF.out.gr.setCell (Nat.le_refl _) _).setCell (Nat.le_refl _) _
     | false=>
      have HE:Hid (∀W:World,Calls Tryd.prog 39 #[.int .i64 x0] W fun e w'=>e=.returned (.bool false)∧w'=W):=fun W=>by have:=Last_any x0 W;rwa [hL] at this
      have HXE:Hid ((xs++[X])++blk l pc (16-(k+1)) (k+1)=blk l pc 16 0):=HC.out (by simp) hL
      refine (HE.out _).mono ?_
      rintro e w4 ⟨rfl,rfl⟩
      clear HE hL HBe HC HA
      go_wp2_with fail
      go_roundw
      case rel=>exact ⟨k+1,xs++[X],a',c',by omega,HLN.out,HXE.out,HF.out.b1,HF.out.b0,by rw [HCC.out];exact HF.out.own,HF.out.gr⟩
      case measure=>
       have e:=lenAt_of (a:=.bool true) HF.out.b1
       have e2:=HM.out
       omega
  ·have k16:k=16:=by omega
   subst k16
   have HXE:Hid (xs=blk l pc 16 0):=by have:=HX.out;rw [blk_zero,List.append_nil] at this;exact this
   clear L D HX
   have HOW:Hid (wr.ownsRow (w.heap.size+2) 23 5 (.slice a (16) c) (blk l pc 16 0).length (blC (blk l pc 16 0))):=(by unfold Hid;rw [←HXE.out,HL.out];exact HO.out)
   have q0:wr.cell? ⟨w.heap.size+1,0,none⟩=some (.int .u32 pc):=cell_of_row _ _ _ _ _ _ HB1.out
   have q1:wr.cell? ⟨w.heap.size+1,1,none⟩=some (.slice a (16) c):=cell_of_row _ _ _ _ _ _ HB1.out
   have r0:wr.cell? ⟨w.heap.size,0,none⟩=some (.int .u32 0):=cell_of_row _ _ _ _ _ _ HB0.out
   have r1:wr.cell? ⟨w.heap.size,1,none⟩=some (.slice none 0 0):=cell_of_row _ _ _ _ _ _ HB0.out
   have f0:∀j,wr.frozen? ⟨w.heap.size,j,none⟩=false:=fun j=>frozen_of_row _ _ _ _ _ HB0.out
   go_wp2_with fail
   refine bodyPost_ret (v:=.agg #[.int .u32 pc,.slice a (16) c]) (results_cell_row Tryd.results17 _ _ _ _ _ (0,0) _ rfl (two_set HB0.out _ _) Tryd.underlying34 rfl iB) rfl ⟨_,rfl,?_,?_⟩
   ·exact two_owns HOW.out HB0.out (by omega) _ _
   ·exact (HG.out.setCell (Nat.le_refl _) _).setCell (Nat.le_refl _) _
end Go.Proofs.YtkdghgiajifbdaaDoor.Bk
namespace Go.Proofs.YtkdghgiajifbdaaDoor.Mi
open Mm Wd Hh

variable {bf bt p steps op a : Int} {k : Nat} {r : Rn} {i : Mv} {h : Hv} {l : List UInt8}
def meet (bf bt:Int) (p:Int×Int):Bool:=decide (max p.1 bf<min (lo (p.1+p.2)) bt)
def ownB (bf bt:Int) (ss:List (Int×Int)):Bool:=ss.any (meet bf bt)
theorem hits_iff (bf bt p:Int):∀k,hits bf bt p k=true↔∃j:Nat,j<k∧bf≤lo (p+j)∧lo (p+j)<bt
 | 0=>⟨fun h=>(by cases h),fun ⟨j,h,_⟩=>absurd h (by omega)⟩
 | k+1=>by
  unfold hits
  rw [Bool.or_eq_true,hits_iff bf bt p k,decide_eq_true_iff]
  constructor
  ·rintro (⟨j,h,q⟩|q)
   ·exact ⟨j,by omega,q⟩
   ·exact ⟨k,by omega,q⟩
  ·rintro ⟨j,h,q⟩
   by_cases e:j=k
   ·subst e;exact .inr q
   ·exact .inl ⟨j,by omega,q⟩
theorem hits_meet (h0:0≤p)(h1:p+k<4294967296)(hk:k≤4):hits bf bt p k=meet bf bt (p,(k:Int)):=by
 have e:∀j:Nat,j≤k→lo (p+j)=p+j:=fun j h=>Int.emod_eq_of_lt (by omega) (by omega)
 rw [Bool.eq_iff_iff,hits_iff]
 unfold meet
 rw [decide_eq_true_iff]
 show _↔max p bf<min (lo (p+k)) bt
 rw [e k (by omega)]
 constructor
 ·rintro ⟨j,hj,a,b⟩
  rw [e j (by omega)] at a b
  rw [Int.max_def,Int.min_def]
  split<;>split<;>omega
 ·intro h
  rw [Int.max_def,Int.min_def] at h
  by_cases c:p≤bf
  ·refine ⟨(bf-p).toNat,?_,?_⟩
   ·split at h<;>split at h<;>omega
   ·rw [e _ (by split at h<;>split at h<;>omega)]
    split at h<;>split at h<;>omega
  ·refine ⟨0,?_,?_⟩
   ·split at h<;>split at h<;>omega
   ·rw [e _ (by omega)]
    split at h<;>split at h<;>omega
theorem holds_no {b:Int}(h:op<5∨10<op):holds op a b=false:=by
 unfold holds
 rw [if_neg (by omega),if_neg (by omega),if_neg (by omega),if_neg (by omega),if_neg (by omega),if_neg (by omega)]
theorem mic_op {c k:Int}(h:100≤c)(hk:0≤k∧k<100)(h2:i.op=c+k)(h3:c%100=0):mic bf bt steps r i=mOp bf bt r c k i:=by
 unfold mic
 rw [if_neg (by omega),if_neg (by omega),if_neg (by omega),if_neg (by omega),if_neg (by omega),if_neg (by omega),show i.op-i.op%100=c by omega,show i.op%100=k by omega]
structure Gd (bf bt:Int) (r:Rn):Prop where
 ok:r.Ok
 st:r.over=false→r.h.state=0
 own:r.own=ownB bf bt r.sto
 len:r.m.length≤4096
theorem Gd.start (o:h.Ok)(hs:h.state=0)(hl:l.length≤4096):Gd bf bt (mstart h l):=
 ⟨⟨o,rfl,fun j=>by match j with|0|1|2|3=>exact W.zero|j+4=>exact W.zero,o.pc0,o.pc1⟩,fun _=>hs,rfl,hl⟩
end Go.Proofs.YtkdghgiajifbdaaDoor.Mi
