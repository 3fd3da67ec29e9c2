/-
  Mq, Mh, Mr, Ref5a, Heq, Hw, Mb1, Ref4a, Ref4b, Hm7, Mb2, Mb3, Hm3, Hm4: texts of ours that lie in one file.
-/
import Derived.Test.YtkdghgiajifbdaaDoorQ10
import Derived.Test.YtkdghgiajifbdaaDoorQ09
import Derived.ChangeKeysEq
import Derived.Laws.StructEq
import Derived.Test.YtkdghgiajifbdaaDoorQ03
import Derived.Test.YtkdghgiajifbdaaDoorQ02
import Derived.Test.YtkdghgiajifbdaaDoorQ01
import Derived.Test.YtkdghgiajifbdaaDoorQ05
import Derived.Test.YtkdghgiajifbdaaDoorQ06
import Derived.Deep.RegionHeld3
set_option linter.unusedVariables false
set_option linter.unusedSimpArgs false
set_option maxHeartbeats 8000000
set_option maxRecDepth 100000
namespace Go.Proofs.YtkdghgiajifbdaaDoor.Mc
open Mm Hh Wd

def StOk (l:List UInt8) (p:Int×Int):Prop:=0≤p.1∧0<p.2∧p.1+p.2≤l.length
theorem sto_st {l:List UInt8}{op a:Int}(ha:0≤a)(h:stOk l op a=true):StOk l (a,(ssz op:Nat)):=by
 unfold stOk thr at h
 rw [decide_eq_true_eq] at h
 exact ⟨ha,by simpa using h.1,h.2.2⟩
theorem eff_sto {h:Hv}(o:h.Ok)(l:List UInt8){op a b n:Int}(ha:W a):∀p∈(eff h l op a b n).sto,StOk l p:=by
 unfold eff
 intro p hp
 split at hp
 ·simp at hp
 split at hp
 ·simp at hp
 split at hp
 ·simp at hp
 split at hp
 ·unfold efLoad at hp;split at hp<;>simp at hp
 split at hp
 ·unfold efStore at hp
  split at hp
  ·simp at hp
   subst hp
   exact sto_st (W.lo _).1 (by assumption)
  ·simp at hp
 split at hp
 ·simp at hp
 split at hp
 ·simp at hp
 split at hp
 ·unfold efAtom at hp
  split at hp
  ·unfold efLr at hp;split at hp<;>simp at hp
  split at hp
  ·unfold efSc at hp
   split at hp
   ·split at hp
    ·simp at hp
     subst hp
     exact sto_st (op:=18) ha.1 (st_of_ld (by assumption))
    ·simp at hp
   ·simp at hp
  ·unfold efAmo at hp
   split at hp
   ·simp at hp
    subst hp
    exact sto_st (op:=18) ha.1 (st_of_ld (by assumption))
   ·simp at hp
 split at hp
 ·unfold efCall at hp
  split at hp
  ·simp at hp
  ·split at hp<;>simp at hp
 split at hp<;>simp at hp
theorem stp_sto {h:Hv}(o:h.Ok)(l:List UInt8):(∀p∈(stp h l).sto,StOk l p)∧(stp h l).sto.length≤1:=by
 unfold stp insW ins
 split
 ·split
  ·exact ⟨fun p hp=>by simp at hp,by simp⟩
  ·exact ⟨eff_sto o l (W.reg o _),(eff_ok o l (W.reg o _) (W.reg o _) (W.lo _)).sto⟩
 ·exact ⟨fun p hp=>by simp at hp,by simp⟩
end Go.Proofs.YtkdghgiajifbdaaDoor.Mc
namespace Go.Proofs.YtkdghgiajifbdaaDoor.Mc
open Go.ChangeShapes Go.WideShapes Go.ChangeAt Go.RowKit Mm Hh

end Go.Proofs.YtkdghgiajifbdaaDoor.Mc
namespace Go.Proofs.YtkdghgiajifbdaaDoor.Mc
open Go.ChangeShapes Go.WideShapes Go.ChangeAt Go.RowKit Mm Hh

variable {w : World} {g : Nat} {h : Hv}
theorem heap_setCells {t:Nat}(g:Nat):∀(vs:List Value) (o:Nat) (w:World) (cs:List Value),w.heap[g]?=some (.cells cs.toArray t (0,0))→o+vs.length≤cs.length→(w.setCells g o vs).heap[g]?=some (.cells (cs.take o++vs++cs.drop (o+vs.length)).toArray t (0,0))
 | [],o,w,cs,h,_=>by simp [World.setCells,h]
 | v::r,o,w,cs,h,hl=>by
  rw [World.setCells]
  have h1:=heap_setCell_same w g o _ _ v h
  simp only [List.setIfInBounds_toArray] at h1
  simp only [List.length_cons] at hl
  rw [heap_setCells g r (o+1) _ (cs.set o v) h1 (by simp;omega)]
  have e1:(cs.set o v).take (o+1)=cs.take o++[v]:=by
   rw [List.take_add_one,List.take_set,List.set_eq_of_length_le (by simp;omega)]
   simp [show o<cs.length by omega]
  have e2:(cs.set o v).drop (o+1+r.length)=cs.drop (o+(r.length+1)):=by
   rw [List.drop_set_of_lt (by omega)]
   congr 1
   omega
  rw [e1,e2]
  simp only [List.length_cons,List.append_assoc,List.cons_append,List.nil_append]
end Go.Proofs.YtkdghgiajifbdaaDoor.Mc
namespace Go.Proofs.YtkdghgiajifbdaaDoor.Mc
open Go.ChangeShapes Go.WideShapes Go.ChangeAt Go.RowKit Mm Hh

end Go.Proofs.YtkdghgiajifbdaaDoor.Mc
namespace Go.Proofs.YtkdghgiajifbdaaDoor.Hc
open Go.ChangeShapes Go.WideShapes Go.ChangeAt Go.RowKit Mm Hh

theorem list32 {l:List Int}(h:l.length=32):∃a0 a1 a2 a3 a4 a5 a6 a7 a8 a9 b0 b1 b2 b3 b4 b5 b6 b7 b8 b9 c0 c1 c2 c3 c4 c5 c6 c7 c8 c9 d0 d1,l=[a0,a1,a2,a3,a4,a5,a6,a7,a8,a9,b0,b1,b2,b3,b4,b5,b6,b7,b8,b9,c0,c1,c2,c3,c4,c5,c6,c7,c8,c9,d0,d1]:=by
 match l,h with
 | [a0,a1,a2,a3,a4,a5,a6,a7,a8,a9,b0,b1,b2,b3,b4,b5,b6,b7,b8,b9,c0,c1,c2,c3,c4,c5,c6,c7,c8,c9,d0,d1],_=>exact ⟨_,_,_,_,_,_,_,_,_,_,_,_,_,_,_,_,_,_,_,_,_,_,_,_,_,_,_,_,_,_,_,_,rfl⟩
theorem eq_items (d:Nat)(w:World)(xs:Array Value):∀is:List Nat,(∀i∈is,∃a,xs[i*1]?=some (.int .u32 a))→(Op.eqItems (d+1) 24 1 xs xs is).run Tryd.prog w=.ok true w
 | [],_=>by simp [Op.eqItems]
 | i::is,h=>by
  obtain ⟨a,ha⟩:=h i (by simp)
  have hp:Tryd.prog.plainKey 24=true:=by kernel_rfl
  have ih:=eq_items d w xs is (fun j hj=>h j (by simp [hj]))
  simp only [Op.eqItems,Sem.run_bind,run_part_plain w hp ha,Result.andThen_ok,run_equalIn_int w d 24 .u32 .u32 a a Tryd.underlying24,beq_self_eq_true,Bool.not_true,Bool.false_eq_true,if_false]
  exact ih
theorem eq_row (w:World)(xs:Array Value)(h:∀i,i<32→∃a,xs[i]?=some (.int .u32 a)):(Op.equalIn 9999 41 (.agg xs) (.agg xs)).run Tryd.prog w=.ok true w:=by
 obtain ⟨i0,hi,_,_,_⟩:=info_parts (by kernel_rfl:(Tryd.prog.info? 24).map (fun i=>(i.zero,i.size,i.bytes))=some (some (Value.int .u32 0),1,4))
 rw [run_equalIn_array w 9998 xs xs Tryd.underlying41 hi]
 rw [show Tryd.prog.cellsOf 24=1 by kernel_rfl]
 exact eq_items 9997 w xs _ (fun i hm=>by rw [Nat.mul_one];exact h i (List.mem_range.1 hm))
theorem eql_hart {h:Hv}(o:h.Ok)(w:World):(binOp .eql 43 (.agg (hA h)) (.agg (hA h))).run Tryd.prog w=.ok (.bool true) w:=by
 obtain ⟨a0,a1,a2,a3,a4,a5,a6,a7,a8,a9,b0,b1,b2,b3,b4,b5,b6,b7,b8,b9,c0,c1,c2,c3,c4,c5,c6,c7,c8,c9,d0,d1,e⟩:=list32 o.len
 obtain ⟨rs,pc,held,hat,st,cs⟩:=h
 subst e
 show (binOp .eql 43 (.agg #[.int .u32 a0,.int .u32 a1,.int .u32 a2,.int .u32 a3,.int .u32 a4,.int .u32 a5,.int .u32 a6,.int .u32 a7,.int .u32 a8,.int .u32 a9,.int .u32 b0,.int .u32 b1,.int .u32 b2,.int .u32 b3,.int .u32 b4,.int .u32 b5,.int .u32 b6,.int .u32 b7,.int .u32 b8,.int .u32 b9,.int .u32 c0,.int .u32 c1,.int .u32 c2,.int .u32 c3,.int .u32 c4,.int .u32 c5,.int .u32 c6,.int .u32 c7,.int .u32 c8,.int .u32 c9,.int .u32 d0,.int .u32 d1,.int .u32 pc,.bool held,.int .u32 hat,.int .i64 st,.int .i64 cs]) (.agg #[.int .u32 a0,.int .u32 a1,.int .u32 a2,.int .u32 a3,.int .u32 a4,.int .u32 a5,.int .u32 a6,.int .u32 a7,.int .u32 a8,.int .u32 a9,.int .u32 b0,.int .u32 b1,.int .u32 b2,.int .u32 b3,.int .u32 b4,.int .u32 b5,.int .u32 b6,.int .u32 b7,.int .u32 b8,.int .u32 b9,.int .u32 c0,.int .u32 c1,.int .u32 c2,.int .u32 c3,.int .u32 c4,.int .u32 c5,.int .u32 c6,.int .u32 c7,.int .u32 c8,.int .u32 c9,.int .u32 d0,.int .u32 d1,.int .u32 pc,.bool held,.int .u32 hat,.int .i64 st,.int .i64 cs])).run Tryd.prog w=.ok (.bool true) w
 have hr:=eq_row w #[.int .u32 a0,.int .u32 a1,.int .u32 a2,.int .u32 a3,.int .u32 a4,.int .u32 a5,.int .u32 a6,.int .u32 a7,.int .u32 a8,.int .u32 a9,.int .u32 b0,.int .u32 b1,.int .u32 b2,.int .u32 b3,.int .u32 b4,.int .u32 b5,.int .u32 b6,.int .u32 b7,.int .u32 b8,.int .u32 b9,.int .u32 c0,.int .u32 c1,.int .u32 c2,.int .u32 c3,.int .u32 c4,.int .u32 c5,.int .u32 c6,.int .u32 c7,.int .u32 c8,.int .u32 c9,.int .u32 d0,.int .u32 d1] (fun i hi=>by
  match i,hi with
  | 0,_=>exact ⟨_,rfl⟩
  | 1,_=>exact ⟨_,rfl⟩
  | 2,_=>exact ⟨_,rfl⟩
  | 3,_=>exact ⟨_,rfl⟩
  | 4,_=>exact ⟨_,rfl⟩
  | 5,_=>exact ⟨_,rfl⟩
  | 6,_=>exact ⟨_,rfl⟩
  | 7,_=>exact ⟨_,rfl⟩
  | 8,_=>exact ⟨_,rfl⟩
  | 9,_=>exact ⟨_,rfl⟩
  | 10,_=>exact ⟨_,rfl⟩
  | 11,_=>exact ⟨_,rfl⟩
  | 12,_=>exact ⟨_,rfl⟩
  | 13,_=>exact ⟨_,rfl⟩
  | 14,_=>exact ⟨_,rfl⟩
  | 15,_=>exact ⟨_,rfl⟩
  | 16,_=>exact ⟨_,rfl⟩
  | 17,_=>exact ⟨_,rfl⟩
  | 18,_=>exact ⟨_,rfl⟩
  | 19,_=>exact ⟨_,rfl⟩
  | 20,_=>exact ⟨_,rfl⟩
  | 21,_=>exact ⟨_,rfl⟩
  | 22,_=>exact ⟨_,rfl⟩
  | 23,_=>exact ⟨_,rfl⟩
  | 24,_=>exact ⟨_,rfl⟩
  | 25,_=>exact ⟨_,rfl⟩
  | 26,_=>exact ⟨_,rfl⟩
  | 27,_=>exact ⟨_,rfl⟩
  | 28,_=>exact ⟨_,rfl⟩
  | 29,_=>exact ⟨_,rfl⟩
  | 30,_=>exact ⟨_,rfl⟩
  | 31,_=>exact ⟨_,rfl⟩
  | n+32,h=>omega)
 go_simp
end Go.Proofs.YtkdghgiajifbdaaDoor.Hc
namespace Go.Proofs.YtkdghgiajifbdaaDoor.Hc
open Go.ChangeShapes Go.WideShapes Go.ChangeAt Go.RowKit Mm Hh

structure Wm (w:World) (ao:Option Addr) (n:Nat) (os:List Int):Prop where
 len:os.length=n
 nil:ao=none→n=0
 cell:∀ad,ao=some ad→∀t,t<n→w.cell? (ad.add t)=some (.int .u32 (os.getD t 0))
theorem Wm.of {w w':World}{ao:Option Addr}{n:Nat}{os:List Int}(h:Wm w ao n os)(g:Gr w w'):Wm w' ao n os:=
 ⟨h.len,h.nil,fun ad e t ht=>(g.cell _ (World.block_lt_of_cell? w _ (h.cell ad e t ht))).trans (h.cell ad e t ht)⟩
theorem Wm.spot {w:World}{ao:Option Addr}{n:Nat}{os:List Int}(h:Wm w ao n os)(hn:0<n):
  ∃b o,ao=some ⟨b,o,none⟩∧b<w.heap.size∧∀t,t<n→w.cell? ⟨b,o+t,none⟩=some (.int .u32 (os.getD t 0)):=by
 cases ao with
 | none=>exact absurd (h.nil rfl) (by omega)
 | some ad=>
  obtain ⟨b,o,s⟩:=ad
  have hs:s=none:=by simpa [Addr.add] using World.cell?_spot (h.cell _ rfl 0 hn)
  subst hs
  have hb:b<w.heap.size:=by simpa [Addr.add] using World.block_lt_of_cell? w _ (h.cell _ rfl 0 hn)
  exact ⟨b,o,rfl,hb,fun t ht=>by rw [←add_at];exact h.cell _ rfl t ht⟩
theorem wm_own {w:World}{base n:Nat}{v:Value}{os:List Int}(hl:os.length=n)(h:w.ownsRow base 24 1 v n (os.map (Value.int .u32))):∃ao cap,v=.slice ao n cap∧Wm w ao n os:=by
 obtain ⟨_,h⟩:=h
 rcases h with ⟨rfl,h0⟩|⟨g,cap,cur,rfl,hb,hg,hn,hm,hs,ht⟩
 ·subst h0
  exact ⟨none,0,rfl,hl,fun _=>rfl,fun ad e=>(by cases e)⟩
 ·refine ⟨_,cap,rfl,hl,fun e=>(by cases e),fun ad e t htn=>?_⟩
  obtain rfl:=Option.some.inj e
  rw [add_at,Nat.zero_add,cr hg]
  have h1:(cur.toList.take (n*1))[t]?=some (.int .u32 (os.getD t 0)):=by
   rw [ht,List.getElem?_map]
   simp [List.getD,List.getElem?_eq_getElem (show t<os.length by omega)]
  rw [List.getElem?_take_of_lt (by omega)] at h1
  simpa using h1
theorem Words_zero (a b:Option Addr)(c d:Nat)(w:World):Calls Tryd.prog 44 #[.slice a 0 c,.slice b 0 d] w fun e w'=>e=.returned (.bool true)∧Gr w w':=by
 go_enter Tryd.func44,Tryd.ntmps44
 go_wp2
 go_loopw [5] (fun i wr=>i=.int .i64 0∧wr=w) (fun _ _=>0)
 case atStart=>exact ⟨rfl,rfl⟩
 case round=>
  obtain ⟨rfl,rfl⟩:=hrel
  go_wp2
  go_ret
  exact ⟨rfl,Gr.refl _⟩
theorem Words_pos {w:World}{b1 o1 b2 o2 n:Nat}{os:List Int}(c d:Nat)(hn:n≤1000000)(h1:∀t,t<n→w.cell? ⟨b1,o1+t,none⟩=some (.int .u32 (os.getD t 0)))(h2:∀t,t<n→w.cell? ⟨b2,o2+t,none⟩=some (.int .u32 (os.getD t 0))):
  Calls Tryd.prog 44 #[.slice (some ⟨b1,o1,none⟩) n c,.slice (some ⟨b2,o2,none⟩) n d] w fun e w'=>e=.returned (.bool true)∧Gr w w':=by
 have H1:Hid _:=h1
 have H2:Hid _:=h2
 clear h1 h2
 go_enter Tryd.func44,Tryd.ntmps44
 go_wp2
 go_loopw [5] (fun i wr=>∃k:Nat,k≤n∧i=.int .i64 k∧∃m,wr=w.drewN m) (fun i _=>n-(intOf i).toNat)
 case atStart=>exact ⟨0,Nat.zero_le _,rfl,0,rfl⟩
 case round=>
  obtain ⟨k,hk,rfl,m,rfl⟩:=hrel
  by_cases hlt:k<n
  ·have q1:=H1.out k hlt
   have q2:=H2.out k hlt
   generalize os.getD k 0=y at *
   go_wp2_with fail
   go_quiet (fail)
   go_wp2_with fail
   go_roundw
   case rel=>exact ⟨k+1,by omega,by go_num,_,rfl⟩
   case measure=>simp [intOf];omega
  ·go_wp2
   go_ret
   exact ⟨rfl,(Gr.refl _).drewN _⟩
theorem Words_same {w:World}{a b:Option Addr}{n:Nat}{os:List Int}(c d:Nat)(hn:n≤1000000)(A:Wm w a n os)(B:Wm w b n os):Calls Tryd.prog 44 #[.slice a n c,.slice b n d] w fun e w'=>e=.returned (.bool true)∧Gr w w':=by
 by_cases h0:n=0
 ·subst h0;exact Words_zero a b c d w
 ·obtain ⟨b1,o1,rfl,_,h1⟩:=A.spot (by omega)
  obtain ⟨b2,o2,rfl,_,h2⟩:=B.spot (by omega)
  exact Words_pos c d hn h1 h2
section
variable {a : Act} {w : World}
end
end Go.Proofs.YtkdghgiajifbdaaDoor.Hc
namespace Go.Proofs.YtkdghgiajifbdaaDoor.Mc
open Go.ChangeShapes Go.WideShapes Go.ChangeAt Go.RowKit Mm Hh Hc

end Go.Proofs.YtkdghgiajifbdaaDoor.Mc
namespace Go.Proofs.YtkdghgiajifbdaaDoor.Hr
open Go.ChangeShapes Go.WideShapes Go.ChangeAt Go.RowKit Mm Hh

variable {d : Dv}
theorem iD:(Tryd.prog.info? 95).map (·.size)=some 41:=by kernel_rfl
theorem iH:(Tryd.prog.info? 43).map (·.size)=some 37:=by kernel_rfl
theorem ret_int {k:IntKind}{a b:Int}(h:a=b):Ending.returned (.int k a)=.returned (.int k b):=by rw [h]
theorem sum_any (a b:Int)(w:World)(ha:0≤a)(ha':a<4294967296)(hb:0≤b)(hb':b<4294967296):
  Calls Tryd.prog 78 #[.int .u32 a,.int .u32 b] w fun e w'=>e=.returned (.int .u32 (Wd.lo (a+b)))∧w'=w:=by
 go_enter Tryd.func78,Tryd.ntmps78
 go_wp2_with (go_at_call 75;refine (Rw.alu_28 _ _ _ ha ha' hb hb').mono ?_;rintro e w' ⟨rfl,rfl⟩)
 go_ret
 exact ⟨ret_int rfl,rfl⟩
theorem operation_any (op:Int)(w:World):Calls Tryd.prog 81 #[.int .i64 op] w fun e w'=>e=.returned (.int .i64 (opn op))∧w'=w:=by
 go_enter Tryd.func81,Tryd.ntmps81
 go_wp2
 all_goals
  go_ret
  refine ⟨ret_int ?_,rfl⟩
  simp only [beq_iff_eq,beq_eq_false_iff_ne,ne_eq] at *
  unfold opn
  repeat' split
  all_goals omega
theorem trap_any (o:d.Ok)(c:Int)(w:World):
  Calls Tryd.prog 77 #[.agg (dA d),.int .i64 c] w fun e w'=>e=.returned (.agg (dA (d.setH (d.h.trap c))))∧Gr w w':=by
 have o1:Hv.Ok { d.h with state:=2 }:=⟨o.h.len,o.h.reg,o.h.pc0,o.h.pc1,o.h.at0,o.h.at1⟩
 have e1:(dA d).setIfInBounds 35 (.int .i64 2)=dA { d with h:={ d.h with state:=2 } }:=dA_set o.h (by omega) (set_state o.h 2)
 have e2:(dA { d with h:={ d.h with state:=2 } }).setIfInBounds 36 (.int .i64 c)=dA (d.setH (d.h.trap c)):=dA_set (d:={ d with h:={ d.h with state:=2 } }) o1 (by omega) (set_cause o1 c)
 have hs:=dA_size o.h
 have s1:(dA { d with h:={ d.h with state:=2 } }).size=41:=dA_size (d:={ d with h:={ d.h with state:=2 } }) o1
 have S2:Hid ((dA (d.setH (d.h.trap c))).size=41):=dA_size (d:=d.setH (d.h.trap c)) (o.h.trap c)
 have H1:Hid ((dA (d.setH (d.h.trap c))).all (·.oneCell')=true):=one_dA (o.setH (o.h.trap c))
 generalize dA { d with h:={ d.h with state:=2 } }=D1 at *
 generalize dA (d.setH (d.h.trap c))=D2 at *
 generalize dA d=D0 at *
 clear o1 o
 go_enter Tryd.func77,Tryd.ntmps77
 go_wp2_with (first
  | (refine wpList_load_row rfl 95 _ rfl _ rfl _ _ _ _ (heap_alloc2_old w _ _) Tryd.underlying95 rfl (by rw [S2.out];exact iD) ?_)
  | (refine wpList_store_row rfl 95 _ _ rfl _ _ rfl rfl _ _ (heap_alloc2_new w _ _) (by rw [S2.out];exact iD) (by rw [S2.out];rfl) H1.out ?_))
 refine bodyPost_ret (v:=.agg D2) (results_cell_row rfl _ _ _ _ _ (0,0) _ rfl (heap_setRow2 w _ _ _ _) Tryd.underlying95 rfl (by rw [S2.out];exact iD)) rfl ⟨rfl,?_⟩
 exact gr_setRow (((Gr.refl _).alloc _).alloc _) (Nat.le_succ _) _
theorem set_any (o:d.Ok)(r x:Int)(w:World)(h0:0≤r)(h1:r<32)(hx0:0≤x)(hx1:x<4294967296):
  Calls Tryd.prog 79 #[.agg (dA d),.int .i64 r,.int .u32 x] w fun e w'=>e=.returned (.agg (dA (d.setH (d.h.set r.toNat x))))∧Gr w w':=by
 have hs:=dA_size o.h
 have S2:Hid ((dA (d.setH (d.h.set r.toNat x))).size=41):=dA_size (d:=d.setH (d.h.set r.toNat x)) (o.h.set _ hx0 hx1)
 have H1:Hid ((dA (d.setH (d.h.set r.toNat x))).all (·.oneCell')=true):=one_dA (o.setH (o.h.set _ hx0 hx1))
 obtain ⟨r,rfl⟩:=Int.eq_ofNat_of_zero_le h0
 simp only [Int.toNat_natCast] at *
 by_cases hr:r=0
 ·subst hr
  have e:d.setH (d.h.set 0 x)=d:=rfl
  rw [e] at S2 H1 ⊢
  generalize dA d=D2 at *
  clear o e
  go_enter Tryd.func79,Tryd.ntmps79
  go_wp2_with (first
   | (refine wpList_load_row rfl 95 _ rfl _ rfl _ _ _ _ (heap_alloc2_old w _ _) Tryd.underlying95 rfl (by rw [S2.out];exact iD) ?_)
   | (refine wpList_store_row rfl 95 _ _ rfl _ _ rfl rfl _ _ (heap_alloc2_new w _ _) (by rw [S2.out];exact iD) (by rw [S2.out];rfl) H1.out ?_))
  refine bodyPost_ret (v:=.agg D2) (results_cell_row rfl _ _ _ _ _ (0,0) _ rfl (heap_setRow2 w _ _ _ _) Tryd.underlying95 rfl (by rw [S2.out];exact iD)) rfl ⟨rfl,?_⟩
  exact gr_setRow (((Gr.refl _).alloc _).alloc _) (Nat.le_succ _) _
 ·have e1:(dA d).setIfInBounds r (.int .u32 x)=dA (d.setH (d.h.set r x)):=by
   have:d.h.set r x={ d.h with regs:=d.h.regs.set r x }:=if_neg hr
   rw [this]
   exact dA_set o.h (by omega) (set_reg o.h (by omega) x)
  have hr':¬(r:Int)=0:=by omega
  have hr2:r<32:=by omega
  have hget:(dA d)[r]?=some (.int .u32 (rg d.h r)):=by rw [dA_get o.h (by omega)];exact hL_reg o.h hr2
  generalize rg d.h r=y at *
  generalize dA (d.setH (d.h.set r x))=D2 at *
  generalize dA d=D0 at *
  clear o
  clear hs
  go_enter Tryd.func79,Tryd.ntmps79
  go_wp2_with (first
   | (refine wpList_load_row rfl 95 _ rfl _ rfl _ _ _ _ (heap_alloc2_old w _ _) Tryd.underlying95 rfl (by rw [S2.out];exact iD) ?_)
   | (refine wpList_store_row rfl 95 _ _ rfl _ _ rfl rfl _ _ (heap_alloc2_new w _ _) (by rw [S2.out];exact iD) (by rw [S2.out];rfl) H1.out ?_))
  refine bodyPost_ret (v:=.agg D2) (results_cell_row rfl _ _ _ _ _ (0,0) _ rfl (heap_setRow2 w _ _ _ _) Tryd.underlying95 rfl (by rw [S2.out];exact iD)) rfl ⟨rfl,?_⟩
  exact gr_setRow (((Gr.refl _).alloc _).alloc _) (Nat.le_succ _) _
end Go.Proofs.YtkdghgiajifbdaaDoor.Hr
namespace Go.Proofs.YtkdghgiajifbdaaDoor.Hr
open Go.ChangeShapes Go.WideShapes Go.ChangeAt Go.RowKit Mm Hh

variable {d : Dv} {w w' : World} {ao : Option Addr} {n cap : Nat} {l : List UInt8}
theorem dA_setM (o:d.Ok)(m:Value)(a k:Int):(((dA d).setIfInBounds 37 m).setIfInBounds 39 (.int .u32 a)).setIfInBounds 40 (.int .i64 k)=dA (d.setM m a k):=by
 have:=hL_len o.h
 unfold dA Dv.setM
 simp only [List.setIfInBounds_toArray]
 rw [List.set_append_right _ _ (by omega),List.set_append_right _ _ (by omega),List.set_append_right _ _ (by omega),this]
 rfl
theorem results_cell_tmp' {P:Program}{fn:Func}{p t:Tmp}{ty:TypeId}(h:fn.results=#[.cell p ty,.tmp t])(tmps:Array Value)(w:World)(g:Nat)(tt:TypeId)(cs:Array Value)(fr:Nat×Nat)(d:TypeDesc)
  (v:Value)(hp:tmps.getD p undef=.pointer (some ⟨g,0,none⟩))(hv:tmps.getD t undef=v)(hg:w.heap[g]?=some (.cells cs tt fr))
  (hu:P.underlying ty=some d)(hd:(match d with|.struct _|.array _ _=>true|_=>false)=true)(hi:(P.info? ty).map (·.size)=some cs.size):
  (results fn tmps).run P w=.ok (.tuple #[.agg cs,v]) w:=by
 subst hv
 have hp':tmps[p]?.getD undef=.pointer (some ⟨g,0,none⟩):=by simpa using hp
 simp [results,h,hp',asAddr,run_loadVar_row w g tt ty cs fr d hg hu hd hi]
theorem heap_of_gr (g:Gr w w'){k:Nat}{x:Obj}(h:w.heap[k]?=some x):w'.heap[k]?=some x:=by
 rw [Below.block g k (gs h).1];exact h
theorem two_blocks {A:Array Value}{t:Nat}{Z:Array Value}(g:Gr ((w.alloc (.cells A t)).alloc (.cells Z t)) w')(hz:Z.size=41):
  w'.heap[w.heap.size]?=some (.cells A t (0,0))∧∃Z:Array Value,Z.size=41∧w'.heap[w.heap.size+1]?=some (.cells Z t (0,0)):=
 ⟨heap_of_gr g (heap_alloc2_old w _ _),Z,hz,heap_of_gr g (heap_alloc2_new w _ _)⟩
theorem store_no (o:d.Ok)(hm:d.m=.slice ao n cap)(op a x:Int)(M:Mem w ao n l)(hn:n≤140737488351232)(h0:0≤a)(h1:a<4294967296)(hx0:0≤x)(hx1:x<4294967296)(ok:stOk l op a=false):
  Calls Tryd.prog 80 #[.agg (dA d),.int .i64 op,.int .u32 a,.int .u32 x] w fun e w'=>e=.returned (.tuple #[.agg (dA d),.bool false])∧Gr w w':=by
 have S:Hid (∀W:World,Gr w W→Calls Tryd.prog 73 #[.slice ao n cap,.int .i64 op,.int .u32 a,.int .u32 x] W fun e w'=>∃ao' n' cap',e=.returned (.tuple #[.slice ao' n' cap',.bool false])∧Mem w' ao' n' (stL l op a x)∧Gr W w'):=fun W G=>by
  have:=Mr.Store_any cap op a x (M.of G) hn h0 h1 hx0 hx1
  rwa [ok] at this
 have g37:(dA d)[37]?=some (.slice ao n cap):=by rw [dA_fld o.h 0];simp [hm]
 have hs:Hid ((dA d).size=41):=dA_size o.h
 have H1:Hid ((dA d).all (·.oneCell')=true):=one_dA o
 generalize dA d=D0 at *
 clear M hm ok o
 go_enter Tryd.func80,Tryd.ntmps80
 go_wp2_with fail
 refine (S.out _ (((Gr.refl _).alloc _).alloc _)).mono ?_
 rintro e w1 ⟨a1,n1,c1,rfl,M1,G1⟩
 obtain ⟨hB,Z,hz,hR⟩:=two_blocks G1 rfl
 have HG:Hid (Gr w w1):=(((Gr.refl _).alloc _).alloc _).trans G1
 have HB:Hid _:=hB
 have HR:Hid _:=hR
 clear M1 G1 S hB hR
 go_wp2_with (first
  | (refine wpList_load_row rfl 95 _ rfl _ rfl _ _ _ _ HB.out Tryd.underlying95 rfl (by rw [hs.out];exact iD) ?_)
  | (refine wpList_store_row rfl 95 _ _ rfl _ _ rfl rfl _ _ HR.out (by rw [hs.out];exact iD) (by rw [hs.out,hz]) H1.out ?_))
 refine bodyPost_ret (v:=.tuple #[.agg D0,.bool false]) (results_cell_tmp' Tryd.results80 _ _ _ _ _ (0,0) _ _ rfl rfl (srh HR.out) Tryd.underlying95 rfl (by rw [hs.out];exact iD)) rfl ⟨rfl,?_⟩
 exact gr_setRow HG.out (Nat.le_succ _) _
theorem store_yes {d:Dv}(o:d.Ok){ao:Option Addr}{n cap:Nat}{l:List UInt8}(hm:d.m=.slice ao n cap)(op a x:Int){w:World}(M:Mem w ao n l)(hn:n≤140737488351232)(h0:0≤a)(h1:a<4294967296)(hx0:0≤x)(hx1:x<4294967296)(ok:stOk l op a=true):
  Calls Tryd.prog 80 #[.agg (dA d),.int .i64 op,.int .u32 a,.int .u32 x] w fun e w'=>∃ao' n' cap',e=.returned (.tuple #[.agg (dA (d.setM (.slice ao' n' cap') a (ssz op:Nat))),.bool true])∧Mem w' ao' n' (stL l op a x)∧Gr w w'∧∀ad,ao'=some ad→w.heap.size≤ad.block∧n'≤cap':=by
 have S:Hid (∀W:World,Gr w W→Calls Tryd.prog 73 #[.slice ao n cap,.int .i64 op,.int .u32 a,.int .u32 x] W fun e w'=>∃ao' n' cap',e=.returned (.tuple #[.slice ao' n' cap',.bool true])∧Mem w' ao' n' (stL l op a x)∧Gr W w'∧∀ad,ao'=some ad→W.heap.size≤ad.block∧n'≤cap'):=fun W G=>by
  have:=Mr.Store_new cap op a x (M.of G) hn h0 h1 hx0 hx1
  rwa [ok] at this
 have g37:(dA d)[37]?=some (.slice ao n cap):=by rw [dA_fld o.h 0];simp [hm]
 have g39:(dA d)[39]?=some (.int .u32 d.fro):=by rw [dA_fld o.h 2];rfl
 have g40:(dA d)[40]?=some (.int .i64 d.many):=by rw [dA_fld o.h 3];rfl
 have hs:Hid ((dA d).size=41):=dA_size o.h
 have E:Hid (∀(a1:Option Addr) (n1 c1:Nat),(((dA d).setIfInBounds 37 (.slice a1 n1 c1)).setIfInBounds 39 (.int .u32 a)).setIfInBounds 40 (.int .i64 (ssz op:Nat))=dA (d.setM (.slice a1 n1 c1) a (ssz op:Nat))):=fun a1 n1 c1=>dA_setM o _ _ _
 have SE:Hid (∀(a1:Option Addr) (n1 c1:Nat),(dA (d.setM (.slice a1 n1 c1) a (ssz op:Nat))).size=41):=fun a1 n1 c1=>dA_size (d:=d.setM _ _ _) o.h
 have H1:Hid (∀(a1:Option Addr) (n1 c1:Nat),(dA (d.setM (.slice a1 n1 c1) a (ssz op:Nat))).all (·.oneCell')=true):=fun a1 n1 c1=>one_dA ⟨o.h,rfl,o.out⟩
 generalize d.fro=y1 at *
 generalize d.many=y2 at *
 generalize dA d=D0 at *
 clear M hm ok o
 go_enter Tryd.func80,Tryd.ntmps80
 go_wp2_with fail
 refine (S.out _ (((Gr.refl _).alloc _).alloc _)).mono ?_
 rintro e w1 ⟨a1,n1,c1,rfl,M1,G1,F1⟩
 have HF:Hid (∀ad,a1=some ad→w.heap.size+1<ad.block∧n1≤c1):=fun ad q=>by have:=F1 ad q;simp at this;omega
 obtain ⟨hB,Z,hz,hR⟩:=two_blocks G1 rfl
 have HG:Hid (Gr w w1):=(((Gr.refl _).alloc _).alloc _).trans G1
 have HM:Hid (Mem w1 a1 n1 (stL l op a x)):=M1
 have c37:w1.cell? ⟨w.heap.size,37,none⟩=some (.slice ao n cap):=by rw [cell_of_row _ _ _ _ _ _ hB];exact g37
 have c39:w1.cell? ⟨w.heap.size,39,none⟩=some (.int .u32 y1):=by rw [cell_of_row _ _ _ _ _ _ hB];exact g39
 have c40:w1.cell? ⟨w.heap.size,40,none⟩=some (.int .i64 y2):=by rw [cell_of_row _ _ _ _ _ _ hB];exact g40
 have fz:∀j,w1.frozen? ⟨w.heap.size,j,none⟩=false:=fun j=>frozen_of_row _ _ j _ _ hB
 have hSE:=SE.out a1 n1 c1
 have hE:=E.out a1 n1 c1
 have hH:=H1.out a1 n1 c1
 clear SE E H1
 generalize hD:dA (d.setM (.slice a1 n1 c1) a (ssz op:Nat))=D2 at *
 have HD:Hid (dA (d.setM (.slice a1 n1 c1) a (ssz op:Nat))=D2):=hD
 clear hD F1
 have HB:Hid ((((w1.setCell ⟨w.heap.size,37,none⟩ (.slice a1 n1 c1)).setCell ⟨w.heap.size,39,none⟩ (.int .u32 a)).setCell ⟨w.heap.size,40,none⟩ (.int .i64 (ssz op:Nat))).heap[w.heap.size]?=some (.cells D2 95 (0,0))):=by
  rw [←hE]
  exact heap_setCell_same _ _ _ _ _ _ (heap_setCell_same _ _ _ _ _ _ (heap_setCell_same _ _ _ _ _ _ hB))
 have HR:Hid ((((w1.setCell ⟨w.heap.size,37,none⟩ (.slice a1 n1 c1)).setCell ⟨w.heap.size,39,none⟩ (.int .u32 a)).setCell ⟨w.heap.size,40,none⟩ (.int .i64 (ssz op:Nat))).heap[w.heap.size+1]?=some (.cells Z 95 (0,0))):=by
  show _=_
  rw [heap_setCell_other _ _ _ _ (by simp),heap_setCell_other _ _ _ _ (by simp),heap_setCell_other _ _ _ _ (by simp)]
  exact hR
 have HS:Hid (D2.size=41):=hSE
 have HO:Hid (D2.all (·.oneCell')=true):=hH
 clear M1 G1 S hB hR hSE hE hH g37 g39 g40 hs
 go_wp2_with (first
  | (go_at_call 65;refine (Mr.Size_store _ _).mono ?_;rintro e w' ⟨rfl,rfl⟩)
  | (refine wpList_load_row rfl 95 _ rfl w.heap.size rfl 95 D2 (0,0) _ ?hb1 Tryd.underlying95 rfl (by rw [HS.out];exact iD) ?_;(case hb1=>exact HB.out))
  | (refine wpList_store_row rfl 95 _ _ rfl (w.heap.size+1) D2 rfl rfl 95 Z ?hb2 (by rw [HS.out];exact iD) (by rw [HS.out,hz]) HO.out ?_;(case hb2=>exact HR.out)))
 refine bodyPost_ret (v:=.tuple #[.agg D2,.bool true]) (results_cell_tmp' Tryd.results80 _ _ _ _ _ (0,0) _ _ rfl rfl (setRow_heap _ _ _ _ _ (0,0) HR.out) Tryd.underlying95 rfl (by rw [HS.out];exact iD)) rfl ⟨a1,n1,c1,by rw [HD.out],?_,?_,fun ad q=>by have:=HF.out ad q;omega⟩
 ·refine HM.out.apart fun ad q=>?_
  have:=HF.out ad q
  rw [setRow_other _ _ _ _ (by omega),heap_setCell_other _ _ _ _ (by simp;omega),heap_setCell_other _ _ _ _ (by simp;omega),heap_setCell_other _ _ _ _ (by simp;omega)]
 ·exact gr_setRow (((HG.out.setCell (Nat.le_refl _) _).setCell (Nat.le_refl _) _).setCell (Nat.le_refl _) _) (Nat.le_succ _) _
end Go.Proofs.YtkdghgiajifbdaaDoor.Hr
namespace Go.Proofs.YtkdghgiajifbdaaDoor.Hc
open Go.ChangeShapes Go.WideShapes Go.ChangeAt Go.RowKit Mm Hh

end Go.Proofs.YtkdghgiajifbdaaDoor.Hc
namespace Go.Proofs.YtkdghgiajifbdaaDoor.Mc
open Go.ChangeShapes Go.WideShapes Go.ChangeAt Go.RowKit Mm Hh Hc

end Go.Proofs.YtkdghgiajifbdaaDoor.Mc
namespace Go.Proofs.YtkdghgiajifbdaaDoor.Mc
open Go.ChangeShapes Go.WideShapes Go.ChangeAt Go.RowKit Mm Hh Hc

section

end

end Go.Proofs.YtkdghgiajifbdaaDoor.Mc
namespace Go.Proofs.YtkdghgiajifbdaaDoor.Hc
open Go.ChangeShapes Go.WideShapes Go.ChangeAt Go.RowKit Mm Hh
abbrev Ptr (g:Nat):Value:=.pointer (some ⟨g,0,none⟩)
end Go.Proofs.YtkdghgiajifbdaaDoor.Hc
namespace Go.Proofs.YtkdghgiajifbdaaDoor.Hc
open Go.ChangeShapes Go.WideShapes Go.ChangeAt Go.RowKit Mm Hh

end Go.Proofs.YtkdghgiajifbdaaDoor.Hc
